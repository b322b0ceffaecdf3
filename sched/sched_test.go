package sched_test

import (
	"math"
	"slices"
	"testing"

	"lamplighter/api"
	"lamplighter/emit"
	"lamplighter/sample"
	"lamplighter/sched"
	"lamplighter/system"
)

// The calls.
func publish(kind, key string, time int64) api.Call {
	return api.Call{Kind: api.CallPublish, E: sample.Event(kind, key, time, 0, 7)}
}

func advance(time int64) api.Call { return api.Call{Kind: api.CallAdvance, T: time} }

func register(id, text string) api.Call {
	return api.Call{Kind: api.CallRegister, Id: id, Text: text}
}

func stats() api.Call { return api.Call{Kind: api.CallStats} }

func end() api.Call { return api.Call{Kind: api.CallClose} }

// of is a system of so many parts, with so much room.
func of(t *testing.T, parts, room int, scripts ...[]api.Call) *system.System {
	t.Helper()
	x, e := system.New(sample.Schema(), parts, room, scripts)
	if e != api.OK {
		t.Fatalf("got %d", e)
	}
	return x
}

// two is a system of two clients, which tells something.
func two(t *testing.T) *system.System {
	t.Helper()
	return of(t, 2, 1, []api.Call{register("p", "SEQ(A a) WITHIN 5"), publish("A", "k", 1), advance(3), publish("A", "l", 4), advance(6), end()}, []api.Call{stats(), stats(), publish("A", "m", 2)})
}

func TestExample(t *testing.T) {
	if got := sched.Pick([]int{3, 5}, -1); got != 5 {
		t.Errorf("got %d", got)
	}
}

func TestPick(t *testing.T) {
	l := []int{7, 3, -9}
	for wish, want := range map[int]int{
		0: 7, 1: 3, 2: -9, 3: 7, 4: 3, 302: -9, -1: -9, -2: 3, -3: 7, -4: -9, -301: -9,
		math.MaxInt: l[math.MaxInt%3], math.MinInt: l[3+math.MinInt%3],
	} {
		if got := sched.Pick(l, wish); got != want {
			t.Errorf("%d: got %d, want %d", wish, got, want)
		}
	}
	for _, wish := range []int{0, 1, -1, math.MaxInt, math.MinInt} {
		if got := sched.Pick(nil, wish); got != -1 || sched.Pick([]int{}, wish) != -1 || sched.Pick([]int{5}, wish) != 5 {
			t.Errorf("%d: got %d", wish, got)
		}
	}
}

func TestRun(t *testing.T) {
	x, wishes := two(t), []int{1, -1, 5, 0, 0, 3}
	var want []int
	y := two(t)
	for _, wish := range wishes {
		task := sched.Pick(y.Enabled(), wish)
		want = append(want, task)
		y.Step(task)
	}
	if got := sched.Run(x, wishes); got != 6 || x.Steps() != 6 || !slices.Equal(x.Events(), y.Events()) {
		t.Errorf("got %d, %d", got, x.Steps())
	}
	z := two(t)
	if got := sched.Record(z, wishes); !slices.Equal(got, want) || z.Steps() != 6 {
		t.Errorf("got %v, want %v", got, want)
	}
	// It stops where nothing can be done, whatever is wished.
	x = two(t)
	many := make([]int, 10000)
	count := sched.Run(x, many)
	if count >= 10000 || count != x.Steps() || !x.Ended() || sched.Run(x, many) != 0 || len(sched.Record(x, many)) != 0 {
		t.Errorf("got %d", count)
	}
	x = two(t)
	if sched.Run(x, nil) != 0 || len(sched.Record(x, nil)) != 0 || x.Steps() != 0 {
		t.Error("without wishes something is done")
	}
}

// TestAgain holds that the tasks that were recorded do all of it once more, and that who can't do a step is passed over.
func TestAgain(t *testing.T) {
	d := sample.Dice(1)
	var wishes []int
	for range 10000 {
		wishes = append(wishes, d.Below(1000)-500)
	}
	x, y := two(t), two(t)
	tasks := sched.Record(x, wishes)
	if len(tasks) != x.Steps() || !x.Ended() {
		t.Fatalf("got %d, %d", len(tasks), x.Steps())
	}
	if got := sched.Again(y, tasks); got != len(tasks) || !slices.Equal(x.Events(), y.Events()) || !emit.SameAll(x.Log(), y.Log()) || !y.Ended() {
		t.Errorf("got %d, want %d", got, len(tasks))
	}
	z := two(t)
	if got := sched.Again(z, []int{5, -1, 0, 2, 0, 99, 0, 0, math.MinInt, 1}); got != 5 || z.Steps() != 5 || !z.Busy(1) {
		t.Errorf("got %d", got)
	}
	if sched.Again(z, nil) != 0 {
		t.Error("of nothing something is done")
	}
}

// next holds which task does the next step, of those that can.
func next(t *testing.T, f *sched.Fair, wish, want int, l ...int) {
	t.Helper()
	was := slices.Clone(l)
	if got := f.Next(l, wish); got != want || !slices.Equal(l, was) {
		t.Errorf("of %v by %d: got %d, want %d", l, wish, got, want)
	}
}

// left holds how often tasks were left out, from the first one on.
func left(t *testing.T, f *sched.Fair, want ...int) {
	t.Helper()
	for task, often := range want {
		if got := f.Left(task); got != often {
			t.Errorf("%d: got %d, want %d", task, got, often)
		}
	}
}

func TestNext(t *testing.T) {
	f := sched.New(2)
	left(t, f, 0, 0, 0)
	next(t, f, 1, 1, 0, 1, 2)
	left(t, f, 1, 0, 1)
	next(t, f, 0, 1, 1, 2)
	// Who can't do a step is left out no more.
	left(t, f, 0, 0, 2)
	// Who was left out as often as may be is next, whatever is wished.
	next(t, f, 0, 2, 0, 1, 2)
	left(t, f, 1, 1, 0)
	next(t, f, 2, 2, 0, 1, 2)
	left(t, f, 2, 2, 0)
	// Of two that were so as often, the first.
	next(t, f, 2, 0, 0, 1, 2)
	left(t, f, 0, 3, 1)
	next(t, f, 2, 1, 0, 1, 2)
	left(t, f, 1, 0, 2)
	next(t, f, 0, 2, 0, 1, 2)
	next(t, f, 0, -1)
	left(t, f, 0, 0, 0, 0)
	// The one that was longest goes ahead of the first one.
	next(t, f, 0, 7, 7, 5)
	next(t, f, 0, 7, 7, 5, 3)
	next(t, f, 2, 5, 3, 4, 5)
	if f.Left(3) != 2 || f.Left(4) != 1 || f.Left(5) != 0 || f.Left(7) != 0 || f.Left(-1) != 0 || f.Left(math.MaxInt) != 0 {
		t.Errorf("got %d, %d, %d, %d", f.Left(3), f.Left(4), f.Left(5), f.Left(7))
	}
}

// TestLongest holds that of those that were left out too often it is the one that was most, wherever it stands.
func TestLongest(t *testing.T) {
	f := sched.New(1)
	next(t, f, 0, 0, 0, 3)
	next(t, f, 0, 3, 0, 1, 2, 3)
	next(t, f, 0, 0, 0, 1, 2)
	left(t, f, 0, 2, 2, 0)
	next(t, f, 0, 2, 3, 2, 0, 1)
	left(t, f, 1, 3, 0, 1)
	next(t, f, 0, 1, 3, 2, 0, 1)
	left(t, f, 2, 0, 1, 2)
}

func TestNoBound(t *testing.T) {
	for _, bound := range []int{0, -1, math.MinInt} {
		f := sched.New(bound)
		for i := range 9 {
			next(t, f, 2, i%3, 0, 1, 2)
		}
	}
	f := sched.New(math.MaxInt)
	for range 99 {
		next(t, f, 1, 1, 0, 1)
	}
	left(t, f, 99, 0)
}

// TestLeftOut holds that none is left out more than bound and as many times as there are tasks.
func TestLeftOut(t *testing.T) {
	d := sample.Dice(1)
	for range 100 {
		tasks, bound := 1+d.Below(8), d.Below(6)
		f := sched.New(bound)
		counts := make([]int, tasks)
		for range 200 {
			var l []int
			for task := range tasks {
				if d.Below(5) > 0 {
					l = append(l, task)
				}
			}
			task := f.Next(l, d.Below(3))
			for other := range tasks {
				counts[other]++
				if other == task || !slices.Contains(l, other) {
					counts[other] = 0
				}
				if f.Left(other) != counts[other] || counts[other] > bound+tasks {
					t.Fatalf("%d of %d, bound %d: left out %d, want %d", other, tasks, bound, f.Left(other), counts[other])
				}
			}
		}
	}
}

func TestDrive(t *testing.T) {
	for _, wishes := range [][]int{nil, {}, {0}, {3, -1, 7}, {math.MinInt, math.MaxInt}} {
		for bound := -1; bound < 9; bound++ {
			x, y := two(t), two(t)
			count, quiet := sched.Drive(x, bound, wishes)
			f := sched.New(bound)
			for i := 0; !y.Quiet(); i++ {
				wish := i
				if len(wishes) > 0 {
					wish = wishes[i%len(wishes)]
				}
				y.Step(f.Next(y.Enabled(), wish))
			}
			if count != x.Steps() || !quiet || !x.Ended() || count != y.Steps() || !slices.Equal(x.Events(), y.Events()) || !emit.SameAll(x.Log(), y.Log()) {
				t.Errorf("%v, %d: got %d, %v, want %d", wishes, bound, count, quiet, y.Steps())
			}
			if count, quiet := sched.Drive(x, bound, wishes); count != 0 || !quiet {
				t.Errorf("got %d, %v", count, quiet)
			}
		}
	}
}

// TestMaxSteps holds that where there are more steps to do than there may be, so many are done.
func TestMaxSteps(t *testing.T) {
	scripts := make([][]api.Call, api.MaxClients)
	for who := range scripts {
		for i := range api.MaxCalls {
			scripts[who] = append(scripts[who], advance(int64((api.MaxClients-who)*api.MaxCalls+i)))
		}
	}
	// The last one that can goes ahead of the others: so each advance is later than those ahead of it, and goes to all parts.
	x := of(t, api.MaxParts, 1, scripts...)
	if count, quiet := sched.Drive(x, math.MaxInt, []int{-1}); count != api.MaxSteps || x.Steps() != count || quiet {
		t.Errorf("got %d, %v", count, quiet)
	}
	wishes := slices.Repeat([]int{-1}, api.MaxSteps+5)
	y := of(t, api.MaxParts, 1, scripts...)
	if got := sched.Run(y, wishes); got != api.MaxSteps || y.Steps() != got || y.Quiet() {
		t.Errorf("got %d", got)
	}
	if got := sched.Record(y, wishes); len(got) != api.MaxSteps || y.Steps() != 2*api.MaxSteps {
		t.Errorf("got %d", len(got))
	}
}

func TestBound(t *testing.T) {
	for want, x := range map[int][4]int{
		2: {}, 2 + 6*7 + 3*6*3 + 2*5: {6, 3, 1, 5}, 12: {0, 9, 9, 5}, 2 + 3: {1, 0, 0, 0}, 2 + 4 + 3: {1, 1, 0, 0}, 2 + 4: {1, 0, 1, 0}, 4: {0, 0, 0, 1},
	} {
		if got := sched.Bound(x[0], x[1], x[2], x[3]); got != want {
			t.Errorf("%v: got %d, want %d", x, got, want)
		}
	}
}

// TestWithinBound holds that a system comes to where nothing can be done within so many steps, whoever does them; and that no call waits then.
func TestWithinBound(t *testing.T) {
	d := sample.Dice(2)
	for range 200 {
		parts, clients := 1+d.Below(5), 1+d.Below(4)
		scripts, calls := make([][]api.Call, clients), 0
		for who := range scripts {
			for i := range int64(d.Below(9)) {
				c := publish(d.Pick("A", "B"), d.Pick("k", "l", "m"), i+int64(d.Below(5)))
				switch d.Below(4) {
				case 0:
					c = advance(i)
				case 1:
					c = register(d.Pick("p", "q"), "SEQ(A a) WITHIN 5")
				case 2:
					c = stats()
				}
				scripts[who] = append(scripts[who], c)
			}
			if d.Below(3) == 0 {
				scripts[who] = append(scripts[who], end())
			}
			calls += len(scripts[who])
		}
		room := 1 + d.Below(3)
		for way := range 4 {
			x := of(t, parts, room, scripts...)
			count := 0
			switch way {
			case 0:
				count, _ = sched.Drive(x, d.Below(9), []int{d.Below(9), d.Below(9), d.Below(9)})
			case 1:
				count = sched.First(x, math.MaxInt)
			case 2:
				count = sched.Last(x, math.MaxInt)
			case 3:
				count = sched.Run(x, make([]int, api.MaxSteps))
			}
			if most := sched.Bound(calls, parts, clients, len(x.Log())); count > most || count != x.Steps() || !x.Quiet() {
				t.Fatalf("way %d: %d steps, at most %d, %v", way, count, most, x.Quiet())
			}
			for who, l := range scripts {
				if x.Busy(who) || x.Calls(who) != len(l) {
					t.Fatalf("way %d: client %d waits", way, who)
				}
			}
			if x.Waiting() != 0 || x.Owner() != api.Nobody {
				t.Fatalf("way %d: %d has the lock", way, x.Owner())
			}
		}
	}
}

func TestFirstAndLast(t *testing.T) {
	for most := -2; most < 30; most++ {
		for _, last := range []bool{false, true} {
			x, y := two(t), two(t)
			got := 0
			if last {
				got = sched.Last(x, most)
			} else {
				got = sched.First(x, most)
			}
			for range max(most, 0) {
				if l := y.Enabled(); last {
					y.Step(l[len(l)-1])
				} else {
					y.Step(l[0])
				}
			}
			if got != max(most, 0) || x.Steps() != got || !slices.Equal(x.Events(), y.Events()) || !slices.Equal(x.Enabled(), y.Enabled()) {
				t.Errorf("%d: got %d", most, got)
			}
		}
	}
	x := two(t)
	count := sched.First(x, 20) + sched.Last(x, 10000)
	if count != x.Steps() || !x.Ended() || sched.First(x, 5) != 0 || sched.Last(x, 5) != 0 {
		t.Errorf("got %d, %d", count, x.Steps())
	}
	if sched.First(two(t), math.MinInt) != 0 || sched.Last(two(t), math.MinInt) != 0 {
		t.Error("below 0 something is done")
	}
}

func TestOfNone(t *testing.T) {
	if count, quiet := sched.Drive(nil, 3, []int{1}); count != 0 || !quiet {
		t.Errorf("got %d, %v", count, quiet)
	}
	if sched.Run(nil, []int{1}) != 0 || len(sched.Record(nil, []int{1})) != 0 || sched.Again(nil, []int{0}) != 0 || sched.First(nil, 5) != 0 || sched.Last(nil, 5) != 0 {
		t.Error("none does something")
	}
	var none *sched.Fair
	next(t, none, 1, 5, 3, 5)
	next(t, none, 0, -1)
	left(t, none, 0)
	zero := &sched.Fair{}
	next(t, zero, 1, 3, 3, 5)
	next(t, zero, 0, 5, 3, 5)
}
