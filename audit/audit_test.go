package audit

import (
	"testing"

	"lamplighter/api"
	"lamplighter/sample"
	"lamplighter/sched"
	"lamplighter/system"
)

// The calls.
func publish(kind, key string, time int64) api.Call {
	return api.Call{Kind: api.CallPublish, E: sample.Event(kind, key, time, 0, 7)}
}

func advance(time int64) api.Call { return api.Call{Kind: api.CallAdvance, T: time} }

// of is a system of so many parts, with so much room.
func of(t *testing.T, parts, room int, scripts ...[]api.Call) *system.System {
	t.Helper()
	x, e := system.New(sample.Schema(), parts, room, scripts)
	if e != api.OK {
		t.Fatalf("got %d", e)
	}
	return x
}

func TestExample(t *testing.T) {
	for parts := 1; parts < 4; parts++ {
		if got := Check(of(t, parts, 1, []api.Call{advance(5)})); got != 0 {
			t.Errorf("got %d", got)
		}
	}
}

func TestOfNone(t *testing.T) {
	for _, x := range []*system.System{nil, {}} {
		if got := Check(x); got != 0 {
			t.Errorf("got %d", got)
		}
		if count, sum := Steps(x, []int{1, 2, 3}); count != 0 || sum != 0 {
			t.Errorf("got %d, %d", count, sum)
		}
	}
}

// odd is a system that is as it is told: no real one can be wrong.
type odd struct {
	quiet          bool
	busy           []bool
	fills          [][3]int
	middle, tail   [3]int
	within         bool
	kept           int
	counts         [api.Counters]int64
	at, mark       int64
	waiting, owner int
}

func (x odd) Quiet() bool { return x.quiet }

func (x odd) Clients() int { return len(x.busy) }

func (x odd) Busy(who int) bool { return x.busy[who] }

func (x odd) Parts() int { return len(x.fills) }

func (x odd) Fill(part int) (int, int, int) {
	return x.fills[part][0], x.fills[part][1], x.fills[part][2]
}

func (x odd) Middle() (int, int, int) { return x.middle[0], x.middle[1], x.middle[2] }

func (x odd) Tail() (int, int, int) { return x.tail[0], x.tail[1], x.tail[2] }

func (x odd) Within() bool { return x.within }

func (x odd) Kept() int { return x.kept }

func (x odd) Counts() [api.Counters]int64 { return x.counts }

func (x odd) At() int64 { return x.at }

func (x odd) Mark() int64 { return x.mark }

func (x odd) Waiting() int { return x.waiting }

func (x odd) Owner() int { return x.owner }

// right is one with which nothing is wrong, but all is as much as it may be.
func right() odd {
	return odd{
		busy:   []bool{false, true, false},
		fills:  [][3]int{{0, 2, 1}, {2, 2, 2}, {0, 2, 2}},
		middle: [3]int{2, 2, 2},
		tail:   [3]int{1, 2, 2},
		within: true,
		kept:   3,
		counts: [api.Counters]int64{3, 0, 0, 0, 0, 0},
		at:     7, mark: 7,
		waiting: 2, owner: 0,
	}
}

func TestWrong(t *testing.T) {
	cases := []struct {
		name   string
		change func(x *odd)
		want   int
	}{
		{"as it is", func(x *odd) {}, 0},
		{"a part's queue has too many", func(x *odd) { x.fills[0][0] = 3 }, api.WrongQueue},
		{"the last part's queue has too many", func(x *odd) { x.fills[2][0] = 3 }, api.WrongQueue},
		{"a part's queue had too many", func(x *odd) { x.fills[1][2] = 3 }, api.WrongQueue},
		{"that of batches has too many", func(x *odd) { x.middle[0] = 3 }, api.WrongQueue},
		{"that of batches had too many", func(x *odd) { x.middle[2] = 3 }, api.WrongQueue},
		{"that of what is told on has too many", func(x *odd) { x.tail[0] = 3 }, api.WrongQueue},
		{"that of what is told on had too many", func(x *odd) { x.tail[2] = 3 }, api.WrongQueue},
		{"too many runs", func(x *odd) { x.within = false }, api.WrongRuns},
		{"too many events", func(x *odd) { x.kept = 4 }, api.WrongKept},
		{"more events than were taken", func(x *odd) { x.counts = [api.Counters]int64{2, 9, 9, 9, 9, 9} }, api.WrongKept},
		{"parts know more than was told", func(x *odd) { x.mark = 6 }, api.WrongMark},
		{"parts know less than was told", func(x *odd) { x.at = -1 }, 0},
		{"nobody has the lock", func(x *odd) { x.owner = api.Nobody }, api.WrongLock},
		{"nobody has the lock that one waits for", func(x *odd) { x.owner, x.waiting = api.Nobody, 1 }, api.WrongLock},
		{"nobody has the lock, nor waits", func(x *odd) { x.owner, x.waiting = api.Nobody, 0 }, 0},
		{"nothing can be done", func(x *odd) { x.quiet = true }, api.WrongStuck},
		{"nothing can be done, nor is", func(x *odd) { x.quiet, x.busy[1] = true, false }, 0},
		{"nothing can be done by the last", func(x *odd) { x.quiet, x.busy = true, []bool{false, true} }, api.WrongStuck},
		{"nothing is there", func(x *odd) { *x = odd{within: true, owner: api.Nobody} }, 0},
		{"all of it", func(x *odd) {
			x.fills[0][0], x.within, x.kept, x.mark, x.owner, x.quiet = 3, false, 4, 6, api.Nobody, true
		}, 63},
	}
	for _, c := range cases {
		x := right()
		c.change(&x)
		if got := wrong(x); got != c.want {
			t.Errorf("%s: got %d, want %d", c.name, got, c.want)
		}
	}
}

// TestSteps holds that the steps are those of Pick, and stop where nothing can be done.
func TestSteps(t *testing.T) {
	script := []api.Call{publish("A", "k", 1), advance(3), {Kind: api.CallClose}}
	for _, wishes := range [][]int{nil, {0}, {3, -1, 7, 2, 2, 2, 1}, make([]int, 1000)} {
		x, y := of(t, 2, 1, script), of(t, 2, 1, script)
		count, sum := Steps(x, wishes)
		if want := sched.Run(y, wishes); count != want || sum != 0 || x.Steps() != want || x.Quiet() != y.Quiet() || len(x.Events()) != len(y.Events()) {
			t.Errorf("%v: got %d, %d, want %d", wishes, count, sum, want)
		}
	}
}

// TestSystems holds that nothing is wrong with systems, at any time.
func TestSystems(t *testing.T) {
	d := sample.Dice(1)
	for range 100 {
		scripts := make([][]api.Call, 1+d.Below(5))
		for who := range scripts {
			for i := range int64(d.Below(12)) {
				c := publish(d.Pick("A", "B"), d.Pick("k", "l", "m"), i+int64(d.Below(7)))
				switch d.Below(5) {
				case 0:
					c = advance(i)
				case 1:
					c = api.Call{Kind: api.CallRegister, Id: d.Pick("p", "q"), Text: "SEQ(A a, (A|B) b) WITHIN 9 CAP 1"}
				case 2:
					c.Kind = api.CallTry
				case 3:
					c.Kind = api.CallStats
				}
				scripts[who] = append(scripts[who], c)
			}
		}
		var wishes []int
		for range 3000 {
			wishes = append(wishes, d.Below(1000))
		}
		x := of(t, 1+d.Below(4), 1+d.Below(3), scripts...)
		if count, sum := Steps(x, wishes); sum != 0 || count != x.Steps() || !x.Quiet() {
			t.Fatalf("got %d, %d, %v", count, sum, x.Quiet())
		}
	}
}
