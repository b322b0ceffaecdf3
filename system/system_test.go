package system_test

import (
	"math"
	"slices"
	"testing"

	"lamplighter/api"
	"lamplighter/emit"
	"lamplighter/hash"
	"lamplighter/sample"
	"lamplighter/system"
	"lamplighter/value"
)

// The calls.
func publish(kind, key string, time int64) api.Call {
	return api.Call{Kind: api.CallPublish, E: sample.Event(kind, key, time, 0, 7)}
}

func try(kind, key string, time int64) api.Call {
	c := publish(kind, key, time)
	c.Kind = api.CallTry
	return c
}

func advance(time int64) api.Call { return api.Call{Kind: api.CallAdvance, T: time} }

func register(id, text string) api.Call {
	return api.Call{Kind: api.CallRegister, Id: id, Text: text}
}

func stats() api.Call { return api.Call{Kind: api.CallStats} }

func end() api.Call { return api.Call{Kind: api.CallClose} }

// of is a system of so many parts, with so much room.
func of(t *testing.T, parts, room int, scripts ...[]api.Call) *system.System {
	t.Helper()
	x, e := system.New(sample.Schema(), parts, room, scripts)
	if x == nil || e != api.OK {
		t.Fatalf("got %d", e)
	}
	return x
}

// steps lets tasks do steps, one behind the other, each of which can.
func steps(t *testing.T, x *system.System, tasks ...int) {
	t.Helper()
	for _, task := range tasks {
		was := x.Steps()
		if !x.Can(task) || !x.Step(task) || x.Steps() != was+1 {
			t.Fatalf("%d can't do a step: %v can", task, x.Enabled())
		}
	}
}

// enabled holds which tasks can do a step, in what is told of them in each way.
func enabled(t *testing.T, x *system.System, want ...int) {
	t.Helper()
	if got := x.Enabled(); !slices.Equal(got, want) || x.Quiet() != (len(want) == 0) {
		t.Errorf("got %v, %v, want %v", got, x.Quiet(), want)
	}
	for task := -2; task < x.Tasks()+2; task++ {
		if x.Can(task) != slices.Contains(want, task) {
			t.Errorf("%d: got %v", task, x.Can(task))
		}
	}
}

// told holds the texts of all that was told so far.
func told(t *testing.T, x *system.System, want ...string) {
	t.Helper()
	var got []string
	for _, o := range x.Log() {
		got = append(got, emit.Show(o))
	}
	if !slices.Equal(got, want) {
		t.Errorf("got %v, want %v", got, want)
	}
}

// drive lets tasks do steps in turn until nothing can be done.
func drive(x *system.System) {
	for !x.Quiet() {
		for task := range x.Tasks() {
			x.Step(task)
		}
	}
}

func TestExample(t *testing.T) {
	for _, scripts := range [][][]api.Call{nil, {}, {nil}, {nil, {}}} {
		x := of(t, 2, 3, scripts...)
		enabled(t, x)
		if x.Ended() {
			t.Error("it has ended, though nobody said so")
		}
	}
}

// TestExamplesOfTheWhole holds those of the document.
func TestExamplesOfTheWhole(t *testing.T) {
	l := []api.Call{register("p", "SEQ(A a, B b) WITHIN 5"), publish("A", "k", 1), publish("A", "k", 2), publish("B", "k", 3), advance(3)}
	x := of(t, 1, 1, l)
	drive(x)
	told(t, x, "p 'k' 3/4 0:2 1:4", "p 'k' 3/4 0:3 1:4")
	// One of two parts has not been told of the advance yet.
	x = of(t, 2, 9, []api.Call{register("p", "SEQ(A a) WITHIN 5"), publish("A", "k", 1), advance(3)})
	mine := hash.Part("k", 2)
	for x.Can(0) {
		steps(t, x, 0)
	}
	for _, task := range []int{1 + mine, 3, 4} {
		for x.Can(task) {
			steps(t, x, task)
		}
	}
	told(t, x)
	enabled(t, x, 2-mine)
	drive(x)
	told(t, x, "p 'k' 1/2 0:2")
	// Room for one message, two events of one key by CallTry, and the part does nothing.
	x = of(t, 1, 1, []api.Call{try("A", "k", 1), try("A", "k", 1)})
	for x.Can(0) {
		steps(t, x, 0)
	}
	if l := x.Events(); len(l) != 6 || l[5].Ret != (api.Ret{Err: api.ErrFull}) {
		t.Errorf("got %v", l)
	}
	// A query that is registered behind an event does not see it, though its time has not come yet.
	x = of(t, 2, 1, []api.Call{publish("A", "k", 1), register("p", "SEQ(A a) WITHIN 5"), publish("A", "k", 1), advance(5), publish("A", "k", 5)})
	drive(x)
	told(t, x, "p 'k' 1/3 0:3")
	// An advance to 5, an event at 5.
	if l := x.Events(); l[len(l)-1].Ret != (api.Ret{Err: api.ErrLate}) {
		t.Errorf("got %v", l)
	}
}

// TestSteps goes through a system step by step, and holds all that is told of it.
func TestSteps(t *testing.T) {
	x := of(t, 1, 2, []api.Call{register("p", "SEQ(A a) WITHIN 5"), publish("A", "k", 3), advance(3), end()}, []api.Call{stats()})
	if x.Tasks() != 5 || x.Clients() != 2 || x.Parts() != 1 || x.Steps() != 0 {
		t.Fatalf("got %d, %d, %d", x.Tasks(), x.Clients(), x.Parts())
	}
	enabled(t, x, 0, 1)
	steps(t, x, 0)
	if !x.Busy(0) || x.Busy(1) || x.Owner() != 0 || x.Waiting() != 0 || x.Mark() != -1 || x.At() != -1 {
		t.Errorf("got %v, %v, %d", x.Busy(0), x.Busy(1), x.Owner())
	}
	steps(t, x, 0, 0, 0)
	enabled(t, x, 0, 1, 2)
	if x.Busy(0) || x.Owner() != api.Nobody || x.Calls(0) != 1 || x.Calls(1) != 0 {
		t.Errorf("got %v, %d, %d", x.Busy(0), x.Owner(), x.Calls(0))
	}
	steps(t, x, 0, 0, 0, 0, 0, 0)
	// The queue is full: the advance waits for the part.
	enabled(t, x, 1, 2)
	fill(t, x, 2, 2, 2, 0, 0, 0, 0)
	if x.Mark() != 3 || x.Counts() != [api.Counters]int64{api.NAccepted: 1, api.NAdvanced: 1, api.NQueries: 1} || x.Kept() != 0 {
		t.Errorf("got %d, %v", x.Mark(), x.Counts())
	}
	steps(t, x, 2, 2, 0, 0)
	if x.Kept() != 1 || !x.Within() || x.Calls(0) != 3 {
		t.Errorf("got %d, %d", x.Kept(), x.Calls(0))
	}
	steps(t, x, 2)
	fill(t, x, 0, 2, 2, 0, 0, 0, 0)
	steps(t, x, 2)
	fill(t, x, 0, 2, 2, 1, 1, 0, 0)
	enabled(t, x, 0, 1, 3)
	if x.At() != -1 || x.Kept() != 0 {
		t.Errorf("got %d, %d", x.At(), x.Kept())
	}
	steps(t, x, 3, 3)
	fill(t, x, 0, 2, 2, 0, 1, 1, 1)
	if x.At() != 3 {
		t.Errorf("got %d", x.At())
	}
	told(t, x)
	steps(t, x, 4)
	told(t, x, "p 'k' 3/2 0:2")
	steps(t, x, 0, 0, 0, 0, 2, 2, 3)
	if x.Ended() {
		t.Error("it has ended, though a client has not, nor the merger")
	}
	steps(t, x, 1, 1, 1)
	enabled(t, x, 3)
	if x.Ended() {
		t.Error("it has ended, though the merger has not")
	}
	steps(t, x, 3)
	enabled(t, x)
	if !x.Ended() || x.Step(3) || x.Step(0) || x.Steps() != 30 {
		t.Errorf("got %v, %d", x.Ended(), x.Steps())
	}
	if l := x.Events(); len(l) != 14 || l[13].Ret.N != x.Counts() {
		t.Errorf("got %v", l)
	}
}

// fill holds what is told of the queues: of part 0, which has such room as the others, of batches, and of what is told on.
func fill(t *testing.T, x *system.System, has, room, most, batches, mostBatches, things, mostThings int) {
	t.Helper()
	got, want := make([][3]int, 3), [][3]int{{has, room, most}, {batches, room, mostBatches}, {things, room, mostThings}}
	got[0][0], got[0][1], got[0][2] = x.Fill(0)
	got[1][0], got[1][1], got[1][2] = x.Middle()
	got[2][0], got[2][1], got[2][2] = x.Tail()
	if !slices.Equal(got, want) {
		t.Errorf("got %v, want %v", got, want)
	}
}

// TestLock holds who has the lock, and how many wait for it.
func TestLock(t *testing.T) {
	x := of(t, 1, 1, []api.Call{advance(1)}, []api.Call{advance(2)}, []api.Call{advance(3)})
	steps(t, x, 2, 0)
	if x.Owner() != 2 || x.Waiting() != 1 || !x.Busy(0) || x.Busy(1) || !x.Busy(2) {
		t.Errorf("got %d, %d", x.Owner(), x.Waiting())
	}
	enabled(t, x, 1, 2)
	steps(t, x, 1)
	enabled(t, x, 2)
	steps(t, x, 2, 2, 2)
	if x.Owner() != 0 || x.Waiting() != 1 {
		t.Errorf("got %d, %d", x.Owner(), x.Waiting())
	}
	enabled(t, x, 0, 3)
}

func TestNew(t *testing.T) {
	many := func(n int) [][]api.Call { return make([][]api.Call, n) }
	long := func(n int) []api.Call { return make([]api.Call, n) }
	cases := []struct {
		parts, room int
		scripts     [][]api.Call
		want        api.Errno
	}{
		{1, 1, nil, api.OK},
		{api.MaxParts, api.MaxRoom, nil, api.OK},
		{0, 1, nil, api.ErrInput},
		{-1, 1, nil, api.ErrInput},
		{math.MinInt, 1, nil, api.ErrInput},
		{api.MaxParts + 1, 1, nil, api.ErrInput},
		{math.MaxInt, 1, nil, api.ErrInput},
		{1, 0, nil, api.ErrInput},
		{1, -1, nil, api.ErrInput},
		{1, api.MaxRoom + 1, nil, api.ErrInput},
		{1, math.MaxInt, nil, api.ErrInput},
		{1, 1, many(api.MaxClients), api.OK},
		{1, 1, many(api.MaxClients + 1), api.ErrBig},
		{0, 1, many(api.MaxClients + 1), api.ErrInput},
		{1, 1, [][]api.Call{nil, long(api.MaxCalls)}, api.OK},
		{1, 1, [][]api.Call{nil, long(api.MaxCalls + 1)}, api.ErrBig},
		{1, 0, [][]api.Call{long(api.MaxCalls + 1)}, api.ErrInput},
	}
	for _, c := range cases {
		x, e := system.New(sample.Schema(), c.parts, c.room, c.scripts)
		if e != c.want || (x == nil) != (e != api.OK) {
			t.Errorf("%d parts, room %d, %d clients: got %d", c.parts, c.room, len(c.scripts), e)
			continue
		}
		if x == nil {
			continue
		}
		if _, room, _ := x.Fill(c.parts - 1); x.Parts() != c.parts || x.Clients() != len(c.scripts) || x.Tasks() != c.parts+len(c.scripts)+2 || room != c.room {
			t.Errorf("got %d, %d, %d, %d", x.Parts(), x.Clients(), x.Tasks(), room)
		}
	}
}

// TestStatsAlone holds that the counts are of as many as there are clients.
func TestStatsAlone(t *testing.T) {
	for many := 1; many <= api.MaxClients; many++ {
		scripts := make([][]api.Call, many)
		scripts[many-1] = []api.Call{stats()}
		x := of(t, 1, 1, scripts...)
		drive(x)
		if x.Steps() != 1+many || x.Calls(many-1) != 1 {
			t.Errorf("%d clients: got %d", many, x.Steps())
		}
	}
}

// TestEnd holds that behind a close all end, whatever was kept, and that no call is done any more.
func TestEnd(t *testing.T) {
	for parts := 1; parts < 5; parts++ {
		x := of(t, parts, 1, []api.Call{register("p", "SEQ(A a) WITHIN 5"), publish("A", "k", 9), publish("A", "l", 3), advance(3), end(), publish("A", "k", 7), stats()})
		drive(x)
		told(t, x, "p 'l' 3/3 0:3")
		if !x.Ended() || x.Kept() != 1 || x.At() != 3 || x.Mark() != 3 || x.Calls(0) != 7 || !x.Within() {
			t.Errorf("%d parts: got %v, %d, %d", parts, x.Ended(), x.Kept(), x.At())
		}
		if l := x.Events(); l[len(l)-1].Ret.N != [api.Counters]int64{api.NAccepted: 2, api.NRefused: 1, api.NAdvanced: 1, api.NQueries: 1} {
			t.Errorf("%d parts: got %v", parts, l)
		}
	}
}

func TestOfNone(t *testing.T) {
	var none *system.System
	for _, x := range []*system.System{none, {}} {
		enabled(t, x)
		if x.Tasks() != 0 || x.Step(0) || x.Step(-1) || !x.Ended() || x.Steps() != 0 || len(x.Events()) != 0 || x.At() != -1 || x.Mark() != -1 {
			t.Error("none does something")
		}
		told(t, x)
		fill(t, x, 0, 0, 0, 0, 0, 0, 0)
		if x.Counts() != [api.Counters]int64{} || x.Parts() != 0 || x.Clients() != 0 || x.Kept() != 0 || !x.Within() || x.Waiting() != 0 || x.Owner() != api.Nobody || x.Calls(0) != 0 || x.Busy(0) {
			t.Error("none has something")
		}
	}
}

// TestOutOfBounds holds what is told of tasks, parts and clients that there are not.
func TestOutOfBounds(t *testing.T) {
	x := of(t, 2, 3, []api.Call{advance(5)})
	for _, number := range []int{math.MinInt, -1, 5, math.MaxInt} {
		if x.Can(number) || x.Step(number) || x.Calls(number) != 0 || x.Busy(number) {
			t.Errorf("there is a task %d", number)
		}
		if has, room, most := x.Fill(number); has != 0 || room != 0 || most != 0 {
			t.Errorf("there is a part %d", number)
		}
	}
	if x.Steps() != 0 {
		t.Errorf("got %d", x.Steps())
	}
}

func TestIsTheCallers(t *testing.T) {
	l := []api.Call{register("p", "SEQ(A a) WHERE a: a.x = 7 WITHIN 5"), publish("A", "k", 1), advance(3)}
	x := of(t, 2, 1, l)
	l[1].E.Vals[0] = value.Num(77)
	l[2] = advance(0)
	drive(x)
	x.Log()[0].Pairs[0].Seq = 77
	x.Events()[0].Client = 77
	told(t, x, "p 'k' 1/2 0:2")
	if got := x.Events()[0]; got != (api.Ev{Kind: api.EvCall}) {
		t.Errorf("got %v", got)
	}
}
