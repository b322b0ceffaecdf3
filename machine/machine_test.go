package machine_test

import (
	"math"
	"slices"
	"strconv"
	"testing"

	"lamplighter/api"
	"lamplighter/emit"
	"lamplighter/engine"
	"lamplighter/event"
	"lamplighter/front"
	"lamplighter/machine"
	"lamplighter/sample"
	"lamplighter/value"
)

// The calls.
func publish(kind, key string, time int64) api.Call {
	return api.Call{Kind: api.CallPublish, E: sample.Event(kind, key, time, 0, 7)}
}

func try(kind, key string, time int64) api.Call {
	c := publish(kind, key, time)
	c.Kind = api.CallTry
	return c
}

func advance(time int64) api.Call { return api.Call{Kind: api.CallAdvance, T: time} }

func register(id, text string) api.Call {
	return api.Call{Kind: api.CallRegister, Id: id, Text: text}
}

func unregister(id string) api.Call { return api.Call{Kind: api.CallUnregister, Id: id} }

func stats() api.Call { return api.Call{Kind: api.CallStats} }

func end() api.Call { return api.Call{Kind: api.CallClose} }

// do holds that a call is taken under a number, or what it is refused for.
func do(t *testing.T, m *machine.Machine, c api.Call, ticket int64, e api.Errno) {
	t.Helper()
	if got, want := m.Do(c), (api.Ret{Err: e, Ticket: ticket}); got != want {
		t.Errorf("%v: got %v, want %v", c, got, want)
	}
}

// told holds the texts of all that was told so far.
func told(t *testing.T, m *machine.Machine, want ...string) {
	t.Helper()
	var got []string
	for _, o := range m.Log() {
		got = append(got, emit.Show(o))
	}
	if !slices.Equal(got, want) {
		t.Errorf("got %v, want %v", got, want)
	}
}

// counted holds what was counted, in the order in which the counts are numbered.
func counted(t *testing.T, m *machine.Machine, want ...int64) {
	t.Helper()
	if got := m.Counts(); !slices.Equal(got[:], want) {
		t.Errorf("got %v, want %v", got, want)
	}
	if got, n := m.Do(stats()), [api.Counters]int64(want); got != (api.Ret{N: n}) {
		t.Errorf("told: got %v, want %v", got, want)
	}
}

func TestExample(t *testing.T) {
	m := machine.New(sample.Schema())
	do(t, m, advance(5), 1, api.OK)
	do(t, m, publish("A", "k", 5), 0, api.ErrLate)
	counted(t, m, 0, 1, 0, 1, 0, 0)
}

// TestExamplesOfTheWhole holds those of the document that are of one machine.
func TestExamplesOfTheWhole(t *testing.T) {
	m := machine.New(sample.Schema())
	do(t, m, register("p", "SEQ(A a, B b) WITHIN 5"), 1, api.OK)
	do(t, m, publish("A", "k", 1), 2, api.OK)
	do(t, m, publish("A", "k", 2), 3, api.OK)
	do(t, m, publish("B", "k", 3), 4, api.OK)
	told(t, m)
	do(t, m, advance(3), 5, api.OK)
	told(t, m, "p 'k' 3/4 0:2 1:4", "p 'k' 3/4 0:3 1:4")
	// A query that is registered behind an event does not see it, though its time has not come yet.
	do(t, m, publish("A", "l", 9), 6, api.OK)
	do(t, m, register("q", "SEQ(A a) WITHIN 5"), 7, api.OK)
	do(t, m, publish("A", "l", 8), 8, api.OK)
	do(t, m, advance(9), 9, api.OK)
	told(t, m, "p 'k' 3/4 0:2 1:4", "p 'k' 3/4 0:3 1:4", "q 'l' 8/8 0:8")
}

// TestCounted holds what is counted of each call, and that a call that is refused does nothing else.
func TestCounted(t *testing.T) {
	m := machine.New(sample.Schema())
	counted(t, m, 0, 0, 0, 0, 0, 0)
	do(t, m, publish("A", "k", 3), 1, api.OK)
	do(t, m, try("A", "k", 4), 2, api.OK)
	counted(t, m, 2, 0, 0, 0, 0, 0)
	do(t, m, advance(3), 3, api.OK)
	do(t, m, advance(3), 0, api.ErrOrder)
	do(t, m, publish("A", "k", 3), 0, api.ErrLate)
	do(t, m, try("A", "k", 2), 0, api.ErrLate)
	counted(t, m, 2, 2, 1, 1, 0, 0)
	do(t, m, register("p", "SEQ(A a) WITHIN 9"), 4, api.OK)
	do(t, m, register("p", "SEQ(A a) WITHIN 9"), 0, api.ErrTwice)
	do(t, m, register("q", "SEQ(A a)"), 0, api.ErrForm)
	do(t, m, unregister("q"), 0, api.ErrNone)
	do(t, m, unregister("p"), 5, api.OK)
	counted(t, m, 2, 2, 4, 1, 1, 1)
	do(t, m, publish("Z", "k", 9), 0, api.ErrType)
	do(t, m, api.Call{}, 0, api.ErrInput)
	do(t, m, api.Call{Kind: 8}, 0, api.ErrInput)
	do(t, m, api.Call{Kind: math.MinInt}, 0, api.ErrInput)
	counted(t, m, 2, 2, 8, 1, 1, 1)
	if m.Mark() != 3 {
		t.Errorf("got %d", m.Mark())
	}
	do(t, m, end(), 6, api.OK)
	counted(t, m, 2, 2, 8, 1, 1, 1)
	for _, c := range []api.Call{publish("A", "k", 9), try("A", "k", 9), advance(9), register("q", "SEQ(A a) WITHIN 9"), unregister("p"), end(), {}} {
		do(t, m, c, 0, api.ErrClosed)
	}
	counted(t, m, 2, 2, 15, 1, 1, 1)
	told(t, m)
}

// TestLost holds that where runs are lost that is told, and that no more are kept than there may be.
func TestLost(t *testing.T) {
	m := machine.New(sample.Schema())
	do(t, m, register("p", "SEQ(A a, B b) WITHIN 9 CAP 1"), 1, api.OK)
	for i := range int64(3) {
		do(t, m, publish("A", "k", 3-i), i+2, api.OK)
	}
	do(t, m, publish("B", "k", 4), 5, api.OK)
	do(t, m, advance(4), 6, api.OK)
	told(t, m, "p 'k' 2/3 lost", "p 'k' 3/2 lost", "p 'k' 4/5 0:4 1:5")
	if !m.Within() {
		t.Error("it keeps too many runs")
	}
}

// TestNoRoom holds that a call is taken though the engine has no room for its event any more.
func TestNoRoom(t *testing.T) {
	m := machine.New(sample.Schema())
	do(t, m, register("p", "SEQ(A a) WITHIN 9"), 1, api.OK)
	for i := range int64(api.MaxHeap) {
		do(t, m, publish("B", "k", 9), i+2, api.OK)
	}
	do(t, m, publish("A", "k", 9), api.MaxHeap+2, api.OK)
	do(t, m, advance(9), api.MaxHeap+3, api.OK)
	told(t, m)
	counted(t, m, api.MaxHeap+1, 0, 0, 1, 1, 0)
}

// TestAsFrontAndEngine holds that what is told is what the front and the engine tell, one behind the other.
func TestAsFrontAndEngine(t *testing.T) {
	s, d := sample.Schema(), sample.Dice(1)
	for range 100 {
		m, f, x := machine.New(s), front.New(s), engine.New(s)
		var log []api.Out
		var counts [api.Counters]int64
		for i := range 60 {
			c := publish(d.Pick("A", "B", "B", "Z"), d.Pick("k", "l", ""), int64(i/2+d.Below(9)-2))
			switch d.Below(8) {
			case 0:
				c = advance(int64(i/2 + d.Below(4) - 2))
			case 1:
				c = register(d.Pick("p", "q", "r", "and"), "SEQ("+d.Pick("A", "(A|B)")+" a, "+d.Pick("A", "B")+" b"+d.Pick("", "{1,2}")+") WITHIN "+strconv.Itoa(d.Below(9)))
			case 2:
				c = unregister(d.Pick("p", "q", "r"))
			case 3:
				c.Kind = api.CallTry + d.Below(40)/39
			}
			message, e := f.Admit(c)
			l, _ := x.Take(message)
			if e == api.OK {
				log = append(log, l...)
			}
			if k := front.Counter(c.Kind, e); k >= 0 {
				counts[k]++
			}
			if got := m.Do(c); got != (api.Ret{Err: e, Ticket: message.Ticket}) {
				t.Fatalf("%v: got %v, want %d, %d", c, got, e, message.Ticket)
			}
			if !emit.SameAll(m.Log(), log) || m.Counts() != counts || m.Mark() != f.Mark() || m.Within() != x.Within() {
				t.Fatalf("%v: got %v, %v, %d", c, m.Log(), m.Counts(), m.Mark())
			}
		}
	}
}

func TestOfNone(t *testing.T) {
	var none *machine.Machine
	for _, c := range []api.Call{{}, stats(), end(), advance(5), publish("A", "k", 5)} {
		do(t, none, c, 0, api.ErrInput)
	}
	if len(none.Log()) != 0 || none.Counts() != [api.Counters]int64{} || none.Mark() != -1 || !none.Within() {
		t.Error("none has something")
	}
	for _, m := range []*machine.Machine{{}, machine.New(nil)} {
		if m.Mark() != -1 || !m.Within() || len(m.Log()) != 0 {
			t.Error("nothing has something")
		}
		for kind := range 9 {
			m.Do(api.Call{Kind: kind, T: 5})
		}
		counts := m.Counts()
		if got := m.Do(stats()); got != (api.Ret{N: counts}) {
			t.Errorf("got %v", got)
		}
	}
}

func TestIsTheCallers(t *testing.T) {
	m := machine.New(sample.Schema())
	do(t, m, register("p", "SEQ(A a) WHERE a: a.x = 7 WITHIN 9"), 1, api.OK)
	c := publish("A", "k", 3)
	do(t, m, c, 2, api.OK)
	if !event.Same(c.E, publish("A", "k", 3).E) {
		t.Errorf("what was handed in was changed: %v", c.E)
	}
	c.E.Vals[0] = value.Num(77)
	do(t, m, advance(3), 3, api.OK)
	log := m.Log()
	log[0].Pairs[0].Seq = 77
	log[0].Query = "z"
	told(t, m, "p 'k' 3/2 0:2")
}
