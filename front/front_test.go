package front_test

import (
	"math"
	"slices"
	"strconv"
	"strings"
	"testing"

	"lamplighter/api"
	"lamplighter/event"
	"lamplighter/front"
	"lamplighter/pat"
	"lamplighter/sample"
	"lamplighter/show"
	"lamplighter/value"
)

func at(kind, key string, time int64) api.Event {
	return sample.Event(kind, key, time, 0, 7)
}

// The calls.
func publish(e api.Event) api.Call { return api.Call{Kind: api.CallPublish, E: e} }

func try(e api.Event) api.Call { return api.Call{Kind: api.CallTry, E: e} }

func advance(time int64) api.Call { return api.Call{Kind: api.CallAdvance, T: time} }

func register(id, text string) api.Call {
	return api.Call{Kind: api.CallRegister, Id: id, Text: text}
}

func unregister(id string) api.Call { return api.Call{Kind: api.CallUnregister, Id: id} }

func end() api.Call { return api.Call{Kind: api.CallClose} }

const text = "SEQ(A a, B b) WHERE b: b.x > a.x WITHIN 9"

// state is all that is told of a front.
type state struct {
	ticket, mark int64
	closed       bool
	queries      []string
}

func check(t *testing.T, f *front.Front, want state) {
	t.Helper()
	got := state{f.Ticket(), f.Mark(), f.Closed(), f.Queries()}
	if got.ticket != want.ticket || got.mark != want.mark || got.closed != want.closed || !slices.Equal(got.queries, want.queries) {
		t.Errorf("got %v, want %v", got, want)
	}
}

// admit holds that a call is taken, and its message.
func admit(t *testing.T, f *front.Front, c api.Call, want api.Msg) {
	t.Helper()
	if e := f.Check(c); e != api.OK {
		t.Errorf("%v is refused: %d", c, e)
	}
	got, e := f.Admit(c)
	same := got.Kind == want.Kind && got.Ticket == want.Ticket && event.Same(got.E, want.E) && got.T == want.T && got.Id == want.Id && pat.Same(got.Q, want.Q)
	if !same || e != api.OK {
		t.Errorf("%v: got %v, %d, want %v", c, got, e, want)
	}
}

// refuse holds that a call is refused, and that nothing changes.
func refuse(t *testing.T, f *front.Front, c api.Call, want api.Errno) {
	t.Helper()
	was := state{f.Ticket(), f.Mark(), f.Closed(), f.Queries()}
	if got := f.Check(c); got != want {
		t.Errorf("%v: got %d, want %d", c, got, want)
	}
	m, e := f.Admit(c)
	if e != want || m.Kind != 0 || m.Ticket != 0 || !event.Same(m.E, api.Event{}) || m.T != 0 || m.Id != "" || !pat.Same(m.Q, api.Query{}) {
		t.Errorf("%v: got %v, %d, want %d", c, m, e, want)
	}
	check(t, f, was)
}

func numbered(e api.Event, seq int64) api.Event {
	e.Seq = seq
	return e
}

func TestExample(t *testing.T) {
	f := front.New(sample.Schema())
	check(t, f, state{mark: -1})
	for want := range int64(2) {
		if m, e := f.Admit(publish(at("A", "k", 5))); m.Ticket != want+1 || e != api.OK {
			t.Errorf("got %d, %d", m.Ticket, e)
		}
	}
	check(t, f, state{ticket: 2, mark: -1})
}

func TestAdmit(t *testing.T) {
	s := sample.Schema()
	f := front.New(s)
	q, _ := show.Read(s, text)
	admit(t, f, register("p", text), api.Msg{Kind: api.MsgRegister, Ticket: 1, Id: "p", Q: q})
	check(t, f, state{1, -1, false, []string{"p"}})
	admit(t, f, publish(at("A", "k", 5)), api.Msg{Kind: api.MsgEvent, Ticket: 2, E: numbered(at("A", "k", 5), 2)})
	admit(t, f, try(at("B", "l", 0)), api.Msg{Kind: api.MsgEvent, Ticket: 3, E: numbered(at("B", "l", 0), 3)})
	check(t, f, state{3, -1, false, []string{"p"}})
	admit(t, f, advance(5), api.Msg{Kind: api.MsgAdvance, Ticket: 4, T: 5})
	check(t, f, state{4, 5, false, []string{"p"}})
	admit(t, f, register("q", "SEQ ( (A) a ) WITHIN 7 CAP 100"), api.Msg{Kind: api.MsgRegister, Ticket: 5, Id: "q", Q: api.Query{Elems: []api.Elem{{Var: "a", Types: []string{"A"}, Min: 1, Max: 1}}, Window: 7, Cap: 100}})
	admit(t, f, unregister("p"), api.Msg{Kind: api.MsgUnregister, Ticket: 6, Id: "p"})
	check(t, f, state{6, 5, false, []string{"q"}})
	admit(t, f, register("p", text), api.Msg{Kind: api.MsgRegister, Ticket: 7, Id: "p", Q: q})
	check(t, f, state{7, 5, false, []string{"q", "p"}})
	admit(t, f, end(), api.Msg{Kind: api.MsgClose, Ticket: 8})
	check(t, f, state{8, 5, true, []string{"q", "p"}})
}

// TestWhatIsNotAsked holds that of a call only what it is of counts.
func TestWhatIsNotAsked(t *testing.T) {
	f := front.New(sample.Schema())
	for i, seq := range []int64{-1, 99, math.MinInt64, math.MaxInt64} {
		e := at("A", "k", 5)
		e.Seq = seq
		c := publish(e)
		c.T, c.Id, c.Text = -1, "and", "SEQ"
		admit(t, f, c, api.Msg{Kind: api.MsgEvent, Ticket: int64(i + 1), E: numbered(e, int64(i+1))})
	}
	c := advance(5)
	c.E, c.Id, c.Text = at("Z", "", -1), "and", "SEQ"
	admit(t, f, c, api.Msg{Kind: api.MsgAdvance, Ticket: 5, T: 5})
	c = register("p", "SEQ(A a) WITHIN 9")
	c.E, c.T = at("Z", "", -1), -1
	admit(t, f, c, api.Msg{Kind: api.MsgRegister, Ticket: 6, Id: "p", Q: api.Query{Elems: []api.Elem{{Var: "a", Types: []string{"A"}, Min: 1, Max: 1}}, Window: 9, Cap: api.UsualCap}})
	c = unregister("p")
	c.E, c.T, c.Text = at("Z", "", -1), -1, "SEQ"
	admit(t, f, c, api.Msg{Kind: api.MsgUnregister, Ticket: 7, Id: "p"})
	c = end()
	c.E, c.T, c.Id, c.Text = at("Z", "", -1), -1, "and", "SEQ"
	admit(t, f, c, api.Msg{Kind: api.MsgClose, Ticket: 8})
}

func TestRefusedEvents(t *testing.T) {
	f := front.New(sample.Schema())
	admit(t, f, advance(5), api.Msg{Kind: api.MsgAdvance, Ticket: 1, T: 5})
	short, odd := at("A", "k", 6), at("A", "k", 6)
	short.Vals, odd.Vals = nil, []api.Value{value.Text("a")}
	for _, call := range []func(api.Event) api.Call{publish, try} {
		refuse(t, f, call(at("Z", "", -1)), api.ErrType)
		refuse(t, f, call(short), api.ErrType)
		refuse(t, f, call(odd), api.ErrType)
		refuse(t, f, call(at("A", "", -1)), api.ErrKey)
		refuse(t, f, call(at("A", strings.Repeat("k", api.MaxKey+1), 6)), api.ErrKey)
		refuse(t, f, call(at("A", "k", -1)), api.ErrTime)
		refuse(t, f, call(at("A", "k", api.MaxTime+1)), api.ErrTime)
		refuse(t, f, call(at("A", "k", 5)), api.ErrLate)
		refuse(t, f, call(at("A", "k", 0)), api.ErrLate)
	}
	admit(t, f, try(at("A", "k", 6)), api.Msg{Kind: api.MsgEvent, Ticket: 2, E: numbered(at("A", "k", 6), 2)})
	admit(t, f, publish(at("A", "k", api.MaxTime)), api.Msg{Kind: api.MsgEvent, Ticket: 3, E: numbered(at("A", "k", api.MaxTime), 3)})
}

func TestRefusedAdvances(t *testing.T) {
	f := front.New(sample.Schema())
	refuse(t, f, advance(-1), api.ErrTime)
	refuse(t, f, advance(api.MaxTime+1), api.ErrTime)
	admit(t, f, advance(0), api.Msg{Kind: api.MsgAdvance, Ticket: 1})
	refuse(t, f, advance(0), api.ErrOrder)
	admit(t, f, advance(7), api.Msg{Kind: api.MsgAdvance, Ticket: 2, T: 7})
	refuse(t, f, advance(7), api.ErrOrder)
	refuse(t, f, advance(3), api.ErrOrder)
	refuse(t, f, advance(-1), api.ErrTime)
}

func TestRefusedQueries(t *testing.T) {
	f := front.New(sample.Schema())
	refuse(t, f, register("p", "SEQ(A a)"), api.ErrForm)
	refuse(t, f, register("p", "SEQ(A a) WHERE b: true WITHIN 9"), api.ErrNone)
	refuse(t, f, register("p", "SEQ(Z a) WITHIN 9"), api.ErrType)
	refuse(t, f, register("p", "SEQ(A a) WITHIN 0"), api.ErrWindow)
	refuse(t, f, register("p", "SEQ(A a, A a) WITHIN 9"), api.ErrTwice)
	refuse(t, f, register("p", strings.Repeat(" ", api.MaxText+1)), api.ErrBig)
	refuse(t, f, register("and", "SEQ"), api.ErrKey)
	refuse(t, f, unregister("p"), api.ErrNone)
	refuse(t, f, unregister(""), api.ErrNone)
	f.Admit(register("p", text))
	refuse(t, f, register("p", "SEQ"), api.ErrTwice)
	refuse(t, f, unregister("q"), api.ErrNone)
	f.Admit(unregister("p"))
	refuse(t, f, unregister("p"), api.ErrNone)
	for i := range api.MaxQueries - 1 {
		f.Admit(register("q"+strconv.Itoa(i), text))
	}
	refuse(t, f, register("p", "SEQ"), api.ErrBig)
	refuse(t, f, register("q1", "SEQ"), api.ErrTwice)
	if len(f.Queries()) != api.MaxQueries-1 || f.Ticket() != api.MaxQueries+1 {
		t.Errorf("got %v, %d", f.Queries(), f.Ticket())
	}
}

func TestOthers(t *testing.T) {
	f := front.New(sample.Schema())
	for _, kind := range []int{0, api.CallStats, 8, -1, math.MaxInt, math.MinInt} {
		refuse(t, f, api.Call{Kind: kind, E: at("A", "k", 5), T: 5, Id: "p", Text: text}, api.ErrInput)
	}
	f.Admit(end())
	for kind := range 9 {
		refuse(t, f, api.Call{Kind: kind, E: at("Z", "k", 5), T: 5, Id: "p", Text: text}, api.ErrClosed)
	}
}

func TestCounter(t *testing.T) {
	kinds := map[int]int{
		api.CallPublish: api.NAccepted, api.CallTry: api.NAccepted, api.CallAdvance: api.NAdvanced, api.CallRegister: api.NQueries,
		api.CallUnregister: api.NEnded, api.CallClose: -1, api.CallStats: -1, 0: -1, 8: -1, -1: -1, math.MaxInt: -1,
	}
	for kind, want := range kinds {
		if got := front.Counter(kind, api.OK); got != want {
			t.Errorf("of %d: got %d", kind, got)
		}
		for _, e := range []api.Errno{api.ErrInput, api.ErrLate, api.ErrOrder, api.ErrFull, api.ErrClosed, api.ErrBlocked, -5, 99} {
			want := api.NRefused
			if e == api.ErrLate {
				want = api.NLate
			}
			if kind == api.CallStats {
				want = -1
			}
			if got := front.Counter(kind, e); got != want {
				t.Errorf("of %d with %d: got %d", kind, e, got)
			}
		}
	}
}

func TestOfNone(t *testing.T) {
	var none *front.Front
	check(t, none, state{0, -1, true, nil})
	for kind := range 9 {
		refuse(t, none, api.Call{Kind: kind}, api.ErrInput)
	}
	refuse(t, none, publish(at("A", "k", 5)), api.ErrInput)
	f := front.New(nil)
	refuse(t, f, publish(at("A", "k", 5)), api.ErrType)
	refuse(t, f, register("p", text), api.ErrType)
	zero := &front.Front{}
	check(t, zero, state{mark: -1})
	for kind := range 9 {
		zero.Admit(api.Call{Kind: kind, T: 5, Id: "p", Text: text})
	}
	check(t, zero, state{2, 5, true, nil})
}

func TestIsTheCallers(t *testing.T) {
	s := sample.Schema()
	f := front.New(s)
	c := publish(at("A", "k", 5))
	m, _ := f.Admit(c)
	if !event.Same(c.E, at("A", "k", 5)) {
		t.Errorf("what was handed in was changed: %v", c.E)
	}
	c.E.Vals[0] = value.Num(77)
	if !event.Same(m.E, numbered(at("A", "k", 5), 1)) {
		t.Errorf("what was told was changed: %v", m.E)
	}
	m, _ = f.Admit(register("p", text))
	m.Q.Elems[0].Types[0] = "Z"
	f.Queries()[0] = "z"
	check(t, f, state{2, -1, false, []string{"p"}})
	f.Admit(unregister("p"))
	m, _ = f.Admit(register("p", text))
	if q, _ := show.Read(s, text); !pat.Same(m.Q, q) || m.Ticket != 4 {
		t.Errorf("got %v", m)
	}
}
