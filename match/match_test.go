package match_test

import (
	"math"
	"slices"
	"testing"

	"lamplighter/api"
	"lamplighter/event"
	"lamplighter/match"
	"lamplighter/pat"
	"lamplighter/sample"
	"lamplighter/value"
)

// pairs is a list of pairs, from elements and numbers that take turns.
var pairs = sample.Pairs

func at(kind string, time, seq, x int64) api.Event {
	return sample.Event(kind, "k", time, seq, x)
}

func sameAll(a, b [][]api.Pair) bool { return slices.EqualFunc(a, b, slices.Equal[[]api.Pair]) }

// fed is what should be when an event has been fed.
type fed struct {
	e       api.Event
	matches [][]api.Pair
	lost    bool
	runs    [][]api.Pair
}

// check feeds events, one behind the other, and holds what is told and kept.
func check(t *testing.T, text string, l ...fed) {
	t.Helper()
	x := match.New(sample.Schema(), sample.Query(text))
	for _, f := range l {
		matches, lost := x.Feed(f.e)
		if !sameAll(matches, f.matches) || lost != f.lost {
			t.Errorf("%s: at %s: got %v, %v", text, event.Show(f.e), matches, lost)
		}
		if got := x.Runs(); !sameAll(got, f.runs) || x.Live() != len(f.runs) {
			t.Errorf("%s: at %s: %d runs, %v", text, event.Show(f.e), x.Live(), got)
		}
	}
}

func TestExample(t *testing.T) {
	a, b := pairs(0, 1), pairs(0, 2)
	check(t, "SEQ(A a, B b) WITHIN 9",
		fed{at("A", 1, 1, 0), nil, false, [][]api.Pair{a}},
		fed{at("A", 2, 2, 0), nil, false, [][]api.Pair{a, b}},
		fed{at("B", 3, 3, 0), [][]api.Pair{pairs(0, 1, 1, 3), pairs(0, 2, 1, 3)}, false, [][]api.Pair{a, b}})
}

// TestOrder holds that runs are kept as they came: what older ones came to first, with one more of its element ahead of the next element's.
func TestOrder(t *testing.T) {
	check(t, "SEQ(A a{1,2}, (A|B) b, C c) WITHIN 9",
		fed{at("A", 1, 1, 0), nil, false, [][]api.Pair{pairs(0, 1)}},
		fed{at("A", 2, 2, 0), nil, false, [][]api.Pair{pairs(0, 1), pairs(0, 1, 0, 2), pairs(0, 1, 1, 2), pairs(0, 2)}},
		fed{at("C", 3, 3, 0), [][]api.Pair{pairs(0, 1, 1, 2, 2, 3)}, false, [][]api.Pair{pairs(0, 1), pairs(0, 1, 0, 2), pairs(0, 1, 1, 2), pairs(0, 2)}})
	// Matches are told by truth's order, not by that of runs.
	check(t, "SEQ(A a{1,2}, B b) WITHIN 9",
		fed{at("A", 1, 9, 0), nil, false, [][]api.Pair{pairs(0, 9)}},
		fed{at("A", 2, 5, 0), nil, false, [][]api.Pair{pairs(0, 9), pairs(0, 9, 0, 5), pairs(0, 5)}},
		fed{at("B", 3, 7, 0), [][]api.Pair{pairs(0, 5, 1, 7), pairs(0, 9, 0, 5, 1, 7), pairs(0, 9, 1, 7)}, false,
			[][]api.Pair{pairs(0, 9), pairs(0, 9, 0, 5), pairs(0, 5)}})
}

// TestOver holds that runs go when they are more than the window behind, and not before.
func TestOver(t *testing.T) {
	check(t, "SEQ(A a, B b) WITHIN 9",
		fed{at("A", 1, 1, 0), nil, false, [][]api.Pair{pairs(0, 1)}},
		fed{at("B", 10, 2, 0), [][]api.Pair{pairs(0, 1, 1, 2)}, false, [][]api.Pair{pairs(0, 1)}},
		fed{at("B", 11, 3, 0), nil, false, nil})
	check(t, "SEQ(A a, B b) WITHIN 9",
		fed{at("A", math.MinInt64, 1, 0), nil, false, [][]api.Pair{pairs(0, 1)}},
		fed{at("A", math.MaxInt64, 2, 0), nil, false, [][]api.Pair{pairs(0, 2)}})
}

// TestGuards holds that a run that is blocked goes on with its element alone, and goes where there is no more of it.
func TestGuards(t *testing.T) {
	check(t, "SEQ(A a, !B n, C c) WHERE n: n.x > a.x WITHIN 9",
		fed{at("A", 1, 1, 5), nil, false, [][]api.Pair{pairs(0, 1)}},
		fed{at("B", 2, 2, 5), nil, false, [][]api.Pair{pairs(0, 1)}},
		fed{at("A", 3, 3, 7), nil, false, [][]api.Pair{pairs(0, 1), pairs(0, 3)}},
		fed{at("B", 4, 4, 6), nil, false, [][]api.Pair{pairs(0, 3)}},
		fed{at("C", 5, 5, 0), [][]api.Pair{pairs(0, 3, 2, 5)}, false, [][]api.Pair{pairs(0, 3)}})
	check(t, "SEQ(A a{1,2}, !B n, C c) WITHIN 9",
		fed{at("A", 1, 1, 0), nil, false, [][]api.Pair{pairs(0, 1)}},
		fed{at("B", 2, 2, 0), nil, false, [][]api.Pair{pairs(0, 1)}},
		fed{at("C", 3, 3, 0), nil, false, [][]api.Pair{pairs(0, 1)}},
		fed{at("A", 4, 4, 0), nil, false, [][]api.Pair{pairs(0, 1), pairs(0, 1, 0, 4), pairs(0, 4)}},
		fed{at("C", 5, 5, 0), [][]api.Pair{pairs(0, 1, 0, 4, 2, 5), pairs(0, 4, 2, 5)}, false, [][]api.Pair{pairs(0, 1), pairs(0, 1, 0, 4), pairs(0, 4)}},
		fed{at("B", 6, 6, 0), nil, false, [][]api.Pair{pairs(0, 1), pairs(0, 4)}})
	// What an event comes to is not blocked by it.
	check(t, "SEQ(A a, !(A|C) n, C c) WITHIN 9",
		fed{at("A", 1, 1, 0), nil, false, [][]api.Pair{pairs(0, 1)}},
		fed{at("C", 2, 2, 0), [][]api.Pair{pairs(0, 1, 2, 2)}, false, nil},
		fed{at("A", 3, 3, 0), nil, false, [][]api.Pair{pairs(0, 3)}},
		fed{at("A", 4, 4, 0), nil, false, [][]api.Pair{pairs(0, 4)}})
}

// TestCap holds that no more runs are kept than Cap, that it is told where more would be, and that matches are told all the same.
func TestCap(t *testing.T) {
	check(t, "SEQ(A a, B b) WITHIN 9 CAP 2",
		fed{at("A", 1, 1, 0), nil, false, [][]api.Pair{pairs(0, 1)}},
		fed{at("A", 2, 2, 0), nil, false, [][]api.Pair{pairs(0, 1), pairs(0, 2)}},
		fed{at("A", 3, 3, 0), nil, true, [][]api.Pair{pairs(0, 1), pairs(0, 2)}},
		fed{at("C", 4, 4, 0), nil, false, [][]api.Pair{pairs(0, 1), pairs(0, 2)}},
		fed{at("B", 5, 5, 0), [][]api.Pair{pairs(0, 1, 1, 5), pairs(0, 2, 1, 5)}, false, [][]api.Pair{pairs(0, 1), pairs(0, 2)}},
		fed{at("A", 11, 6, 0), nil, false, [][]api.Pair{pairs(0, 2), pairs(0, 6)}})
	// Those that came first are kept; one that is dead is not lost.
	check(t, "SEQ(A a{1,2}, A b) WITHIN 9 CAP 2",
		fed{at("A", 1, 1, 0), nil, false, [][]api.Pair{pairs(0, 1)}},
		fed{at("A", 2, 2, 0), [][]api.Pair{pairs(0, 1, 1, 2)}, true, [][]api.Pair{pairs(0, 1), pairs(0, 1, 0, 2)}},
		fed{at("A", 3, 3, 0), [][]api.Pair{pairs(0, 1, 0, 2, 1, 3), pairs(0, 1, 1, 3)}, true, [][]api.Pair{pairs(0, 1), pairs(0, 1, 0, 2)}})
	check(t, "SEQ(A a) WITHIN 9 CAP 1", fed{at("A", 1, 1, 0), [][]api.Pair{pairs(0, 1)}, false, nil})
	// A match that can go on is told, though it is lost.
	check(t, "SEQ(A a{1,2}) WITHIN 9 CAP 1",
		fed{at("A", 1, 1, 0), [][]api.Pair{pairs(0, 1)}, false, [][]api.Pair{pairs(0, 1)}},
		fed{at("A", 2, 2, 0), [][]api.Pair{pairs(0, 1, 0, 2), pairs(0, 2)}, true, [][]api.Pair{pairs(0, 1)}})
	// The room of a run that goes is free at once.
	check(t, "SEQ(A a, !A n, B b) WITHIN 9 CAP 1",
		fed{at("A", 1, 1, 0), nil, false, [][]api.Pair{pairs(0, 1)}},
		fed{at("A", 2, 2, 0), nil, false, [][]api.Pair{pairs(0, 2)}})
	check(t, "SEQ(A a, B b) WITHIN 9 CAP 0",
		fed{at("A", 1, 1, 0), nil, true, nil},
		fed{at("B", 1, 2, 0), nil, false, nil})
}

func sameSaves(a, b []api.Saved) bool { return slices.EqualFunc(a, b, sample.SameSaved) }

func TestSaveAndLoad(t *testing.T) {
	s, q := sample.Schema(), sample.Query("SEQ(A a, A b{1,2}, !C n, B c) WHERE c: c.x = a.x WITHIN 9 CAP 3")
	x := match.New(s, q)
	if got := x.Save(); len(got) != 0 {
		t.Errorf("got %v", got)
	}
	x.Feed(at("A", 1, 1, 5))
	x.Feed(at("A", 2, 2, 6))
	x.Feed(at("C", 3, 3, 7))
	a := []api.Bound{{Var: "a", E: at("A", 1, 1, 5)}}
	want := []api.Saved{
		{State: 1, Pairs: pairs(0, 1), Env: a, First: 1, Last: api.Stamp{Time: 1, Seq: 1}},
		{State: 2, Pairs: pairs(0, 1, 1, 2), Env: a, First: 1, Last: api.Stamp{Time: 2, Seq: 2}, Blocked: true},
		{State: 1, Pairs: pairs(0, 2), Env: []api.Bound{{Var: "a", E: at("A", 2, 2, 6)}}, First: 2, Last: api.Stamp{Time: 2, Seq: 2}},
	}
	if got := x.Save(); !sameSaves(got, want) {
		t.Errorf("got %v", got)
	}
	y := match.Load(s, q, x.Save())
	if got := y.Save(); !sameSaves(got, want) || y.Live() != 3 || !sameAll(y.Runs(), x.Runs()) {
		t.Errorf("loaded: got %v", got)
	}
	for _, e := range []api.Event{at("A", 4, 4, 0), at("B", 5, 5, 5), at("B", 6, 6, 6), at("A", 11, 7, 1)} {
		m, lost := x.Feed(e)
		n, too := y.Feed(e)
		if !sameAll(m, n) || lost != too || !sameSaves(x.Save(), y.Save()) {
			t.Errorf("at %s: got %v, %v, and %v, %v", event.Show(e), m, lost, n, too)
		}
	}
}

// TestLoadOthers holds that Cap runs at most are loaded, the first ones, and that any can be.
func TestLoadOthers(t *testing.T) {
	s, q := sample.Schema(), sample.Query("SEQ(A a, B b) WITHIN 9 CAP 2")
	var l []api.Saved
	for i := range int64(4) {
		l = append(l, api.Saved{State: 1, Pairs: pairs(0, i+1), First: 1})
	}
	for many := range l {
		x := match.Load(s, q, l[:many])
		if got := x.Save(); !sameSaves(got, l[:min(many, 2)]) {
			t.Errorf("of %d: got %v", many, got)
		}
	}
	for _, most := range []int{0, -1, math.MinInt} {
		q.Cap = most
		if x := match.Load(s, q, l); x.Live() != 0 {
			t.Errorf("with Cap %d it keeps %d", most, x.Live())
		}
	}
	q.Cap = 5
	odd := []api.Saved{{State: 77, Pairs: pairs(9, 9)}, {}, {State: 1, Blocked: true}, {State: -1, Pairs: pairs(-5, 1)}, {State: 2, Pairs: pairs(0, 1)}}
	x := match.Load(s, q, odd)
	if got := x.Save(); !sameSaves(got, odd) {
		t.Errorf("got %v", got)
	}
	// What is at no state that there is goes; what has nothing begins.
	matches, lost := x.Feed(at("A", 1, 7, 0))
	if len(matches) != 0 || lost || !sameAll(x.Runs(), [][]api.Pair{{}, {}, pairs(0, 1), pairs(0, 7), pairs(0, 7)}) {
		t.Errorf("got %v, %v, %v", matches, lost, x.Runs())
	}
}

func TestOfNone(t *testing.T) {
	var none *match.Matcher
	matches, lost := none.Feed(at("A", 1, 1, 0))
	if len(matches) != 0 || lost || none.Live() != 0 || len(none.Runs()) != 0 || len(none.Save()) != 0 {
		t.Errorf("got %v, %v", matches, lost)
	}
	for _, x := range []*match.Matcher{{}, match.New(nil, api.Query{}), match.New(sample.Schema(), api.Query{Cap: 5}), match.Load(nil, api.Query{Cap: 5}, nil)} {
		matches, lost := x.Feed(at("A", 1, 1, 0))
		if len(matches) != 0 || lost || x.Live() != 0 {
			t.Errorf("got %v, %v", matches, lost)
		}
	}
}

func TestIsTheCallers(t *testing.T) {
	s := sample.Schema()
	const text = "SEQ(A a, B b) WHERE b: b.x = a.x WITHIN 9"
	q, a := sample.Query(text), at("A", 1, 1, 5)
	x := match.New(s, q)
	x.Feed(a)
	saved := x.Save()
	y := match.Load(s, q, saved)
	if !pat.Same(q, sample.Query(text)) || !event.Same(a, at("A", 1, 1, 5)) || !sameSaves(saved, x.Save()) {
		t.Errorf("what was handed in was changed: %v, %v, %v", q, a, saved)
	}
	q.Elems[0].Types[0], q.Elems[1].Types[0], q.Elems[1].Pred[0] = "Z", "Z", api.Node{}
	a.Vals[0] = value.Num(6)
	saved[0].Pairs[0].Seq = 77
	saved[0].Env[0].E.Vals[0] = value.Num(6)
	x.Runs()[0][0].Seq = 77
	for _, z := range []*match.Matcher{x, y} {
		matches, _ := z.Feed(at("B", 2, 2, 5))
		if !sameAll(matches, [][]api.Pair{pairs(0, 1, 1, 2)}) {
			t.Errorf("got %v", matches)
		}
		matches[0][0].Seq = 77
		if !sameAll(z.Runs(), [][]api.Pair{pairs(0, 1)}) {
			t.Errorf("got %v", z.Runs())
		}
	}
}
