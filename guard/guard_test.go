package guard_test

import (
	"math"
	"testing"

	"lamplighter/api"
	"lamplighter/event"
	"lamplighter/guard"
	"lamplighter/pat"
	"lamplighter/run"
	"lamplighter/sample"
	"lamplighter/schema"
)

func at(kind string, x int64) api.Event {
	return sample.Event(kind, "k", 5, x, x)
}

func TestExample(t *testing.T) {
	s, q := sample.Schema(), sample.Query("SEQ(A a, !B b, C c) WITHIN 9")
	r := run.Run{}.With(q, 1, 0, at("A", 1))
	for kind, want := range map[string]bool{"A": false, "B": true, "C": false, "D": false, "": false} {
		if got := guard.Blocks(s, q, r, at(kind, 2)); got != want {
			t.Errorf("%q: got %v", kind, got)
		}
		if guard.Blocks(s, q, run.Run{}, at(kind, 2)) {
			t.Errorf("%q blocks what has no pairs", kind)
		}
	}
}

func TestFits(t *testing.T) {
	s := sample.Schema()
	q := sample.Query("SEQ(A a, !(A|B) n, C c{1,2}, (B|C) d) WHERE a: a.x > 1; n: n.x = a.x + 2; d: d.x > a.x WITHIN 9")
	none := run.Run{}
	a := none.With(q, 1, 0, at("A", 5))
	c := a.With(q, 2, 2, at("C", 7))
	cases := []struct {
		name string
		r    run.Run
		at   int
		e    api.Event
		want bool
	}{
		{"a", none, 0, at("A", 2), true},
		{"a that is too small", none, 0, at("A", 1), false},
		{"a of another type", none, 0, at("B", 2), false},
		{"a without values", none, 0, api.Event{Type: "A"}, false},
		{"a behind another one stands for itself", a, 0, at("A", 1), false},
		{"n", a, 1, at("B", 7), true},
		{"n of another type", a, 1, at("A", 7), true},
		{"n of none of its types", a, 1, at("C", 7), false},
		{"n with another number", a, 1, at("B", 8), false},
		{"n behind nothing", none, 1, at("B", 7), false},
		{"n of a blocked run", a.Block(), 1, at("B", 7), true},
		{"c has no predicate", none, 2, at("C", 0), true},
		{"c of another type", c, 2, at("A", 0), false},
		{"d behind c", c, 3, at("B", 6), true},
		{"d that is too small", c, 3, at("C", 5), false},
		{"before all", c, -1, at("A", 9), false},
		{"behind all", c, 4, at("A", 9), false},
		{"far behind all", c, math.MaxInt, at("A", 9), false},
		{"far before all", c, math.MinInt, at("A", 9), false},
		{"no event", none, 0, api.Event{}, false},
	}
	for _, x := range cases {
		if got := guard.Fits(s, q, x.r, x.at, x.e); got != x.want {
			t.Errorf("%s: got %v", x.name, got)
		}
	}
	if guard.Fits(s, api.Query{}, none, 0, at("A", 5)) {
		t.Error("an element that there is not fits")
	}
}

// TestOnceAlone holds that variables that may stand for more than one event stand for none in others' predicates.
func TestOnceAlone(t *testing.T) {
	s, q := sample.Schema(), sample.Query("SEQ(A a{1,2}, B b) WHERE b: b.x > a.x WITHIN 9")
	r := run.Run{}.With(q, 1, 0, at("A", 1))
	if guard.Fits(s, q, r, 1, at("B", 5)) {
		t.Error("it fits")
	}
}

// TestItsOwnVariable holds that an element's variable stands for the event, though another one of its name is ahead.
func TestItsOwnVariable(t *testing.T) {
	s, q := sample.Schema(), sample.Query("SEQ(A a, B b) WHERE b: b.x = 2 WITHIN 9")
	q.Elems[0].Var = "b"
	r := run.Run{}.With(q, 1, 0, at("A", 1))
	if !guard.Fits(s, q, r, 1, at("B", 2)) || guard.Fits(s, q, r, 1, at("B", 1)) {
		t.Error("another one stands for it")
	}
}

// TestBlocks holds that all between a run's element and the next one that must be there block, and no others.
func TestBlocks(t *testing.T) {
	s := sample.Schema()
	q := sample.Query("SEQ(A a, !B n, !C o, A c{1,2}, !B p, A d) WHERE o: o.x = a.x; p: p.x > 3 WITHIN 9")
	a := run.Run{}.With(q, 1, 0, at("A", 5))
	c := a.With(q, 2, 3, at("A", 6))
	d := c.With(q, 4, 5, at("A", 7))
	cases := []struct {
		name string
		r    run.Run
		e    api.Event
		want bool
	}{
		{"n", a, at("B", 0), true},
		{"o", a, at("C", 5), true},
		{"o with another number", a, at("C", 6), false},
		{"neither", a, at("A", 5), false},
		{"p", c, at("B", 4), true},
		{"p that is too small", c, at("B", 3), false},
		{"o is past", c, at("C", 5), false},
		{"nothing is behind d", d, at("B", 9), false},
		{"a blocked one", a.Block(), at("B", 0), true},
		{"nothing", run.Run{}, at("B", 0), false},
	}
	for _, x := range cases {
		if got := guard.Blocks(s, q, x.r, x.e); got != x.want {
			t.Errorf("%s: got %v", x.name, got)
		}
	}
	odd := run.Load(api.Saved{Pairs: []api.Pair{{Elem: math.MaxInt}}})
	if guard.Blocks(s, q, odd, at("B", 0)) || guard.Blocks(s, api.Query{}, a, at("B", 0)) {
		t.Error("what stands behind no element blocks")
	}
	// Without elements that must be there, all stand ahead of the first.
	first := sample.Query("SEQ(!B n, A a) WITHIN 9")
	if guard.Blocks(s, first, run.Run{}, at("B", 0)) {
		t.Error("what stands ahead of the first element blocks what has no pairs")
	}
}

func TestOfNoSchema(t *testing.T) {
	q := sample.Query("SEQ(A a, !B n, C c) WHERE c: c.x = 2 WITHIN 9")
	r := run.Run{}.With(q, 1, 0, at("A", 5))
	for _, s := range []*schema.Schema{nil, {}} {
		if guard.Fits(s, q, r, 2, at("C", 2)) || !guard.Fits(s, q, r, 0, at("A", 2)) || !guard.Blocks(s, q, r, at("B", 1)) {
			t.Error("predicates ask for a schema, types do not")
		}
	}
}

func TestNothingIsChanged(t *testing.T) {
	const text = "SEQ(A a, !B n, C c) WHERE n: n.x = a.x WITHIN 9"
	s, q, e := sample.Schema(), sample.Query(text), at("B", 5)
	r := run.Run{}.With(q, 1, 0, at("A", 5))
	want := r.Save()
	if !guard.Blocks(s, q, r, e) || !guard.Fits(s, q, r, 1, e) || !guard.Blocks(s, q, r, e) {
		t.Error("it does not block")
	}
	if !pat.Same(q, sample.Query(text)) || !event.Same(e, at("B", 5)) || !run.Same(r, run.Load(want)) || !event.Same(r.Env()[0].E, at("A", 5)) {
		t.Errorf("something was changed: %v, %v, %v", q, e, r.Save())
	}
}
