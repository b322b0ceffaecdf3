package run_test

import (
	"math"
	"slices"
	"testing"

	"lamplighter/api"
	"lamplighter/event"
	"lamplighter/run"
	"lamplighter/sample"
	"lamplighter/value"
)

// pairs is a list of pairs, from elements and numbers that take turns.
var pairs = sample.Pairs

// query is A a, !B n, C c{1,3}, D d.
func query() api.Query {
	elem := func(name, kind string, least, most int) api.Elem {
		return api.Elem{Var: name, Types: []string{kind}, Min: least, Max: most}
	}
	not := elem("n", "B", 1, 1)
	not.Neg = true
	return api.Query{Elems: []api.Elem{elem("a", "A", 1, 1), not, elem("c", "C", 1, 3), elem("d", "D", 1, 1)}, Window: 10, Cap: 5}
}

func at(kind string, time, seq int64) api.Event {
	return sample.Event(kind, "k", time, seq, seq)
}

func sameBounds(a, b []api.Bound) bool {
	return slices.EqualFunc(a, b, func(x, y api.Bound) bool { return x.Var == y.Var && event.Same(x.E, y.E) })
}

// check holds all that is told of a run against what should be.
func check(t *testing.T, r run.Run, want api.Saved) {
	t.Helper()
	got := api.Saved{State: r.State(), Pairs: r.Pairs(), Env: r.Env(), First: r.First(), Last: r.Last(), Blocked: r.Blocked()}
	if !sample.SameSaved(got, want) {
		t.Errorf("got %v, want %v", got, want)
	}
	if !sample.SameSaved(r.Save(), want) || !sample.SameSaved(run.Load(want).Save(), want) || !run.Same(run.Load(want), r) {
		t.Errorf("kept elsewhere: got %v, want %v", r.Save(), want)
	}
	elem := -1
	if many := len(want.Pairs); many > 0 {
		elem = want.Pairs[many-1].Elem
	}
	if r.Len() != len(want.Pairs) || r.Elem() != elem {
		t.Errorf("got %d pairs, and element %d, want %v", r.Len(), r.Elem(), want)
	}
}

func TestTheZeroRun(t *testing.T) {
	check(t, run.Run{}, api.Saved{})
	check(t, run.Load(api.Saved{}), api.Saved{})
	check(t, run.Load(api.Saved{Pairs: []api.Pair{}, Env: []api.Bound{}}), api.Saved{})
	check(t, run.Run{}.Block(), api.Saved{Blocked: true})
}

// TestWith holds that a run has a pair more, and what its variable stands for only if it has Max 1; and that others stay.
func TestWith(t *testing.T) {
	q := query()
	a := api.Bound{Var: "a", E: at("A", 5, 1)}
	one := run.Run{}.With(q, 1, 0, at("A", 5, 1))
	wantOne := api.Saved{State: 1, Pairs: pairs(0, 1), Env: []api.Bound{a}, First: 5, Last: api.Stamp{Time: 5, Seq: 1}}
	check(t, one, wantOne)
	two := one.Block().With(q, 2, 2, at("C", 5, 3))
	wantTwo := api.Saved{State: 2, Pairs: pairs(0, 1, 2, 3), Env: []api.Bound{a}, First: 5, Last: api.Stamp{Time: 5, Seq: 3}}
	check(t, two, wantTwo)
	three := two.With(q, 3, 2, at("C", 8, 4))
	check(t, three, api.Saved{State: 3, Pairs: pairs(0, 1, 2, 3, 2, 4), Env: []api.Bound{a}, First: 5, Last: api.Stamp{Time: 8, Seq: 4}})
	other := two.With(q, 5, 3, at("D", 9, 9))
	d := api.Bound{Var: "d", E: at("D", 9, 9)}
	check(t, other, api.Saved{State: 5, Pairs: pairs(0, 1, 2, 3, 3, 9), Env: []api.Bound{a, d}, First: 5, Last: api.Stamp{Time: 9, Seq: 9}})
	check(t, two, wantTwo)
	check(t, one, wantOne)
	check(t, run.Run{}, api.Saved{})
}

// TestWithWhatIsNot holds that elements that there are not have pairs, and no variables.
func TestWithWhatIsNot(t *testing.T) {
	q := query()
	for _, elem := range []int{-1, 4, math.MinInt, math.MaxInt} {
		r := run.Run{}.With(q, -7, elem, at("A", -3, -2))
		check(t, r, api.Saved{State: -7, Pairs: []api.Pair{{Elem: elem, Seq: -2}}, First: -3, Last: api.Stamp{Time: -3, Seq: -2}})
		if r.Dead(q, math.MaxInt) || r.Block().Dead(q, math.MaxInt) {
			t.Errorf("a run at %d is dead", elem)
		}
	}
	check(t, run.Run{}.With(api.Query{}, 1, 0, api.Event{}), api.Saved{State: 1, Pairs: pairs(0, 0)})
	// What stands at no pair is forgotten when it begins.
	r := run.Load(api.Saved{First: 77, Last: api.Stamp{Time: 1, Seq: 2, At: 3}})
	check(t, r, api.Saved{First: 77, Last: api.Stamp{Time: 1, Seq: 2, At: 3}})
	check(t, r.With(q, 1, 2, at("C", 5, 1)), api.Saved{State: 1, Pairs: pairs(2, 1), First: 5, Last: api.Stamp{Time: 5, Seq: 1}})
}

func TestBlock(t *testing.T) {
	r := run.Run{}.With(query(), 1, 0, at("A", 5, 1))
	want := r.Save()
	want.Blocked = true
	check(t, r.Block(), want)
	check(t, r.Block().Block(), want)
	if r.Blocked() {
		t.Error("the other run is blocked")
	}
}

func TestOver(t *testing.T) {
	q := query()
	late := query()
	late.Window = math.MaxInt64
	below := query()
	below.Window = -1
	cases := []struct {
		q           api.Query
		first, time int64
		want        bool
	}{
		{q, 5, 5, false}, {q, 5, 15, false}, {q, 5, 16, true}, {q, 5, 4, false}, {q, 5, math.MaxInt64, true},
		{q, -5, 5, false}, {q, -5, 6, true}, {q, math.MinInt64, math.MaxInt64, true}, {q, math.MaxInt64, math.MinInt64, false},
		{q, math.MinInt64, 0, true}, {q, 1, math.MinInt64, false}, {q, -1, math.MaxInt64, true},
		{late, 0, math.MaxInt64, false}, {late, -1, math.MaxInt64, true}, {late, -1, math.MaxInt64 - 1, false},
		{below, 5, 5, true}, {below, 5, 4, false}, {below, 5, 6, true}, {below, math.MaxInt64, math.MinInt64, false},
	}
	for _, c := range cases {
		one := run.Run{}.With(c.q, 1, 0, at("A", c.first, 1))
		for _, r := range []run.Run{one, one.With(c.q, 2, 2, at("C", 9, 2))} {
			if got := r.Over(c.q, c.time); got != c.want {
				t.Errorf("Over at %d, from %d on, within %d: got %v", c.time, c.first, c.q.Window, got)
			}
		}
	}
	if (run.Run{}).Over(below, 100) || run.Load(api.Saved{First: 1}).Over(q, 100) {
		t.Error("what has no pairs is over")
	}
}

func TestDead(t *testing.T) {
	q := query()
	a := run.Run{}.With(q, 1, 0, at("A", 5, 1))
	c := a.With(q, 2, 2, at("C", 6, 2))
	d := c.With(q, 5, 3, at("D", 7, 3))
	ended := query()
	ended.Elems[3].Neg = true
	cases := []struct {
		name  string
		r     run.Run
		q     api.Query
		count int
		want  bool
	}{
		{"none", run.Run{}, q, 9, false},
		{"none, blocked", run.Run{}.Block(), q, 9, false},
		{"a", a, q, 1, false},
		{"a, blocked", a.Block(), q, 1, true},
		{"a, blocked, with none", a.Block(), q, 0, false},
		{"a, blocked, with more", a.Block(), q, 2, true},
		{"c", c, q, 3, false},
		{"c, blocked", c.Block(), q, 3, true},
		{"c, blocked, with fewer", c.Block(), q, 2, false},
		{"d", d, q, 1, true},
		{"d with fewer", d, q, 0, false},
		{"d, blocked", d.Block(), q, 1, true},
		{"c, and none behind that must be there", c, ended, 3, true},
		{"c, and none behind that must be there, with fewer", c, ended, 2, false},
		{"c of no query", c.Block(), api.Query{}, 3, false},
		{"c with the least number", c.Block(), q, math.MinInt, false},
	}
	for _, x := range cases {
		if got := x.r.Dead(x.q, x.count); got != x.want {
			t.Errorf("%s: got %v", x.name, got)
		}
	}
}

// TestSame holds that each thing about a run tells it from others, but what variables stand for.
func TestSame(t *testing.T) {
	full := func() api.Saved {
		return api.Saved{State: 2, Pairs: pairs(0, 1, 2, 3), Env: []api.Bound{{Var: "a", E: at("A", 5, 1)}}, First: 5, Last: api.Stamp{Time: 6, Seq: 3}}
	}
	but := func(change func(s *api.Saved)) run.Run {
		s := full()
		change(&s)
		return run.Load(s)
	}
	unlike := []run.Run{
		{},
		run.Load(full()),
		run.Load(full()).Block(),
		but(func(s *api.Saved) { s.State = 3 }),
		but(func(s *api.Saved) { s.Pairs = pairs(0, 1) }),
		but(func(s *api.Saved) { s.Pairs = pairs(0, 1, 2, 4) }),
		but(func(s *api.Saved) { s.Pairs = pairs(0, 1, 1, 3) }),
		but(func(s *api.Saved) { s.Pairs = pairs(1, 1, 2, 3) }),
		but(func(s *api.Saved) { s.Pairs = nil }),
		but(func(s *api.Saved) { s.First = 4 }),
		but(func(s *api.Saved) { s.Last.Time = 7 }),
		but(func(s *api.Saved) { s.Last.Seq = 7 }),
		but(func(s *api.Saved) { s.Last.At = 7 }),
	}
	for i, a := range unlike {
		for j, b := range unlike {
			if got := run.Same(a, run.Load(b.Save())); got != (i == j) {
				t.Errorf("Same %v %v: got %v", a.Save(), b.Save(), got)
			}
		}
	}
	if !run.Same(unlike[1], but(func(s *api.Saved) { s.Env = nil })) {
		t.Error("what variables stand for tells runs apart")
	}
}

func TestAgain(t *testing.T) {
	q := query()
	l := []api.Event{at("A", 5, 1), at("C", 6, 3), at("C", 7, 2), at("D", 8, 9)}
	m := pairs(0, 1, 2, 3, 2, 2, 3, 9)
	r := run.Run{}.With(q, 1, 0, l[0]).With(q, 2, 2, l[1]).With(q, 3, 2, l[2]).With(q, 5, 3, l[3])
	again := run.Again(q, 5, m, l)
	check(t, again, r.Save())
	slices.Reverse(l)
	check(t, run.Again(q, 5, m, l), r.Save())
	check(t, run.Again(q, 4, nil, l), api.Saved{State: 4})
	check(t, run.Again(q, 4, m, nil), api.Saved{State: 4})
	check(t, run.Again(q, -4, pairs(0, 7, 2, 2, 3, 8), l), api.Saved{State: -4, Pairs: pairs(2, 2), First: 7, Last: api.Stamp{Time: 7, Seq: 2}})
	check(t, run.Again(api.Query{}, 1, pairs(7, 2), l), api.Saved{State: 1, Pairs: pairs(7, 2), First: 7, Last: api.Stamp{Time: 7, Seq: 2}})
}

// TestIsTheCallers holds that what is handed in, and what is told, may be changed later.
func TestIsTheCallers(t *testing.T) {
	q, a := query(), at("A", 5, 1)
	r := run.Run{}.With(q, 1, 0, a)
	want := api.Saved{State: 1, Pairs: pairs(0, 1), Env: []api.Bound{{Var: "a", E: at("A", 5, 1)}}, First: 5, Last: api.Stamp{Time: 5, Seq: 1}}
	spoil := func(s api.Saved) {
		s.Env[0].E.Vals[0] = value.Num(77)
		s.Env[0].Var, s.Env[0].E.Type, s.Pairs[0].Seq = "z", "Z", 77
	}
	q.Elems[0].Var, a.Vals[0] = "z", value.Num(77)
	spoil(api.Saved{Pairs: r.Pairs(), Env: r.Env()})
	spoil(r.Save())
	check(t, r, want)
	s := r.Save()
	loaded := run.Load(s)
	spoil(s)
	spoil(loaded.Save())
	check(t, loaded, want)
	again := run.Again(query(), 1, pairs(0, 1), []api.Event{at("A", 5, 1)})
	spoil(again.Save())
	check(t, again, want)
}
