package pat_test

import (
	"math"
	"slices"
	"testing"

	"lamplighter/api"
	"lamplighter/pat"
	"lamplighter/value"
)

// must is an element that must be there so often; mustNot, one that must not.
func must(name string, least, most int, types ...string) api.Elem {
	return api.Elem{Var: name, Types: types, Min: least, Max: most}
}

func mustNot(name string, types ...string) api.Elem {
	return api.Elem{Var: name, Types: types, Neg: true, Min: 1, Max: 1}
}

func query(l ...api.Elem) api.Query { return api.Query{Elems: l, Window: 9, Cap: 5} }

// signs is a query in which an element that must be there stands for a +, and one that must not for a !.
func signs(s string) api.Query {
	var l []api.Elem
	for i := range len(s) {
		if s[i] == '!' {
			l = append(l, mustNot("n", "N"))
			continue
		}
		l = append(l, must("a", 1, 1, "A"))
	}
	return query(l...)
}

// long is a query of all sorts of elements.
func long() api.Query {
	q := query(
		must("a", 1, 1, "A"), mustNot("b", "B", "C"), must("c", 1, 3, "C"), must("d", 1, 1, "A", "D"),
		mustNot("e", "E"), mustNot("f", "F"), must("g", 2, 4, "G"), must("a", 1, 1, "H"),
	)
	q.Elems[0].Pred = []api.Node{{Op: api.OpConst, V: value.Truth(true)}}
	q.Elems[3].Pred = []api.Node{{Op: api.OpField, Var: "a", Field: "x"}, {Op: api.OpField, Var: "d", Field: "x"}, {Op: api.OpEq}}
	return q
}

func TestNextAndBetween(t *testing.T) {
	none := []int(nil)
	cases := []struct {
		signs   string
		at      int
		next    int
		between []int
	}{
		{"+!+", 0, 2, []int{1}},
		{"+!+", 1, 2, none},
		{"+!+", 2, -1, none},
		{"+!+", -1, 0, none},
		{"+!+", -2, 0, none},
		{"+!+", math.MinInt, 0, none},
		{"+!+", 3, -1, none},
		{"+!+", 4, -1, none},
		{"+!+", math.MaxInt, -1, none},
		{"++", 0, 1, none},
		{"+", -1, 0, none},
		{"+", 0, -1, none},
		{"!!+!!!++!", -1, 2, []int{0, 1}},
		{"!!+!!!++!", -7, 2, []int{0, 1}},
		{"!!+!!!++!", 0, 2, []int{1}},
		{"!!+!!!++!", 1, 2, none},
		{"!!+!!!++!", 2, 6, []int{3, 4, 5}},
		{"!!+!!!++!", 4, 6, []int{5}},
		{"!!+!!!++!", 6, 7, none},
		{"!!+!!!++!", 7, -1, []int{8}},
		{"!!+!!!++!", 8, -1, none},
		{"!!", -1, -1, []int{0, 1}},
		{"!!", 0, -1, []int{1}},
		{"", -1, -1, none},
		{"", 0, -1, none},
		{"", math.MaxInt, -1, none},
		{"", math.MinInt, -1, none},
	}
	for _, c := range cases {
		q := signs(c.signs)
		if got := pat.Next(q, c.at); got != c.next {
			t.Errorf("Next of %s behind %d: got %d", c.signs, c.at, got)
		}
		if got := pat.Between(q, c.at); !slices.Equal(got, c.between) {
			t.Errorf("Between of %s behind %d: got %v", c.signs, c.at, got)
		}
	}
}

func TestLast(t *testing.T) {
	for s, want := range map[string]int{"": -1, "+": 0, "!": -1, "!!!": -1, "+!": 0, "+!+": 2, "++!!": 1, "!+": 1, "!+!+!": 3} {
		if got := pat.Last(signs(s)); got != want {
			t.Errorf("Last of %s: got %d", s, got)
		}
	}
}

func sameBind(a, b api.Bind) bool { return a.Var == b.Var && slices.Equal(a.Types, b.Types) }

func TestScope(t *testing.T) {
	a, d := api.Bind{Var: "a", Types: []string{"A"}}, api.Bind{Var: "d", Types: []string{"A", "D"}}
	last := api.Bind{Var: "a", Types: []string{"H"}}
	cases := []struct {
		at   int
		want []api.Bind
	}{
		{math.MinInt, nil},
		{-1, nil},
		{0, []api.Bind{a}},
		{1, []api.Bind{a, {Var: "b", Types: []string{"B", "C"}}}},
		{2, []api.Bind{a, {Var: "c", Types: []string{"C"}}}},
		{3, []api.Bind{a, d}},
		{4, []api.Bind{a, d, {Var: "e", Types: []string{"E"}}}},
		{5, []api.Bind{a, d, {Var: "f", Types: []string{"F"}}}},
		{6, []api.Bind{a, d, {Var: "g", Types: []string{"G"}}}},
		{7, []api.Bind{a, d, last}},
		{8, []api.Bind{a, d, last}},
		{math.MaxInt, []api.Bind{a, d, last}},
	}
	for _, c := range cases {
		if got := pat.Scope(long(), c.at); !slices.EqualFunc(got, c.want, sameBind) {
			t.Errorf("Scope at %d: got %v", c.at, got)
		}
	}
	if got := pat.Scope(api.Query{}, 0); len(got) != 0 {
		t.Errorf("Scope of no elements: got %v", got)
	}
	// It is Max alone that tells whether an element stands for one event.
	q := query(must("a", 0, 1, "A"), must("b", 1, 0, "B"), must("c", 1, 2, "C"), must("d", 1, 1, "D"))
	want := []api.Bind{{Var: "a", Types: []string{"A"}}, {Var: "d", Types: []string{"D"}}}
	if got := pat.Scope(q, 3); !slices.EqualFunc(got, want, sameBind) {
		t.Errorf("Scope: got %v", got)
	}
}

func TestFind(t *testing.T) {
	q := long()
	for name, want := range map[string]int{"a": 0, "b": 1, "c": 2, "d": 3, "f": 5, "g": 6, "": -1, "A": -1, "z": -1, "ab": -1} {
		if got := pat.Find(q, name); got != want {
			t.Errorf("Find %q: got %d", name, got)
		}
	}
	if got := pat.Find(api.Query{}, ""); got != -1 {
		t.Errorf("Find in nothing: got %d", got)
	}
}

// TestSameAndCopy holds that each thing about a query tells it from others, and that a copy is alike.
func TestSameAndCopy(t *testing.T) {
	but := func(change func(q *api.Query)) api.Query {
		q := long()
		change(&q)
		return q
	}
	unlike := []api.Query{
		{},
		long(),
		but(func(q *api.Query) { q.Window = 8 }),
		but(func(q *api.Query) { q.Cap = 8 }),
		but(func(q *api.Query) { q.Elems = nil }),
		but(func(q *api.Query) { q.Elems = q.Elems[:7] }),
		but(func(q *api.Query) { q.Elems = append(q.Elems, api.Elem{}) }),
		but(func(q *api.Query) { q.Elems[0], q.Elems[1] = q.Elems[1], q.Elems[0] }),
		but(func(q *api.Query) { q.Elems[2].Var = "z" }),
		but(func(q *api.Query) { q.Elems[2].Neg = true }),
		but(func(q *api.Query) { q.Elems[2].Min = 2 }),
		but(func(q *api.Query) { q.Elems[2].Max = 2 }),
		but(func(q *api.Query) { q.Elems[2].Types = nil }),
		but(func(q *api.Query) { q.Elems[2].Types[0] = "Z" }),
		but(func(q *api.Query) { q.Elems[3].Types[0], q.Elems[3].Types[1] = "D", "A" }),
		but(func(q *api.Query) { q.Elems[3].Pred = nil }),
		but(func(q *api.Query) { q.Elems[3].Pred = q.Elems[3].Pred[:2] }),
		but(func(q *api.Query) { q.Elems[3].Pred[2].Op = api.OpNe }),
		but(func(q *api.Query) { q.Elems[0].Pred[0].V.B = false }),
	}
	for i, a := range unlike {
		for j, b := range unlike {
			if got := pat.Same(a, pat.Copy(b)); got != (i == j) {
				t.Errorf("Same %v %v: got %v", a, b, got)
			}
		}
	}
}

func TestEmptyListsAreAlike(t *testing.T) {
	some := query(api.Elem{Var: "a", Types: []string{}, Pred: []api.Node{}})
	none := query(api.Elem{Var: "a"})
	if !pat.Same(some, none) || !pat.Same(none, some) || !pat.Same(api.Query{}, api.Query{Elems: []api.Elem{}}) {
		t.Error("empty lists and none are unlike")
	}
	if !pat.Same(pat.Copy(some), none) || !pat.Same(pat.Copy(none), some) {
		t.Error("a copy is unlike")
	}
}

// spoil changes all that a query's lists have.
func spoil(q api.Query) {
	for i := range q.Elems {
		for j := range q.Elems[i].Types {
			q.Elems[i].Types[j] = "Z"
		}
		for j := range q.Elems[i].Pred {
			q.Elems[i].Pred[j] = api.Node{}
		}
		q.Elems[i] = api.Elem{}
	}
}

func TestIsTheCallers(t *testing.T) {
	q := long()
	c := pat.Copy(q)
	scope := pat.Scope(q, 7)
	spoil(q)
	if !pat.Same(c, long()) {
		t.Errorf("the copy was changed: %v", c)
	}
	if !slices.EqualFunc(scope, pat.Scope(c, 7), sameBind) {
		t.Errorf("the scope was changed: %v", scope)
	}
	for i := range scope {
		scope[i].Types[0] = "Z"
	}
	spoil(pat.Copy(c))
	pat.Next(c, 0)
	pat.Between(c, 0)
	pat.Most(c)
	if !pat.Same(c, long()) {
		t.Errorf("what was handed in was changed: %v", c)
	}
}

func TestMostAndLeast(t *testing.T) {
	cases := []struct {
		q           api.Query
		least, most int
	}{
		{api.Query{}, 0, 0},
		{signs("!!"), 0, 0},
		{signs("+"), 1, 1},
		{signs("+!+!+"), 3, 3},
		{long(), 6, 10},
		{query(must("a", 0, 4, "A"), must("b", 4, 4, "B")), 4, 8},
		{query(must("a", -1, -1, "A"), must("b", 2, 3, "B")), 2, 3},
		{query(must("a", 5, 5, "A"), must("b", 2, 3, "B")), 6, 7},
		{query(must("a", 3, 1, "A")), 3, 1},
		{query(must("a", math.MinInt, math.MaxInt, "A"), must("b", math.MaxInt, math.MinInt, "B")), 4, 4},
		{query(api.Elem{Neg: true, Min: 3, Max: 4}, must("b", 1, 2, "B")), 1, 2},
	}
	for _, c := range cases {
		if got := pat.Least(c.q); got != c.least {
			t.Errorf("Least %v: got %d", c.q, got)
		}
		if got := pat.Most(c.q); got != c.most {
			t.Errorf("Most %v: got %d", c.q, got)
		}
	}
}
