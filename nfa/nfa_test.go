package nfa_test

import (
	"math"
	"slices"
	"testing"

	"lamplighter/api"
	"lamplighter/nfa"
	"lamplighter/pat"
	"lamplighter/value"
)

// must is an element that must be there so often; mustNot, one that must not.
func must(name string, least, most int) api.Elem {
	return api.Elem{Var: name, Types: []string{"A"}, Min: least, Max: most}
}

func mustNot(name string) api.Elem {
	return api.Elem{Var: name, Types: []string{"B"}, Neg: true, Min: 1, Max: 1}
}

func query(l ...api.Elem) api.Query { return api.Query{Elems: l, Window: 9, Cap: 5} }

// state is what a state should be, and what should be told of it.
type state struct {
	elem, count int
	moves       []int
	ends        bool
}

// check holds all that is told of a query's states against what they should be.
func check(t *testing.T, q api.Query, want ...state) {
	t.Helper()
	n := nfa.New(q)
	if n.Len() != len(want) {
		t.Errorf("Len: got %d, want %d", n.Len(), len(want))
	}
	for k, w := range want {
		s := api.State{Elem: w.elem, Count: w.count}
		if got, ok := n.At(k); got != s || !ok {
			t.Errorf("At %d: got %v, %v", k, got, ok)
		}
		if got := n.Find(s); got != k {
			t.Errorf("Find %v: got %d, want %d", s, got, k)
		}
		if got := n.Moves(k); !slices.Equal(got, w.moves) {
			t.Errorf("Moves of %d: got %v, want %v", k, got, w.moves)
		}
		if got := n.Ends(k); got != w.ends {
			t.Errorf("Ends %d: got %v", k, got)
		}
	}
	for _, k := range []int{-1, len(want), math.MinInt, math.MaxInt} {
		if s, ok := n.At(k); s != (api.State{}) || ok {
			t.Errorf("At %d: got %v, %v", k, s, ok)
		}
		if got := n.Moves(k); len(got) != 0 || n.Ends(k) {
			t.Errorf("there is no state %d: got %v, %v", k, got, n.Ends(k))
		}
	}
}

func TestExample(t *testing.T) {
	n := nfa.New(query(must("a", 1, 2), must("b", 1, 1)))
	if got := n.Moves(1); !slices.Equal(got, []int{2, 3}) {
		t.Errorf("got %v", got)
	}
}

func TestStates(t *testing.T) {
	check(t, query(must("a", 1, 1)), state{0, 0, []int{1}, false}, state{0, 1, nil, true})
	check(t, query(must("a", 1, 2), must("b", 1, 1)),
		state{0, 0, []int{1}, false},
		state{0, 1, []int{2, 3}, false},
		state{0, 2, []int{3}, false},
		state{1, 1, nil, true})
	check(t, query(must("a", 2, 4), mustNot("n"), mustNot("o"), must("b", 3, 3), must("c", 1, 2)),
		state{0, 0, []int{1}, false},
		state{0, 1, []int{2}, false},
		state{0, 2, []int{3, 5}, false},
		state{0, 3, []int{4, 5}, false},
		state{0, 4, []int{5}, false},
		state{3, 1, []int{6}, false},
		state{3, 2, []int{7}, false},
		state{3, 3, []int{8}, false},
		state{4, 1, []int{9}, true},
		state{4, 2, nil, true})
	check(t, query(must("a", 1, 1), must("b", 2, 3)),
		state{0, 0, []int{1}, false},
		state{0, 1, []int{2}, false},
		state{1, 1, []int{3}, false},
		state{1, 2, []int{4}, true},
		state{1, 3, nil, true})
}

// TestQueriesThatMayNotBe holds that all is told by what queries say, and that no element has more than MaxTimes.
func TestQueriesThatMayNotBe(t *testing.T) {
	check(t, api.Query{}, state{})
	check(t, query(mustNot("n")), state{})
	check(t, query(mustNot("n"), must("a", 1, 1), mustNot("o")),
		state{0, 0, []int{1}, false},
		state{1, 1, nil, true})
	check(t, query(must("a", 0, 0), must("b", 1, 1)), state{}, state{1, 1, nil, true})
	check(t, query(must("a", 1, 1), must("b", -1, -1), must("c", 1, 1)),
		state{0, 0, []int{1}, false},
		state{0, 1, nil, false},
		state{2, 1, nil, true})
	check(t, query(must("a", 2, 1), must("b", 0, 1)),
		state{0, 0, []int{1}, false},
		state{0, 1, nil, false},
		state{1, 1, nil, true})
	for _, most := range []int{5, 100, math.MaxInt} {
		check(t, query(must("a", math.MinInt, most)),
			state{0, 0, []int{1}, false},
			state{0, 1, []int{2}, true},
			state{0, 2, []int{3}, true},
			state{0, 3, []int{4}, true},
			state{0, 4, nil, true})
	}
	check(t, query(must("a", 5, 5)),
		state{0, 0, []int{1}, false},
		state{0, 1, []int{2}, false},
		state{0, 2, []int{3}, false},
		state{0, 3, []int{4}, false},
		state{0, 4, nil, false})
}

func TestFindNone(t *testing.T) {
	n := nfa.New(query(must("a", 1, 2), mustNot("n"), must("b", 1, 1)))
	for _, s := range []api.State{
		{Elem: 0, Count: 3}, {Elem: 0, Count: -1}, {Elem: 1, Count: 1}, {Elem: 1}, {Elem: 2, Count: 2},
		{Elem: 2}, {Elem: 3, Count: 1}, {Elem: -1}, {Elem: -1, Count: 1}, {Elem: math.MaxInt, Count: math.MinInt},
	} {
		if got := n.Find(s); got != -1 {
			t.Errorf("Find %v: got %d", s, got)
		}
	}
}

func TestMany(t *testing.T) {
	var l []api.Elem
	for range 3000 {
		l = append(l, must("a", 1, 4))
	}
	n := nfa.New(query(l...))
	if n.Len() != 12001 || !slices.Equal(n.Moves(11996), []int{11997}) {
		t.Errorf("got %d, %v", n.Len(), n.Moves(11996))
	}
	if n.Ends(11996) || !n.Ends(11997) {
		t.Error("it ends where the last element begins")
	}
}

func TestOfNone(t *testing.T) {
	for _, n := range []*nfa.Nfa{nil, {}} {
		if s, ok := n.At(0); n.Len() != 0 || s != (api.State{}) || ok || n.Find(api.State{}) != -1 {
			t.Errorf("got %d, %v, %v, %d", n.Len(), s, ok, n.Find(api.State{}))
		}
		if len(n.Moves(0)) != 0 || n.Ends(0) || !pat.Same(n.Query(), api.Query{}) {
			t.Errorf("got %v, %v, %v", n.Moves(0), n.Ends(0), n.Query())
		}
	}
}

func TestIsTheCallers(t *testing.T) {
	fresh := func() api.Query {
		q := query(must("a", 1, 2), must("b", 1, 1))
		q.Elems[0].Pred = []api.Node{{Op: api.OpConst, V: value.Truth(true)}}
		return q
	}
	spoil := func(q api.Query) {
		q.Elems[0].Types[0], q.Elems[0].Pred[0], q.Elems[1] = "Z", api.Node{}, api.Elem{}
	}
	q := fresh()
	n := nfa.New(q)
	if !pat.Same(q, fresh()) {
		t.Errorf("what was handed in was changed: %v", q)
	}
	spoil(q)
	spoil(n.Query())
	n.Moves(1)[0] = 77
	if !pat.Same(n.Query(), fresh()) || !slices.Equal(n.Moves(1), []int{2, 3}) || n.Ends(1) || !n.Ends(3) {
		t.Errorf("it was changed: %v, %v", n.Query(), n.Moves(1))
	}
}
