package check_test

import (
	"math"
	"slices"
	"strconv"
	"strings"
	"testing"

	"lamplighter/api"
	"lamplighter/check"
	"lamplighter/pat"
	"lamplighter/schema"
	"lamplighter/value"
)

// types is a schema of as many types as there may be: A, B and C with fields, T0, T1, .. without.
func types(t *testing.T) *schema.Schema {
	t.Helper()
	l := []api.Type{
		{Name: "A", Fields: []api.Field{{Name: "x", Kind: api.Int}, {Name: "s", Kind: api.Str}, {Name: "b", Kind: api.Bool}}},
		{Name: "B", Fields: []api.Field{{Name: "x", Kind: api.Int}}},
		{Name: "C", Fields: []api.Field{{Name: "x", Kind: api.Str}}},
	}
	for len(l) < api.MaxTypes {
		l = append(l, api.Type{Name: "T" + strconv.Itoa(len(l)-3)})
	}
	s, e := schema.New(l)
	if e != api.OK {
		t.Fatalf("the schema: %d", e)
	}
	return s
}

func field(name, field string) api.Node {
	return api.Node{Op: api.OpField, Var: name, Field: field}
}

func constant(v api.Value) api.Node { return api.Node{Op: api.OpConst, V: v} }

func op(o int) api.Node { return api.Node{Op: o} }

func list(l ...api.Node) []api.Node { return l }

var truth = constant(value.Truth(true))

// plain is SEQ(A a, !(A|B) n, B b{1,2}) WHERE a: a.b; n: n.x = a.x; b: b.x > a.x WITHIN 9 CAP 5.
func plain() api.Query {
	return api.Query{Window: 9, Cap: 5, Elems: []api.Elem{
		{Var: "a", Types: []string{"A"}, Min: 1, Max: 1, Pred: list(field("a", "b"))},
		{Var: "n", Types: []string{"A", "B"}, Neg: true, Min: 1, Max: 1, Pred: list(field("n", "x"), field("a", "x"), op(api.OpEq))},
		{Var: "b", Types: []string{"B"}, Min: 1, Max: 2, Pred: list(field("b", "x"), field("a", "x"), op(api.OpGt))},
	}}
}

// but is the plain query with something else about it.
func but(change func(q *api.Query)) api.Query {
	q := plain()
	change(&q)
	return q
}

func checkQuery(t *testing.T, q api.Query, want api.Errno) {
	t.Helper()
	if got := check.Query(types(t), q); got != want {
		t.Errorf("Query %v: got %d, want %d", q, got, want)
	}
}

func TestExample(t *testing.T) {
	checkQuery(t, but(func(q *api.Query) { q.Elems = q.Elems[:2] }), api.ErrInput)
}

func TestGood(t *testing.T) {
	good := []func(q *api.Query){
		func(q *api.Query) {},
		func(q *api.Query) { q.Window = 1 },
		func(q *api.Query) { q.Window = api.MaxWindow },
		func(q *api.Query) { q.Cap = 1 },
		func(q *api.Query) { q.Cap = api.MaxCap },
		func(q *api.Query) { q.Elems = q.Elems[:1] },
		func(q *api.Query) { q.Elems[0].Pred, q.Elems[2].Pred = nil, []api.Node{} },
		func(q *api.Query) { q.Elems[2] = without(strings.Repeat("n", api.MaxName)) },
		func(q *api.Query) { q.Elems[2].Min, q.Elems[2].Max = api.MaxTimes, api.MaxTimes },
		func(q *api.Query) { q.Elems[2].Min, q.Elems[2].Max = 1, api.MaxTimes },
		func(q *api.Query) { q.Elems[1].Types, q.Elems[1].Pred = types(t).Names(), nil },
		func(q *api.Query) {
			q.Elems = append(q.Elems, without("c"), without("d"), without("e"), without("f"), without("g"))
		},
	}
	for _, change := range good {
		checkQuery(t, but(change), api.OK)
	}
}

// without is an element without a predicate.
func without(name string) api.Elem {
	return api.Elem{Var: name, Types: []string{"B"}, Min: 1, Max: 1}
}

func TestElements(t *testing.T) {
	checkQuery(t, api.Query{}, api.ErrInput)
	checkQuery(t, api.Query{Window: 9, Cap: 5}, api.ErrInput)
	checkQuery(t, but(func(q *api.Query) { q.Elems[0].Neg = true }), api.ErrInput)
	checkQuery(t, but(func(q *api.Query) { q.Elems[2].Neg = true }), api.ErrInput)
	checkQuery(t, but(func(q *api.Query) { q.Elems = q.Elems[1:2] }), api.ErrInput)
	many := but(func(q *api.Query) {
		for i := range api.MaxElems - 2 {
			q.Elems = append(q.Elems, without("v"+strconv.Itoa(i)))
		}
	})
	checkQuery(t, many, api.ErrBig)
	many.Elems = many.Elems[:api.MaxElems]
	checkQuery(t, many, api.OK)
	// That they are too many is told ahead of all else.
	checkQuery(t, api.Query{Elems: make([]api.Elem, api.MaxElems+1)}, api.ErrBig)
	checkQuery(t, api.Query{Elems: make([]api.Elem, 1000)}, api.ErrBig)
	checkQuery(t, api.Query{Elems: make([]api.Elem, api.MaxElems)}, api.ErrInput)
	// And what must not be there, first or last, ahead of what is wrong with an element.
	checkQuery(t, api.Query{Elems: []api.Elem{without("a"), {}, {Neg: true}}}, api.ErrInput)
}

func TestVariables(t *testing.T) {
	for _, name := range []string{"", "1", "b.x", "true", "SEQ", "\u00e9", strings.Repeat("n", api.MaxName+1)} {
		checkQuery(t, but(func(q *api.Query) { q.Elems[2].Var, q.Elems[2].Pred = name, nil }), api.ErrInput)
	}
	checkQuery(t, but(func(q *api.Query) { q.Elems[2].Var = "a" }), api.ErrTwice)
	checkQuery(t, but(func(q *api.Query) { q.Elems[2].Var = "n" }), api.ErrTwice)
	checkQuery(t, but(func(q *api.Query) { q.Elems[1].Var = "a" }), api.ErrTwice)
	checkQuery(t, but(func(q *api.Query) { q.Elems[2].Var, q.Elems[2].Pred = "A", nil }), api.OK)
}

func TestTypes(t *testing.T) {
	cases := []struct {
		types []string
		want  api.Errno
	}{
		{nil, api.ErrInput},
		{[]string{}, api.ErrInput},
		{slices.Repeat([]string{"A"}, api.MaxTypes+1), api.ErrInput},
		{append(types(t).Names(), "A"), api.ErrInput},
		{slices.Repeat([]string{"A"}, api.MaxTypes), api.ErrTwice},
		{types(t).Names(), api.OK},
		{[]string{"A", "B"}, api.OK},
		{[]string{"A", "A"}, api.ErrTwice},
		{[]string{"A", "B", "A"}, api.ErrTwice},
		{[]string{"Z"}, api.ErrType},
		{[]string{""}, api.ErrType},
		{[]string{"a"}, api.ErrType},
		{[]string{"A", "Z"}, api.ErrType},
		{[]string{"A", "A", "Z"}, api.ErrTwice},
		{[]string{"A", "Z", "A"}, api.ErrType},
		{[]string{"Z", "Z"}, api.ErrType},
	}
	for _, c := range cases {
		checkQuery(t, but(func(q *api.Query) { q.Elems[1].Types, q.Elems[1].Pred = c.types, nil }), c.want)
	}
}

func TestTimes(t *testing.T) {
	numbers := []int{math.MinInt, -1, 0, 1, 2, 3, api.MaxTimes, api.MaxTimes + 1, math.MaxInt}
	for _, least := range numbers {
		for _, most := range numbers {
			want, once := api.ErrInput, api.ErrInput
			if least >= 1 && least <= most && most <= api.MaxTimes {
				want = api.OK
			}
			if least == 1 && most == 1 {
				once = api.OK
			}
			checkQuery(t, but(func(q *api.Query) { q.Elems[2].Min, q.Elems[2].Max = least, most }), want)
			checkQuery(t, but(func(q *api.Query) { q.Elems[1].Min, q.Elems[1].Max = least, most }), once)
		}
	}
}

func TestPredicates(t *testing.T) {
	x := func(name string) api.Node { return field(name, "x") }
	same := func(a, b api.Node) []api.Node { return list(a, b, op(api.OpEq)) }
	cases := []struct {
		at   int
		pred []api.Node
		want api.Errno
	}{
		{0, list(truth), api.OK},
		{0, same(x("a"), x("a")), api.OK},
		{0, list(truth, truth), api.ErrInput},
		{0, list(op(api.OpNot)), api.ErrInput},
		{0, list(constant(api.Value{})), api.ErrInput},
		{0, list(constant(value.Num(1))), api.ErrType},
		{0, list(constant(value.Text("true"))), api.ErrType},
		{0, list(x("a")), api.ErrType},
		{0, list(field("a", "y"), op(api.OpNot)), api.ErrType},
		{0, list(x("a"), op(api.OpNot)), api.ErrType},
		{0, same(x("a"), field("a", "s")), api.ErrType},
		// Of what is behind, of what must not be there, and of itself, if it is another one's.
		{0, same(x("a"), x("b")), api.ErrNone},
		{0, same(x("a"), x("n")), api.ErrNone},
		{0, same(x("z"), x("a")), api.ErrNone},
		{1, same(x("n"), x("a")), api.OK},
		{1, same(x("n"), x("b")), api.ErrNone},
		{1, list(field("n", "s"), field("a", "s"), op(api.OpEq)), api.ErrType},
		{2, same(x("b"), x("a")), api.OK},
		{2, same(x("b"), x("n")), api.ErrNone},
	}
	for _, c := range cases {
		checkQuery(t, but(func(q *api.Query) { q.Elems[c.at].Pred = c.pred }), c.want)
	}
	// What may be there twice is known to itself alone.
	twice := but(func(q *api.Query) {
		q.Elems = append(q.Elems, api.Elem{Var: "c", Types: []string{"B"}, Min: 1, Max: 1, Pred: same(x("c"), x("b"))})
	})
	checkQuery(t, twice, api.ErrNone)
	twice.Elems[2].Max = 1
	checkQuery(t, twice, api.OK)
	twice.Elems[2].Types = []string{"B", "C"}
	twice.Elems[2].Pred = nil
	checkQuery(t, twice, api.ErrType)
}

func TestWindowAndCap(t *testing.T) {
	for _, n := range []int64{math.MinInt64, -1, 0, api.MaxWindow + 1, math.MaxInt64} {
		checkQuery(t, but(func(q *api.Query) { q.Window = n }), api.ErrWindow)
		checkQuery(t, but(func(q *api.Query) { q.Window, q.Cap = n, 0 }), api.ErrWindow)
	}
	for _, n := range []int{math.MinInt, -1, 0, api.MaxCap + 1, math.MaxInt} {
		checkQuery(t, but(func(q *api.Query) { q.Cap = n }), api.ErrBig)
	}
}

// TestErrorsInOrder holds that of two things that are wrong the one that is named first is told, element by element.
func TestErrorsInOrder(t *testing.T) {
	type fault struct {
		spoil func(x *api.Elem)
		want  api.Errno
	}
	faults := []fault{
		{func(x *api.Elem) { x.Var = "0" }, api.ErrInput},
		{func(x *api.Elem) { x.Var = "a" }, api.ErrTwice},
		{func(x *api.Elem) { x.Types = []string{"Z"} }, api.ErrType},
		{func(x *api.Elem) { x.Types = []string{"B", "B"} }, api.ErrTwice},
		{func(x *api.Elem) { x.Max = 9 }, api.ErrInput},
		{func(x *api.Elem) { x.Pred = list(field("z", "x")) }, api.ErrNone},
	}
	for i, first := range faults {
		for _, later := range faults[i:] {
			q := plain()
			later.spoil(&q.Elems[2])
			first.spoil(&q.Elems[2])
			q.Window, q.Cap = 0, 0
			checkQuery(t, q, first.want)
		}
		if i == 1 {
			continue // the first variable can't be told ahead
		}
		for _, later := range faults {
			q := plain()
			later.spoil(&q.Elems[2])
			first.spoil(&q.Elems[0])
			checkQuery(t, q, first.want)
		}
	}
}

func TestOfNoSchema(t *testing.T) {
	for _, s := range []*schema.Schema{nil, {}} {
		if got := check.Query(s, plain()); got != api.ErrType {
			t.Errorf("got %d", got)
		}
		if got := check.Query(s, api.Query{}); got != api.ErrInput {
			t.Errorf("got %d", got)
		}
	}
}

func TestNothingIsChanged(t *testing.T) {
	q := plain()
	check.Query(types(t), q)
	if !pat.Same(q, plain()) {
		t.Errorf("it was changed: %v", q)
	}
}
