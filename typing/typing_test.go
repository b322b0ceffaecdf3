package typing_test

import (
	"slices"
	"strings"
	"testing"

	"lamplighter/api"
	"lamplighter/schema"
	"lamplighter/typing"
	"lamplighter/value"
)

// types is a schema in which x is a number in A and C, and a text in B; b is a truth in A and B; s is a text in A.
func types(t *testing.T) *schema.Schema {
	t.Helper()
	s, e := schema.New([]api.Type{
		{Name: "A", Fields: []api.Field{{Name: "x", Kind: api.Int}, {Name: "s", Kind: api.Str}, {Name: "b", Kind: api.Bool}}},
		{Name: "B", Fields: []api.Field{{Name: "b", Kind: api.Bool}, {Name: "x", Kind: api.Str}}},
		{Name: "C", Fields: []api.Field{{Name: "y", Kind: api.Int}, {Name: "x", Kind: api.Int}}},
		{Name: "N"},
	})
	if e != api.OK {
		t.Fatalf("the schema: %d", e)
	}
	return s
}

func bind(name string, types ...string) api.Bind { return api.Bind{Var: name, Types: types} }

// scope has a variable of each type, some of several ones, one of none, and one that is told twice.
func scope() []api.Bind {
	return []api.Bind{
		bind("a", "A"), bind("c", "C"), bind("b", "B"), bind("n", "N"), bind("none"), bind("odd", "Z"),
		bind("ac", "A", "C"), bind("ab", "A", "B"), bind("an", "A", "N"), bind("na", "N", "A"), bind("aca", "A", "C", "A"),
		bind("acb", "A", "C", "B"), bind("az", "A", "Z"), bind("twice", "A"), bind("twice", "B"),
	}
}

func field(name, field string) api.Node {
	return api.Node{Op: api.OpField, Var: name, Field: field}
}

func constant(v api.Value) api.Node { return api.Node{Op: api.OpConst, V: v} }

func op(o int) api.Node { return api.Node{Op: o} }

func list(l ...api.Node) []api.Node { return l }

var (
	one   = constant(value.Num(1))
	text  = constant(value.Text("u"))
	truth = constant(value.Truth(true))
)

func checkKind(t *testing.T, l []api.Node, want int) {
	t.Helper()
	if got, e := typing.Kind(types(t), scope(), l); got != want || e != api.OK {
		t.Errorf("Kind %v: got %d, %d; want %d", l, got, e, want)
	}
}

func checkError(t *testing.T, l []api.Node, want api.Errno) {
	t.Helper()
	if got, e := typing.Kind(types(t), scope(), l); got != 0 || e != want {
		t.Errorf("Kind %v: got %d, %d; want error %d", l, got, e, want)
	}
}

func TestExample(t *testing.T) {
	checkKind(t, list(field("a", "x"), constant(value.Num(3)), op(api.OpGt)), api.Bool)
}

func TestOfOne(t *testing.T) {
	checkKind(t, list(one), api.Int)
	checkKind(t, list(text), api.Str)
	checkKind(t, list(truth), api.Bool)
	checkKind(t, list(field("a", "x")), api.Int)
	checkKind(t, list(field("a", "s")), api.Str)
	checkKind(t, list(field("a", "b")), api.Bool)
	checkKind(t, list(field("b", "x")), api.Str)
	checkKind(t, list(field("c", "x")), api.Int)
}

func TestFields(t *testing.T) {
	checkKind(t, list(field("ac", "x")), api.Int)
	checkKind(t, list(field("aca", "x")), api.Int)
	checkKind(t, list(field("ab", "b")), api.Bool)
	checkKind(t, list(field("twice", "x")), api.Int)
	checkKind(t, list(field("twice", "s")), api.Str)
	for _, n := range []api.Node{
		field("a", "y"), field("a", "X"), field("n", "x"), field("none", "x"), field("odd", "x"),
		field("ab", "x"), field("acb", "x"), field("ac", "s"), field("ac", "y"), field("an", "x"),
		field("na", "x"), field("az", "x"), field("a", "A"),
	} {
		checkError(t, list(n), api.ErrType)
	}
	for _, n := range []api.Node{field("A", "x"), field("x", "x"), field("z", "x"), field("a_", "x")} {
		checkError(t, list(n), api.ErrNone)
	}
}

// TestOfTwo holds all signs of two, of all kinds.
func TestOfTwo(t *testing.T) {
	leaves := map[int]api.Node{api.Int: one, api.Str: text, api.Bool: truth}
	fields := map[int]api.Node{api.Int: field("a", "x"), api.Str: field("a", "s"), api.Bool: field("a", "b")}
	for left, l := range leaves {
		for right, r := range fields {
			for o := api.OpAdd; o <= api.OpOr; o++ {
				want := 0
				switch {
				case o == api.OpNot:
					continue
				case o <= api.OpMul && left == api.Int && right == api.Int:
					want = api.Int
				case o >= api.OpEq && o <= api.OpGe && left == right:
					want = api.Bool
				case o >= api.OpAnd && left == api.Bool && right == api.Bool:
					want = api.Bool
				}
				if want == 0 {
					checkError(t, list(l, r, op(o)), api.ErrType)
					continue
				}
				checkKind(t, list(l, r, op(o)), want)
			}
		}
	}
}

func TestOfOneAhead(t *testing.T) {
	checkKind(t, list(one, op(api.OpNeg)), api.Int)
	checkKind(t, list(truth, op(api.OpNot)), api.Bool)
	for _, n := range []api.Node{text, truth, field("b", "x")} {
		checkError(t, list(n, op(api.OpNeg)), api.ErrType)
	}
	for _, n := range []api.Node{text, one, field("a", "x")} {
		checkError(t, list(n, op(api.OpNot)), api.ErrType)
	}
}

func TestLonger(t *testing.T) {
	// ((a.x + 1) * 1 < - c.x) and not (a.s = b.x)
	checkKind(t, list(
		field("a", "x"), one, op(api.OpAdd), one, op(api.OpMul), field("c", "x"), op(api.OpNeg), op(api.OpLt),
		field("a", "s"), field("b", "x"), op(api.OpEq), op(api.OpNot), op(api.OpAnd),
	), api.Bool)
	// (1 < 1) = true, but not (1 < 1) < 1
	checkKind(t, list(one, one, op(api.OpLt), truth, op(api.OpEq)), api.Bool)
	checkError(t, list(one, one, op(api.OpLt), one, op(api.OpLt)), api.ErrType)
	checkKind(t, append(list(truth), slices.Repeat(list(op(api.OpNot)), api.MaxNodes-1)...), api.Bool)
}

// TestErrorsInOrder holds that the first part with which something is wrong tells it.
func TestErrorsInOrder(t *testing.T) {
	none, wrong := field("z", "x"), field("a", "y")
	checkError(t, list(none, wrong, op(api.OpAdd)), api.ErrNone)
	checkError(t, list(wrong, none, op(api.OpAdd)), api.ErrType)
	checkError(t, list(text, op(api.OpNeg), none, op(api.OpAdd)), api.ErrType)
	checkError(t, list(one, none, text, op(api.OpNeg), op(api.OpAdd), op(api.OpAdd)), api.ErrNone)
	checkError(t, list(truth, one, op(api.OpAnd), none, op(api.OpAnd)), api.ErrType)
}

func TestErrInput(t *testing.T) {
	for _, l := range [][]api.Node{
		nil, {}, {op(api.OpNeg)}, {one, one}, {one, op(api.OpAdd)}, {op(99)}, {one, op(0)},
		{constant(api.Value{})}, {constant(value.Text(strings.Repeat("u", api.MaxStr+1)))},
		{field("z", "")}, {field("", "x")}, {field("true", "x")},
		// What may not be is told ahead of all else.
		{field("z", "x"), field("a", "y")},
		slices.Repeat(list(field("z", "x")), 1000),
	} {
		checkError(t, l, api.ErrInput)
	}
}

func TestOfNoScopeAndNoSchema(t *testing.T) {
	if got, e := typing.Kind(types(t), nil, list(field("a", "x"))); got != 0 || e != api.ErrNone {
		t.Errorf("got %d, %d", got, e)
	}
	for _, s := range []*schema.Schema{nil, {}} {
		if got, e := typing.Kind(s, scope(), list(field("a", "x"))); got != 0 || e != api.ErrType {
			t.Errorf("got %d, %d", got, e)
		}
		if got, e := typing.Kind(s, nil, list(one, one, op(api.OpLe))); got != api.Bool || e != api.OK {
			t.Errorf("got %d, %d", got, e)
		}
	}
}

func TestNothingIsChanged(t *testing.T) {
	binds, l := scope(), list(field("ac", "x"), one, op(api.OpAdd))
	was := slices.Clone(l)
	typing.Kind(types(t), binds, l)
	same := slices.EqualFunc(binds, scope(), func(a, b api.Bind) bool {
		return a.Var == b.Var && slices.Equal(a.Types, b.Types)
	})
	if !same || !slices.Equal(l, was) {
		t.Errorf("it was changed: %v, %v", binds, l)
	}
}
