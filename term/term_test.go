package term_test

import (
	"math"
	"slices"
	"strings"
	"testing"

	"lamplighter/api"
	"lamplighter/term"
	"lamplighter/value"
)

// longName is the longest name; longText, the longest text of a value.
var (
	longName = strings.Repeat("n", api.MaxName)
	longText = strings.Repeat("u", api.MaxStr)
)

// arity is of how many others each part is.
var arity = map[int]int{
	api.OpConst: 0, api.OpField: 0, api.OpNeg: 1, api.OpNot: 1, api.OpAdd: 2, api.OpSub: 2, api.OpMul: 2,
	api.OpEq: 2, api.OpNe: 2, api.OpLt: 2, api.OpLe: 2, api.OpGt: 2, api.OpGe: 2, api.OpAnd: 2, api.OpOr: 2,
}

var noOps = []int{0, -1, 16, 17, math.MaxInt, math.MinInt}

func constant(v api.Value) api.Node { return api.Node{Op: api.OpConst, V: v} }

func number(n int64) api.Node { return constant(value.Num(n)) }

func field(name, field string) api.Node {
	return api.Node{Op: api.OpField, Var: name, Field: field}
}

func op(o int) api.Node { return api.Node{Op: o} }

func list(l ...api.Node) []api.Node { return l }

// node is an ordinary part.
func node(o int) api.Node {
	switch o {
	case api.OpConst:
		return number(7)
	case api.OpField:
		return field("a", "x")
	}
	return op(o)
}

func checkMay(t *testing.T, l []api.Node, want bool) {
	t.Helper()
	if got := term.May(l); got != want {
		t.Errorf("May %v: got %v", l, got)
	}
	if got := term.Show(l); (got != "") != want {
		t.Errorf("Show %v: got %q", l, got)
	}
}

func TestExample(t *testing.T) {
	l := list(field("a", "x"), number(3), op(api.OpGt))
	if got := term.Show(l); got != "(a.x > 3)" {
		t.Errorf("got %q", got)
	}
}

func TestParts(t *testing.T) {
	for o := api.OpConst; o <= api.OpOr; o++ {
		if got := term.Parts(o); got != arity[o] {
			t.Errorf("Parts %d: got %d", o, got)
		}
	}
	for _, o := range noOps {
		if got := term.Parts(o); got != -1 {
			t.Errorf("Parts %d: got %d", o, got)
		}
		checkMay(t, list(op(o)), false)
		checkMay(t, list(number(1), op(o)), false)
	}
}

func TestSign(t *testing.T) {
	signs := []string{"", "", "", "-", "+", "-", "*", "=", "!=", "<", "<=", ">", ">=", "not", "and", "or"}
	for o, want := range signs {
		if got := term.Sign(o); got != want {
			t.Errorf("Sign %d: got %q", o, got)
		}
	}
	for _, o := range noOps {
		if got := term.Sign(o); got != "" {
			t.Errorf("Sign %d: got %q", o, got)
		}
	}
}

// begin is where the predicate begins that the part at a place is the last of; below 0: there is none.
func begin(l []api.Node, at int) int {
	if at < 0 {
		return -1
	}
	from := at
	for range arity[l[at].Op] {
		from = begin(l, from-1)
		if from < 0 {
			return -1
		}
	}
	return from
}

// TestMayOfShortLists holds that just those lists may be whose last part is of all others, and that each other part is of what is ahead of it.
func TestMayOfShortLists(t *testing.T) {
	ops := []int{api.OpConst, api.OpField, api.OpNeg, api.OpNot, api.OpSub, api.OpEq, api.OpAnd}
	lists := [][]api.Node{nil}
	for from := 0; len(lists[from]) < 5; from++ {
		for _, o := range ops {
			lists = append(lists, append(slices.Clone(lists[from]), node(o)))
		}
	}
	for _, l := range lists {
		checkMay(t, l, len(l) > 0 && begin(l, len(l)-1) == 0)
	}
}

func TestMayOfLong(t *testing.T) {
	chain := func(leaves int) []api.Node {
		l := list(number(1))
		for range leaves - 1 {
			l = append(l, field("a", "x"), op(api.OpAdd))
		}
		return l
	}
	checkMay(t, chain(32), true)
	checkMay(t, append(chain(32), op(api.OpNeg)), true)
	checkMay(t, append(chain(32), op(api.OpNeg), op(api.OpNot)), false)
	checkMay(t, chain(33), false)
	checkMay(t, append(list(number(1)), slices.Repeat(list(op(api.OpNot)), api.MaxNodes-1)...), true)
	checkMay(t, append(list(number(1)), slices.Repeat(list(op(api.OpNot)), api.MaxNodes)...), false)
	checkMay(t, slices.Repeat(list(number(1)), 100000), false)
}

func TestMayOfConstants(t *testing.T) {
	good := []api.Value{
		value.Num(0), value.Num(-1), value.Num(math.MaxInt64), value.Num(math.MinInt64 + 1),
		value.Text(""), value.Text("it's"), value.Text(longText), value.Truth(true), value.Truth(false),
	}
	for _, v := range good {
		checkMay(t, list(constant(v)), true)
	}
	bad := []api.Value{
		{}, value.Num(math.MinInt64), value.Text(longText + "u"), {Kind: -1}, {Kind: 4, I: 1},
		{Kind: api.Int, S: "u"}, {Kind: api.Int, I: 1, B: true}, {Kind: api.Str, I: 1}, {Kind: api.Bool, S: "u"},
	}
	for _, v := range bad {
		checkMay(t, list(constant(v)), false)
		checkMay(t, list(constant(v), number(1), op(api.OpAdd)), false)
		checkMay(t, list(number(1), constant(v), op(api.OpAdd)), false)
	}
}

func TestMayOfFields(t *testing.T) {
	for _, name := range []string{"a", "_", "A9", "seq", longName} {
		checkMay(t, list(field(name, "x")), true)
		checkMay(t, list(field("a", name)), true)
	}
	for _, name := range []string{"", "1", "a.b", "a b", "true", "SEQ", "and", "\u00e9", longName + "n"} {
		checkMay(t, list(field(name, "x")), false)
		checkMay(t, list(field("a", name)), false)
	}
}

// TestMayOfWhatIsNotEmpty holds that a part has nothing but what one of its sort has.
func TestMayOfWhatIsNotEmpty(t *testing.T) {
	for o, of := range arity {
		ahead := slices.Repeat(list(number(1)), of)
		n := node(o)
		checkMay(t, append(ahead, n), true)
		if o != api.OpField {
			n.Var = "a"
			checkMay(t, append(ahead, n), false)
			n = node(o)
			n.Field = "x"
			checkMay(t, append(ahead, n), false)
		}
		if o != api.OpConst {
			for _, v := range []api.Value{value.Num(0), {I: 1}, {S: "u"}, {B: true}} {
				n = node(o)
				n.V = v
				checkMay(t, append(ahead, n), false)
			}
		}
	}
}

func TestShow(t *testing.T) {
	a, b := field("a", "x"), field("b", "y")
	cases := []struct {
		l    []api.Node
		want string
	}{
		{list(a), "a.x"},
		{list(number(0)), "0"},
		{list(number(5)), "5"},
		{list(number(-5)), "(-5)"},
		{list(number(math.MinInt64 + 1)), "(-9223372036854775807)"},
		{list(constant(value.Text("it's"))), "'it''s'"},
		{list(constant(value.Truth(true))), "true"},
		{list(constant(value.Truth(false))), "false"},
		{list(a, op(api.OpNeg)), "(- a.x)"},
		{list(number(5), op(api.OpNeg)), "(- (5))"},
		{list(number(0), op(api.OpNeg)), "(- (0))"},
		{list(number(-5), op(api.OpNeg)), "(- (-5))"},
		{list(number(5), op(api.OpNeg), op(api.OpNeg)), "(- (- (5)))"},
		{list(constant(value.Text("5")), op(api.OpNeg)), "(- '5')"},
		{list(constant(value.Truth(true)), op(api.OpNeg)), "(- true)"},
		{list(number(1), number(2), op(api.OpAdd), op(api.OpNeg)), "(- (1 + 2))"},
		{list(number(1), number(2), op(api.OpNeg), op(api.OpSub)), "(1 - (- (2)))"},
		{list(number(5), op(api.OpNot)), "(not 5)"},
		{list(a, op(api.OpNot), op(api.OpNot)), "(not (not a.x))"},
		{list(a, number(5), op(api.OpSub)), "(a.x - 5)"},
		{list(a, number(-5), op(api.OpSub)), "(a.x - (-5))"},
		{list(a, b, op(api.OpAdd), number(2), op(api.OpMul)), "((a.x + b.y) * 2)"},
		{list(a, b, number(2), op(api.OpMul), op(api.OpAdd)), "(a.x + (b.y * 2))"},
		{list(a, number(3), op(api.OpGt), b, number(2), op(api.OpEq), op(api.OpNot), op(api.OpAnd)), "((a.x > 3) and (not (b.y = 2)))"},
	}
	for _, c := range cases {
		was := slices.Clone(c.l)
		if got := term.Show(c.l); got != c.want {
			t.Errorf("Show %v: got %q, want %q", c.l, got, c.want)
		}
		if !slices.Equal(c.l, was) {
			t.Errorf("what was handed in was changed: %v", c.l)
		}
	}
	for o, of := range arity {
		if of == 2 {
			want := "(a.x " + term.Sign(o) + " b.y)"
			if got := term.Show(list(a, b, op(o))); got != want {
				t.Errorf("Show of %d: got %q", o, got)
			}
		}
	}
}

func TestVars(t *testing.T) {
	a, b, c := field("a", "x"), field("b", "x"), field("c", "a")
	cases := []struct {
		l    []api.Node
		want []string
	}{
		{nil, nil},
		{list(number(1)), nil},
		{list(constant(value.Text("a"))), nil},
		{list(a), []string{"a"}},
		{list(b, a, op(api.OpAdd)), []string{"b", "a"}},
		{list(a, field("a", "y"), op(api.OpAdd)), []string{"a"}},
		{list(c, a, b, op(api.OpAdd), op(api.OpEq), c, op(api.OpOr)), []string{"c", "a", "b"}},
		{list(field("A", "x"), a, op(api.OpAdd)), []string{"A", "a"}},
	}
	for _, x := range cases {
		if got := term.Vars(x.l); !slices.Equal(got, x.want) {
			t.Errorf("Vars %v: got %v", x.l, got)
		}
	}
	// Of what is no predicate it tells what stands there.
	if got := term.Vars(list(a, b, op(99))); !slices.Equal(got, []string{"a", "b"}) {
		t.Errorf("Vars: got %v", got)
	}
}

func TestSame(t *testing.T) {
	unlike := [][]api.Node{
		nil,
		list(number(1)),
		list(number(2)),
		list(constant(value.Text("1"))),
		list(constant(api.Value{Kind: api.Int, I: 1, S: "1"})),
		list(field("a", "x")),
		list(field("b", "x")),
		list(field("a", "y")),
		list(field("a", "x"), op(api.OpNeg)),
		list(field("a", "x"), op(api.OpNot)),
		list(number(1), number(2), op(api.OpAdd)),
		list(number(2), number(1), op(api.OpAdd)),
		list(number(1), number(2)),
	}
	for i, a := range unlike {
		for j, b := range unlike {
			if got := term.Same(a, slices.Clone(b)); got != (i == j) {
				t.Errorf("Same %v %v: got %v", a, b, got)
			}
		}
	}
	if !term.Same(nil, list()) || !term.Same(list(), nil) {
		t.Error("no parts and an empty list of them are unlike")
	}
}
