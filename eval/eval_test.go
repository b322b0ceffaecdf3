package eval_test

import (
	"cmp"
	"math"
	"math/big"
	"slices"
	"strings"
	"testing"

	"lamplighter/api"
	"lamplighter/eval"
	"lamplighter/event"
	"lamplighter/schema"
	"lamplighter/value"
)

func types(t *testing.T) *schema.Schema {
	t.Helper()
	s, e := schema.New([]api.Type{
		{Name: "A", Fields: []api.Field{{Name: "x", Kind: api.Int}, {Name: "s", Kind: api.Str}, {Name: "b", Kind: api.Bool}}},
		{Name: "B", Fields: []api.Field{{Name: "s", Kind: api.Str}, {Name: "x", Kind: api.Int}}},
	})
	if e != api.OK {
		t.Fatalf("the schema: %d", e)
	}
	return s
}

func bound(name, kind string, vals ...api.Value) api.Bound {
	return api.Bound{Var: name, E: api.Event{Type: kind, Key: "k", Time: 1, Seq: 1, Vals: vals}}
}

// env has a variable of each type, odd ones, and one that is told twice.
func env() []api.Bound {
	return []api.Bound{
		bound("a", "A", value.Num(7), value.Text("u"), value.Truth(true)),
		bound("b", "B", value.Text("v"), value.Num(-7)),
		bound("short", "A", value.Num(1)),
		bound("none", "Z", value.Num(1)),
		bound("odd", "A", api.Value{}, value.Num(1), api.Value{Kind: 9, I: 1}),
		bound("twice", "A", value.Num(1)),
		bound("twice", "B", value.Text("v"), value.Num(2)),
	}
}

func field(name, field string) api.Node {
	return api.Node{Op: api.OpField, Var: name, Field: field}
}

func constant(v api.Value) api.Node { return api.Node{Op: api.OpConst, V: v} }

func number(n int64) api.Node { return constant(value.Num(n)) }

func text(s string) api.Node { return constant(value.Text(s)) }

func truth(b bool) api.Node { return constant(value.Truth(b)) }

func op(o int) api.Node { return api.Node{Op: o} }

func list(l ...api.Node) []api.Node { return l }

// checkEval holds what a predicate comes to, and that it holds if that is true.
func checkEval(t *testing.T, l []api.Node, want api.Value) {
	t.Helper()
	s := types(t)
	if got, ok := eval.Eval(s, l, env()); got != want || !ok {
		t.Errorf("Eval %v: got %v, %v; want %v", l, got, ok, want)
	}
	if got := eval.Holds(s, l, env()); got != (want == value.Truth(true)) {
		t.Errorf("Holds %v: got %v", l, got)
	}
}

func checkNothing(t *testing.T, l []api.Node) {
	t.Helper()
	s := types(t)
	if got, ok := eval.Eval(s, l, env()); got != (api.Value{}) || ok {
		t.Errorf("Eval %v: got %v, %v", l, got, ok)
	}
	if got := eval.Holds(s, l, env()); got != (len(l) == 0) {
		t.Errorf("Holds %v: got %v", l, got)
	}
}

func TestExample(t *testing.T) {
	checkNothing(t, list(number(1<<62), number(4), op(api.OpMul), number(0), op(api.OpGt)))
}

func TestOfOne(t *testing.T) {
	checkEval(t, list(number(-5)), value.Num(-5))
	checkEval(t, list(text("it's")), value.Text("it's"))
	checkEval(t, list(truth(true)), value.Truth(true))
	checkEval(t, list(truth(false)), value.Truth(false))
	checkEval(t, list(field("a", "x")), value.Num(7))
	checkEval(t, list(field("a", "s")), value.Text("u"))
	checkEval(t, list(field("a", "b")), value.Truth(true))
	checkEval(t, list(field("b", "x")), value.Num(-7))
}

func TestFields(t *testing.T) {
	checkEval(t, list(field("twice", "x")), value.Num(1))
	checkNothing(t, list(field("twice", "s")))
	checkEval(t, list(field("short", "x")), value.Num(1))
	for _, n := range []api.Node{
		field("short", "s"), field("short", "b"), field("none", "x"), field("a", "y"), field("b", "b"),
		field("z", "x"), field("A", "x"), field("x", "a"),
	} {
		checkNothing(t, list(n))
		checkNothing(t, list(n, n, op(api.OpEq)))
		// What is looked for does not hang on whether it is needed.
		checkNothing(t, list(truth(true), n, op(api.OpOr)))
		checkNothing(t, list(truth(false), n, op(api.OpAnd)))
	}
}

// TestOddFields holds that a value that a field should not have goes with what is of its kind.
func TestOddFields(t *testing.T) {
	checkEval(t, list(field("odd", "x")), api.Value{})
	checkEval(t, list(field("odd", "s"), number(1), op(api.OpAdd)), value.Num(2))
	for _, n := range []api.Node{field("odd", "x"), field("odd", "b")} {
		for o := api.OpNeg; o <= api.OpOr; o++ {
			if o == api.OpNeg || o == api.OpNot {
				checkNothing(t, list(n, op(o)))
				continue
			}
			checkNothing(t, list(n, n, op(o)))
			checkNothing(t, list(n, number(1), op(o)))
			checkNothing(t, list(truth(true), n, op(o)))
		}
	}
}

// TestNumbers holds numbers' signs against numbers without bounds.
func TestNumbers(t *testing.T) {
	edges := []int64{
		math.MinInt64 + 1, math.MinInt64 + 2, -1 << 62, -1 << 32, -3037000500, -3037000499, -7, -1, 0, 1, 2, 7,
		3037000499, 3037000500, 1 << 31, 1 << 32, 1<<62 - 1, 1 << 62, math.MaxInt64 - 1, math.MaxInt64,
	}
	for _, a := range edges {
		checkEval(t, list(number(a), op(api.OpNeg)), value.Num(-a))
		for _, b := range edges {
			x, y := big.NewInt(a), big.NewInt(b)
			sums := map[int]*big.Int{
				api.OpAdd: new(big.Int).Add(x, y),
				api.OpSub: new(big.Int).Sub(x, y),
				api.OpMul: new(big.Int).Mul(x, y),
			}
			for o, sum := range sums {
				l := list(number(a), number(b), op(o))
				if !sum.IsInt64() {
					checkNothing(t, l)
					continue
				}
				checkEval(t, l, value.Num(sum.Int64()))
			}
		}
	}
	least := list(number(math.MinInt64+1), number(1), op(api.OpSub))
	checkEval(t, least, value.Num(math.MinInt64))
	checkNothing(t, append(least, op(api.OpNeg)))
}

// TestCompared holds the signs that compare, of values of all kinds.
func TestCompared(t *testing.T) {
	rising := map[int][]api.Value{
		api.Int:  {value.Num(math.MinInt64 + 1), value.Num(-1), value.Num(0), value.Num(1), value.Num(math.MaxInt64)},
		api.Str:  {value.Text(""), value.Text("A"), value.Text("AB"), value.Text("B"), value.Text("a"), value.Text("\xff")},
		api.Bool: {value.Truth(false), value.Truth(true)},
	}
	for left, l := range rising {
		for right, r := range rising {
			for i, a := range l {
				for j, b := range r {
					if left == right {
						checkCompared(t, a, b, cmp.Compare(i, j))
						continue
					}
					for o := api.OpEq; o <= api.OpGe; o++ {
						checkNothing(t, list(constant(a), constant(b), op(o)))
					}
				}
			}
		}
	}
}

func checkCompared(t *testing.T, a, b api.Value, order int) {
	t.Helper()
	want := map[int]bool{
		api.OpEq: order == 0, api.OpNe: order != 0, api.OpLt: order < 0,
		api.OpLe: order <= 0, api.OpGt: order > 0, api.OpGe: order >= 0,
	}
	for o, w := range want {
		checkEval(t, list(constant(a), constant(b), op(o)), value.Truth(w))
	}
}

func TestTruths(t *testing.T) {
	for _, a := range []bool{false, true} {
		checkEval(t, list(truth(a), op(api.OpNot)), value.Truth(!a))
		for _, b := range []bool{false, true} {
			checkEval(t, list(truth(a), truth(b), op(api.OpAnd)), value.Truth(a && b))
			checkEval(t, list(truth(a), truth(b), op(api.OpOr)), value.Truth(a || b))
		}
	}
}

func TestKindsThatDoNotGo(t *testing.T) {
	n, u, b := number(1), text("u"), truth(true)
	for _, o := range []int{api.OpAdd, api.OpSub, api.OpMul} {
		for _, l := range [][]api.Node{{n, u}, {u, n}, {n, b}, {b, n}, {u, u}, {b, b}} {
			checkNothing(t, append(l, op(o)))
		}
	}
	for _, o := range []int{api.OpAnd, api.OpOr} {
		for _, l := range [][]api.Node{{b, n}, {n, b}, {b, u}, {u, b}, {n, n}, {u, u}} {
			checkNothing(t, append(l, op(o)))
		}
	}
	checkNothing(t, list(u, op(api.OpNeg)))
	checkNothing(t, list(b, op(api.OpNeg)))
	checkNothing(t, list(n, op(api.OpNot)))
	checkNothing(t, list(u, op(api.OpNot)))
}

func TestLonger(t *testing.T) {
	// (a.x + b.x = 0) and not (a.s > b.s)
	checkEval(t, list(
		field("a", "x"), field("b", "x"), op(api.OpAdd), number(0), op(api.OpEq),
		field("a", "s"), field("b", "s"), op(api.OpGt), op(api.OpNot), op(api.OpAnd),
	), value.Truth(true))
	// 2 - (3 - 10) * - b.x
	checkEval(t, list(
		number(2), number(3), number(10), op(api.OpSub), field("b", "x"), op(api.OpNeg), op(api.OpMul), op(api.OpSub),
	), value.Num(51))
	checkEval(t, append(list(truth(true)), slices.Repeat(list(op(api.OpNot)), api.MaxNodes-1)...), value.Truth(false))
}

// TestWhatMayNotBe holds that no predicate comes to nothing; one without parts holds all the same.
func TestWhatMayNotBe(t *testing.T) {
	for _, l := range [][]api.Node{
		nil, {}, {op(api.OpNot)}, {truth(true), truth(true)}, {number(1), op(api.OpAdd)}, {op(0)}, {op(99)},
		{truth(true), op(-1)}, {constant(api.Value{})}, {constant(api.Value{Kind: api.Bool, B: true, I: 1})},
		{number(math.MinInt64)}, {text(strings.Repeat("u", api.MaxStr+1))}, {field("a", "")}, {field("", "x")},
		append(list(truth(true)), slices.Repeat(list(op(api.OpNot)), api.MaxNodes)...),
	} {
		checkNothing(t, l)
	}
}

func TestHoldsOfNoTruth(t *testing.T) {
	for _, n := range []api.Node{number(1), number(0), text("true"), text("")} {
		if eval.Holds(types(t), list(n), nil) {
			t.Errorf("%v holds", n)
		}
	}
}

func TestOfNoSchema(t *testing.T) {
	for _, s := range []*schema.Schema{nil, {}} {
		if got, ok := eval.Eval(s, list(field("a", "x")), env()); ok || got != (api.Value{}) {
			t.Errorf("Eval: got %v, %v", got, ok)
		}
		if !eval.Holds(s, list(truth(true)), nil) || !eval.Holds(s, nil, nil) || eval.Holds(s, list(field("a", "b")), env()) {
			t.Error("Holds: wrong")
		}
	}
}

func TestNothingIsChanged(t *testing.T) {
	bounds, l := env(), list(field("a", "x"), number(1), op(api.OpAdd), number(8), op(api.OpEq))
	was := slices.Clone(l)
	if !eval.Holds(types(t), l, bounds) {
		t.Error("a.x + 1 is not 8")
	}
	same := slices.EqualFunc(bounds, env(), func(a, b api.Bound) bool {
		return a.Var == b.Var && event.Same(a.E, b.E)
	})
	if !same || !slices.Equal(l, was) {
		t.Errorf("it was changed: %v, %v", bounds, l)
	}
}
