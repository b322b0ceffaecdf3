package ppred_test

import (
	"math"
	"slices"
	"strings"
	"testing"

	"lamplighter/api"
	"lamplighter/lex"
	"lamplighter/ppred"
	"lamplighter/term"
	"lamplighter/value"
)

func checkParse(t *testing.T, s, want string) {
	t.Helper()
	l, e := ppred.Parse(s)
	if got := term.Show(l); got != want || e != api.OK {
		t.Errorf("Parse %q: got %q, %d; want %q", s, got, e, want)
	}
}

func checkError(t *testing.T, s string, want api.Errno) {
	t.Helper()
	l, e := ppred.Parse(s)
	if e != want || l != nil {
		t.Errorf("Parse of %d bytes %.60q: got %v, %d; want %d", len(s), s, l, e, want)
	}
}

// checkTake holds what is taken from a text's pieces, and how many are left.
func checkTake(t *testing.T, s, want string, left int) {
	t.Helper()
	source := from(s)
	l, e := ppred.Take(source)
	if got := term.Show(l); got != want || e != api.OK || source.Left() != left {
		t.Errorf("Take %q: got %q, %d, %d left; want %q, %d left", s, got, e, source.Left(), want, left)
	}
}

func from(s string) *lex.Source {
	l, _ := lex.Text(s)
	return lex.From(l)
}

func TestExample(t *testing.T) {
	checkParse(t, "a.x > 3 and not b.y = 2", "((a.x > 3) and (not (b.y = 2)))")
	l, _ := ppred.Parse("a.x > 3")
	want := []api.Node{{Op: api.OpField, Var: "a", Field: "x"}, {Op: api.OpConst, V: value.Num(3)}, {Op: api.OpGt}}
	if !term.Same(l, want) {
		t.Errorf("got %v", l)
	}
}

func TestOperands(t *testing.T) {
	for s, want := range map[string]string{
		"1":                    "1",
		"0":                    "0",
		"9223372036854775807":  "9223372036854775807",
		"-9223372036854775807": "(-9223372036854775807)",
		"'it''s'":              "'it''s'",
		"''":                   "''",
		"true":                 "true",
		"false":                "false",
		"a.x":                  "a.x",
		" a\n.\tx ":            "a.x",
		"_.A9":                 "_.A9",
		"(((1)))":              "1",
		"( a.x )":              "a.x",
	} {
		checkParse(t, s, want)
	}
}

func TestStrengths(t *testing.T) {
	for s, want := range map[string]string{
		"1 or 2 or 3":               "((1 or 2) or 3)",
		"1 or 2 and 3":              "(1 or (2 and 3))",
		"1 and 2 or 3":              "((1 and 2) or 3)",
		"1 and 2 and 3":             "((1 and 2) and 3)",
		"(1 or 2) and 3":            "((1 or 2) and 3)",
		"not 1 and 2":               "((not 1) and 2)",
		"not 1 or 2":                "((not 1) or 2)",
		"1 and not 2 or not 3":      "((1 and (not 2)) or (not 3))",
		"not not 1":                 "(not (not 1))",
		"not 1 = 2":                 "(not (1 = 2))",
		"(not 1) = 2":               "((not 1) = 2)",
		"1 = (not 2)":               "(1 = (not 2))",
		"1 = 2 and 3 < 4":           "((1 = 2) and (3 < 4))",
		"1 = 2 + 3":                 "(1 = (2 + 3))",
		"1 + 2 = 3":                 "((1 + 2) = 3)",
		"(1 = 2) = 3":               "((1 = 2) = 3)",
		"1 = (2 = 3)":               "(1 = (2 = 3))",
		"1 - 2 - 3":                 "((1 - 2) - 3)",
		"1 - 2 + 3":                 "((1 - 2) + 3)",
		"1 - (2 - 3)":               "(1 - (2 - 3))",
		"1 + 2 * 3":                 "(1 + (2 * 3))",
		"1 * 2 + 3":                 "((1 * 2) + 3)",
		"(1 + 2) * 3":               "((1 + 2) * 3)",
		"1 * 2 * 3":                 "((1 * 2) * 3)",
		"- a.x * b.x":               "((- a.x) * b.x)",
		"a.x * - b.x":               "(a.x * (- b.x))",
		"- a.x - - b.x":             "((- a.x) - (- b.x))",
		"- - a.x":                   "(- (- a.x))",
		"not - a.x < 1 or 1":        "((not ((- a.x) < 1)) or 1)",
		"1 or 2 and 3 = 4 + 5 * -6": "(1 or (2 and (3 = (4 + (5 * (-6))))))",
		"1 * 2 + 3 = 4 and 5 or 6":  "(((((1 * 2) + 3) = 4) and 5) or 6)",
	} {
		checkParse(t, s, want)
	}
	for o := api.OpEq; o <= api.OpGe; o++ {
		sign := " " + term.Sign(o) + " "
		checkParse(t, "1 + 2"+sign+"3 - 4", "((1 + 2)"+sign+"(3 - 4))")
		checkParse(t, "not 1"+sign+"2", "(not (1"+sign+"2))")
	}
}

func TestNumbersBelowNought(t *testing.T) {
	for s, want := range map[string]string{
		"-5":         "(-5)",
		"- 5":        "(-5)",
		"-0":         "0",
		"-(5)":       "(- (5))",
		"--5":        "(- (-5))",
		"-(-5)":      "(- (-5))",
		"---5":       "(- (- (-5)))",
		"1-5":        "(1 - 5)",
		"1 - -5":     "(1 - (-5))",
		"1 -5 -6":    "((1 - 5) - 6)",
		"-5 * 2":     "((-5) * 2)",
		"2 * -5":     "(2 * (-5))",
		"-5 - 5":     "((-5) - 5)",
		"-'5'":       "(- '5')",
		"-true":      "(- true)",
		"not -5 = 1": "(not ((-5) = 1))",
	} {
		checkParse(t, s, want)
	}
}

// TestAsFarAsItGoes holds that what can't belong to a predicate is left, and nothing else.
func TestAsFarAsItGoes(t *testing.T) {
	checkTake(t, "a.x > 3 WITHIN 5", "(a.x > 3)", 2)
	checkTake(t, "a.x > 3; b: b.x", "(a.x > 3)", 6)
	checkTake(t, "1 2", "1", 1)
	checkTake(t, "1)", "1", 1)
	checkTake(t, "(1))", "1", 1)
	checkTake(t, "1 (2)", "1", 3)
	checkTake(t, "1 not 2", "1", 2)
	checkTake(t, "1 true", "1", 1)
	checkTake(t, "1 !", "1", 1)
	checkTake(t, "a.x . y", "a.x", 2)
	checkTake(t, "1 = 2 = 3", "(1 = 2)", 2)
	checkTake(t, "1 = 2 + 3 <= 3 and 4", "(1 = (2 + 3))", 4)
	checkTake(t, "1 and 2 < 3 > 4", "(1 and (2 < 3))", 2)
	checkTake(t, "(1 = 2) = 3 = 4", "((1 = 2) = 3)", 2)
	checkTake(t, "1", "1", 0)
}

func TestErrForm(t *testing.T) {
	for _, s := range []string{
		"", " ", "a", "a.", "a.1", "a.'x'", "a.true", ".x", "1.x", "true.x", "SEQ", "and", "or", "not", "-", "+", "=",
		"(", ")", "()", "(1", "1)", "(1))", "((1)", "(1 = 2 = 3)", "1 2", "1 +", "+ 1", "1 + * 2", "1 and", "and 1",
		"1 and or 2", "1 = = 2", "1 = 2 = 3", "1 < 2 > 3", "1 != 2 = 3", "not", "not and", "1 not 2", "1 = not 2", "1 + not 2",
		"- not 1", "1 * not 2", "1 ! 2", "a.x b.x", "a,x", "1;", "1 WITHIN 5", "{1}", "1 | 2", "1 / 2", "a.x >= ", "1 - - ", "'u' 'v'",
	} {
		checkError(t, s, api.ErrForm)
	}
}

func TestLexErrors(t *testing.T) {
	checkError(t, "#", api.ErrForm)
	checkError(t, "1 + 'u", api.ErrForm)
	checkError(t, "1 + 99999999999999999999", api.ErrBig)
	checkError(t, "-9223372036854775808", api.ErrBig)
	checkError(t, strings.Repeat("n", api.MaxName+1)+".x", api.ErrBig)
	// These are told ahead of what is wrong with the predicate.
	checkError(t, "1 2 99999999999999999999", api.ErrBig)
	checkError(t, strings.Repeat("(", api.MaxToks+1), api.ErrBig)
	checkError(t, strings.Repeat(" ", api.MaxText+1), api.ErrBig)
}

func TestMostParts(t *testing.T) {
	sum := func(many int) string { return "1" + strings.Repeat("+1", many-1) }
	l, e := ppred.Parse("-a.x+" + sum(31))
	if len(l) != api.MaxNodes || e != api.OK {
		t.Errorf("%d parts, %d", len(l), e)
	}
	checkError(t, sum(33), api.ErrBig)
	checkError(t, sum(150), api.ErrBig)
	l, e = ppred.Parse(strings.Repeat("not ", api.MaxNodes-1) + "true")
	if len(l) != api.MaxNodes || e != api.OK {
		t.Errorf("%d parts, %d", len(l), e)
	}
	checkError(t, strings.Repeat("not ", api.MaxNodes)+"true", api.ErrBig)
	checkError(t, strings.Repeat("- ", api.MaxNodes)+"a.x", api.ErrBig)
	// A number below 0 is one part.
	l, e = ppred.Parse(strings.Repeat("-", api.MaxNodes) + "1")
	if len(l) != api.MaxNodes || e != api.OK {
		t.Errorf("%d parts, %d", len(l), e)
	}
	// What is left is not asked for ahead of what was taken.
	checkError(t, sum(33)+" 2", api.ErrBig)
	// Where there is none, it is not asked how big it would be.
	checkError(t, sum(33)+"+", api.ErrForm)
}

// nested is a text between so many brackets.
func nested(many int, s string) string {
	return strings.Repeat("(", many) + s + strings.Repeat(")", many)
}

func TestMostDepth(t *testing.T) {
	const most = api.MaxDepth
	for s, deep := range map[string]int{
		"1":                           0,
		"-1":                          0,
		"not 1":                       1,
		"- a.x":                       1,
		"not - a.x":                   2,
		"1 + 2":                       1,
		"1 + 2 + 3 + 4":               1,
		"1 + 2 * 3":                   2,
		"1 * 2 + 3":                   1,
		"1 or 2 and 3 = 4 + 5 * - 6":  5,
		"1 or 2 and 3 = 4 + 5 * -(6)": 7,
		"1 and not 2":                 2,
		"not 1 and 2":                 1,
		"(1 + 2) * 3":                 2,
		"1 + (2 + (3 + 4))":           5,
	} {
		want, _ := ppred.Parse(s)
		l, e := ppred.Parse(nested(most-deep, s))
		if !term.Same(l, want) || e != api.OK {
			t.Errorf("%q between %d brackets: got %v, %d", s, most-deep, l, e)
		}
		checkError(t, nested(most-deep+1, s), api.ErrBig)
	}
	checkError(t, nested(199, "1"), api.ErrBig)
	// Where there is none, it is not asked how deep it would be.
	checkError(t, strings.Repeat("(", most+1), api.ErrForm)
	checkError(t, nested(most+1, ""), api.ErrForm)
}

// dice draws numbers by a rule.
type dice uint64

func (d *dice) below(n int) int {
	*d = *d*2862933555777941757 + 3037000493
	return int(*d >> 35 % dice(n))
}

// predicate draws a predicate of so many parts.
func (d *dice) predicate(many int) []api.Node {
	ofTwo := []int{
		api.OpAdd, api.OpSub, api.OpMul, api.OpEq, api.OpNe, api.OpLt, api.OpLe, api.OpGt, api.OpGe, api.OpAnd, api.OpOr,
	}
	switch {
	case many == 1:
		return []api.Node{leaves[d.below(len(leaves))]}
	case many == 2 || d.below(3) == 0:
		op := []int{api.OpNeg, api.OpNot}[d.below(2)]
		return append(d.predicate(many-1), api.Node{Op: op})
	}
	left := 1 + d.below(many-2)
	l := append(d.predicate(left), d.predicate(many-1-left)...)
	return append(l, api.Node{Op: ofTwo[d.below(len(ofTwo))]})
}

var leaves = []api.Node{
	{Op: api.OpConst, V: value.Num(5)}, {Op: api.OpConst, V: value.Num(-5)}, {Op: api.OpConst, V: value.Num(math.MinInt64 + 1)},
	{Op: api.OpConst, V: value.Text("it's")}, {Op: api.OpConst, V: value.Truth(true)}, {Op: api.OpField, Var: "a", Field: "x"},
}

// TestEveryPredicateIsRead holds that Show of each predicate is a text of it.
func TestEveryPredicateIsRead(t *testing.T) {
	d := dice(1)
	for many := 1; many <= api.MaxNodes; many++ {
		for range 50 {
			checkRead(t, d.predicate(many))
		}
	}
}

func checkRead(t *testing.T, l []api.Node) {
	t.Helper()
	s := term.Show(l)
	if got, e := ppred.Parse(s); !term.Same(got, l) || e != api.OK {
		t.Fatalf("%q: got %q, %d", s, term.Show(got), e)
	}
}

// TestTheDeepestIsRead holds that the text of the deepest predicates is not too deep.
func TestTheDeepestIsRead(t *testing.T) {
	number, neg := api.Node{Op: api.OpConst, V: value.Num(1)}, api.Node{Op: api.OpNeg}
	checkParse(t, term.Show(append([]api.Node{number}, slices.Repeat([]api.Node{neg}, api.MaxNodes-1)...)),
		strings.Repeat("(- ", 63)+"(1)"+strings.Repeat(")", 63))
	right := append(slices.Repeat([]api.Node{number}, 32), slices.Repeat([]api.Node{{Op: api.OpSub}}, 31)...)
	checkParse(t, term.Show(right), strings.Repeat("(1 - ", 31)+"1"+strings.Repeat(")", 31))
}

func TestTakeOfNone(t *testing.T) {
	for _, s := range []*lex.Source{nil, {}, lex.From(nil)} {
		if l, e := ppred.Take(s); l != nil || e != api.ErrForm {
			t.Errorf("got %v, %d", l, e)
		}
	}
}

// TestTakeOfOddPieces holds that of pieces that no text has nothing comes that may not be.
func TestTakeOfOddPieces(t *testing.T) {
	for _, l := range [][]api.Tok{
		{{}},
		{{Kind: 99, S: "1"}},
		{{Kind: api.TokNum, N: math.MinInt64}},
		{{Kind: api.TokSign, S: "-"}, {Kind: api.TokNum, N: math.MinInt64}},
		{{Kind: api.TokStr, S: strings.Repeat("u", api.MaxStr+1)}},
		{{Kind: api.TokName, S: "true"}, {Kind: api.TokSign, S: "."}, {Kind: api.TokName, S: "x"}},
		{{Kind: api.TokName, S: "a"}, {Kind: api.TokSign, S: "."}, {Kind: api.TokName}},
		{{Kind: api.TokWord, S: "("}, {Kind: api.TokNum, N: 1}, {Kind: api.TokWord, S: ")"}},
	} {
		if got, e := ppred.Take(lex.From(l)); got != nil || e != api.ErrForm {
			t.Errorf("%v: got %v, %d", l, got, e)
		}
	}
	one := api.Tok{Kind: api.TokNum, S: "1", N: 1}
	for _, odd := range []api.Tok{{}, {Kind: api.TokWord, S: "+"}, {Kind: api.TokSign, S: "and"}, {Kind: api.TokSign}, {Kind: api.TokName, S: "or"}} {
		s := lex.From([]api.Tok{one, odd, one})
		if got, e := ppred.Take(s); term.Show(got) != "1" || e != api.OK || s.Left() != 2 {
			t.Errorf("%v between: got %v, %d, %d left", odd, got, e, s.Left())
		}
	}
}

// TestManyPieces holds that so many pieces as no text has come to an end.
func TestManyPieces(t *testing.T) {
	open := api.Tok{Kind: api.TokSign, S: "("}
	end := api.Tok{Kind: api.TokSign, S: ")"}
	one := api.Tok{Kind: api.TokNum, S: "1", N: 1}
	many := slices.Repeat([]api.Tok{open}, 1<<20)
	if l, e := ppred.Take(lex.From(many)); l != nil || e != api.ErrForm {
		t.Errorf("got %d parts, %d", len(l), e)
	}
	many = append(append(many, one), slices.Repeat([]api.Tok{end}, 1<<20)...)
	if l, e := ppred.Take(lex.From(many)); l != nil || e != api.ErrBig {
		t.Errorf("got %d parts, %d", len(l), e)
	}
}

// TestIsTheCallers holds that what one call answers has nothing to do with another one.
func TestIsTheCallers(t *testing.T) {
	a, _ := ppred.Parse("a.x > 3")
	b, _ := ppred.Parse("a.x > 3")
	a[0] = api.Node{}
	if term.Show(b) != "(a.x > 3)" {
		t.Errorf("it was changed: %v", b)
	}
}
