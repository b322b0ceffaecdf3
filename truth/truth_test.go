package truth_test

import (
	"math"
	"slices"
	"testing"

	"lamplighter/api"
	"lamplighter/event"
	"lamplighter/sample"
	"lamplighter/schema"
	"lamplighter/show"
	"lamplighter/truth"
	"lamplighter/value"
)

// read is the query of a text, which may be.
func read(t *testing.T, text string) api.Query {
	t.Helper()
	q, e := show.Read(sample.Schema(), text)
	if e != api.OK {
		t.Fatalf("%q: %d", text, e)
	}
	return q
}

// at is an event of a type, with a time, a number and an x.
func at(kind string, time, seq, x int64) api.Event {
	return sample.Event(kind, "k", time, seq, x)
}

// row is events of types that are one letter each, at the times 1, 2, .., with these as numbers and as x.
func row(kinds string) []api.Event {
	var l []api.Event
	for i := range len(kinds) {
		n := int64(i + 1)
		l = append(l, at(kinds[i:i+1], n, n, n))
	}
	return l
}

// pairs is a list of pairs, from elements and numbers that take turns.
var pairs = sample.Pairs

func sameAll(a, b [][]api.Pair) bool {
	return slices.EqualFunc(a, b, slices.Equal[[]api.Pair])
}

func checkAll(t *testing.T, text string, l []api.Event, want ...[]api.Pair) {
	t.Helper()
	if got := truth.All(sample.Schema(), read(t, text), l); !sameAll(got, want) {
		t.Errorf("All of %s: got %v, want %v", text, got, want)
	}
}

func checkWhy(t *testing.T, text string, l []api.Event, m []api.Pair, want int) {
	t.Helper()
	s, q := sample.Schema(), read(t, text)
	if got := truth.Why(s, q, l, m); got != want {
		t.Errorf("Why of %v for %s: got %d, want %d", m, text, got, want)
	}
	if got := truth.Match(s, q, l, m); got != (want == api.WhyMatch) {
		t.Errorf("Match of %v for %s: got %v", m, text, got)
	}
}

func TestExample(t *testing.T) {
	checkAll(t, "SEQ(A a, B b) WITHIN 9", row("AAB"), pairs(0, 1, 1, 3), pairs(0, 2, 1, 3))
}

func TestCompare(t *testing.T) {
	rising := [][]api.Pair{
		nil,
		pairs(math.MinInt64, 9),
		pairs(0, math.MinInt64),
		pairs(0, 1),
		pairs(0, 1, 0, 2),
		pairs(0, 1, 0, 2, 1, 3),
		pairs(0, 1, 0, 3),
		pairs(0, 1, 1, 2),
		pairs(0, 1, 1, 2, 5, 5),
		pairs(0, 1, 1, 3),
		pairs(0, 2),
		pairs(0, math.MaxInt64),
		pairs(1, -1),
		pairs(1, 0),
		pairs(1, 0, 0, 0),
		pairs(math.MaxInt64, 0),
	}
	for i, a := range rising {
		for j, b := range rising {
			want := 0
			if i < j {
				want = -1
			} else if i > j {
				want = 1
			}
			if got := truth.Compare(a, b); got != want {
				t.Errorf("Compare %v %v: got %d", a, b, got)
			}
		}
	}
	if truth.Compare(nil, pairs()) != 0 || truth.Compare([]api.Pair{}, nil) != 0 {
		t.Error("no pairs and an empty list of them are unlike")
	}
}

func TestAll(t *testing.T) {
	checkAll(t, "SEQ(A a) WITHIN 9", row("ABA"), pairs(0, 1), pairs(0, 3))
	checkAll(t, "SEQ(A a) WITHIN 9", row("BB"))
	checkAll(t, "SEQ(A a) WITHIN 9", nil)
	checkAll(t, "SEQ((A|C) a) WITHIN 9", row("ABC"), pairs(0, 1), pairs(0, 3))
	checkAll(t, "SEQ(A a, B b) WITHIN 9", row("BA"))
	checkAll(t, "SEQ(A a, B b) WITHIN 9", row("BABCB"), pairs(0, 2, 1, 3), pairs(0, 2, 1, 5))
	checkAll(t, "SEQ(A a, A b) WITHIN 9", row("AAA"), pairs(0, 1, 1, 2), pairs(0, 1, 1, 3), pairs(0, 2, 1, 3))
}

func TestHowOften(t *testing.T) {
	checkAll(t, "SEQ(A a{1,2}) WITHIN 9", row("AAA"),
		pairs(0, 1), pairs(0, 1, 0, 2), pairs(0, 1, 0, 3), pairs(0, 2), pairs(0, 2, 0, 3), pairs(0, 3))
	checkAll(t, "SEQ(A a{2,2}) WITHIN 9", row("AAA"), pairs(0, 1, 0, 2), pairs(0, 1, 0, 3), pairs(0, 2, 0, 3))
	checkAll(t, "SEQ(A a{2,3}) WITHIN 9", row("ABA"), pairs(0, 1, 0, 3))
	checkAll(t, "SEQ(A a{3,4}) WITHIN 9", row("AA"))
	checkAll(t, "SEQ(A a{1,2}, A b{2,2}) WITHIN 9", row("AAAA"),
		pairs(0, 1, 0, 2, 1, 3, 1, 4), pairs(0, 1, 1, 2, 1, 3), pairs(0, 1, 1, 2, 1, 4), pairs(0, 1, 1, 3, 1, 4), pairs(0, 2, 1, 3, 1, 4))
}

func TestGuards(t *testing.T) {
	const text = "SEQ(A a, !B n, C c) WITHIN 9"
	checkAll(t, text, row("AC"), pairs(0, 1, 2, 2))
	checkAll(t, text, row("ABC"))
	checkAll(t, text, row("BACB"), pairs(0, 2, 2, 3))
	checkAll(t, text, row("ABAC"), pairs(0, 3, 2, 4))
	checkAll(t, "SEQ(A a, !B n, !A m, C c) WITHIN 9", row("AAC"), pairs(0, 2, 3, 3))
	// Only what is between unlike elements guards, from the last of the one to the first of the other.
	checkAll(t, "SEQ(A a{2,2}, !B n, C c{2,2}) WITHIN 9", row("ABACBC"), pairs(0, 1, 0, 3, 2, 4, 2, 6))
	checkAll(t, "SEQ(A a, !B n, C c, A d) WITHIN 9", row("ACBA"), pairs(0, 1, 2, 2, 3, 4))
	checkAll(t, "SEQ(A a, !(B|A) n, C c) WITHIN 9", row("AAC"), pairs(0, 2, 2, 3))
	checkAll(t, "SEQ(A a, !B n, C c) WHERE n: n.x = a.x WITHIN 9", row("ABC"), pairs(0, 1, 2, 3))
	checkAll(t, "SEQ(A a, !B n, C c) WHERE n: n.x > a.x WITHIN 9", row("ABC"))
}

// TestGuardsAtOneTime holds that what stands between is told by numbers, where times are alike.
func TestGuardsAtOneTime(t *testing.T) {
	l := []api.Event{at("B", 5, 1, 0), at("A", 5, 2, 0), at("C", 5, 4, 0), at("B", 5, 5, 0)}
	checkAll(t, "SEQ(A a, !B n, C c) WITHIN 9", l, pairs(0, 2, 2, 4))
	checkAll(t, "SEQ(A a, !B n, C c) WITHIN 9", append(l, at("B", 5, 3, 0)))
}

func TestPredicates(t *testing.T) {
	l := []api.Event{at("A", 1, 1, 5), at("A", 2, 2, 7), at("B", 3, 3, 5), at("B", 4, 4, 7)}
	checkAll(t, "SEQ(A a) WHERE a: a.x > 5 WITHIN 9", l, pairs(0, 2))
	checkAll(t, "SEQ(A a, B b) WHERE b: b.x = a.x WITHIN 9", l, pairs(0, 1, 1, 3), pairs(0, 2, 1, 4))
	checkAll(t, "SEQ(A a, B b) WHERE b: b.x * 9223372036854775807 > 0 WITHIN 9", l)
	// Of each event of an element that may be there twice.
	checkAll(t, "SEQ(A a, B b{2,2}) WHERE b: b.x >= a.x WITHIN 9", l, pairs(0, 1, 1, 3, 1, 4))
	checkAll(t, "SEQ(A a{1,2}) WHERE a: a.x = 7 WITHIN 9", l, pairs(0, 2))
	// One that may be there twice is unknown to others.
	twice := read(t, "SEQ(A a, B b) WHERE b: b.x = a.x WITHIN 9")
	twice.Elems[0].Max = 2
	if got := truth.All(sample.Schema(), twice, l); len(got) != 0 {
		t.Errorf("got %v", got)
	}
}

func TestWindow(t *testing.T) {
	l := []api.Event{at("A", 1, 1, 0), at("A", 3, 2, 0), at("B", 5, 3, 0), at("B", 6, 4, 0)}
	checkAll(t, "SEQ(A a, B b) WITHIN 1", l)
	checkAll(t, "SEQ(A a, B b) WITHIN 2", l, pairs(0, 2, 1, 3))
	checkAll(t, "SEQ(A a, B b) WITHIN 3", l, pairs(0, 2, 1, 3), pairs(0, 2, 1, 4))
	checkAll(t, "SEQ(A a, B b) WITHIN 4", l, pairs(0, 1, 1, 3), pairs(0, 2, 1, 3), pairs(0, 2, 1, 4))
	checkAll(t, "SEQ(A a{1,2}, B b) WITHIN 4", l, pairs(0, 1, 0, 2, 1, 3), pairs(0, 1, 1, 3), pairs(0, 2, 1, 3), pairs(0, 2, 1, 4))
	// Times that may not be are so far apart as they are.
	far := []api.Event{at("A", math.MinInt64, 1, 0), at("A", -3, 2, 0), at("B", -1, 3, 0), at("B", math.MaxInt64, 4, 0)}
	checkAll(t, "SEQ(A a, B b) WITHIN 2", far, pairs(0, 2, 1, 3))
}

// TestAllSorts holds that events are taken in their order, whatever the order of the list.
func TestAllSorts(t *testing.T) {
	l := []api.Event{at("B", 3, 7, 0), at("A", 2, 9, 0), at("A", 3, 8, 0), at("B", 2, 10, 0), at("A", 1, 1, 0)}
	want := [][]api.Pair{pairs(0, 1, 1, 7), pairs(0, 1, 1, 10), pairs(0, 9, 1, 7), pairs(0, 9, 1, 10)}
	checkAll(t, "SEQ(A a, B b) WITHIN 9", l, want...)
	was := slices.Clone(l)
	slices.Reverse(l)
	checkAll(t, "SEQ(A a, B b) WITHIN 9", l, want...)
	slices.Reverse(l)
	if !slices.EqualFunc(l, was, event.Same) {
		t.Errorf("what was handed in was changed: %v", l)
	}
	for _, m := range want {
		checkWhy(t, "SEQ(A a, B b) WITHIN 9", l, m, api.WhyMatch)
	}
}

func TestMostTruth(t *testing.T) {
	l := row("AAAAAAAAAAAAAAAAB")
	if len(l) != api.MaxTruth+1 {
		t.Fatalf("%d events", len(l))
	}
	checkAll(t, "SEQ(A a, B b) WITHIN 99", l)
	if got := truth.All(sample.Schema(), read(t, "SEQ(A a) WITHIN 9"), l); len(got) != api.MaxTruth {
		t.Errorf("got %v", got)
	}
	// They are the first in their order, not in the list.
	slices.Reverse(l)
	checkAll(t, "SEQ(A a, B b) WITHIN 99", l)
	if got := truth.All(sample.Schema(), read(t, "SEQ(A a, B b) WITHIN 99"), l[:api.MaxTruth]); len(got) != api.MaxTruth-1 {
		t.Errorf("got %v", got)
	}
	// A match of more events is one all the same.
	checkWhy(t, "SEQ(A a, B b) WITHIN 99", l, pairs(0, 1, 1, 17), api.WhyMatch)
}

func TestWhy(t *testing.T) {
	const text = "SEQ(A a{1,2}, !B n, C c) WHERE a: a.x != 3 WITHIN 4"
	l := row("ACAABCC")
	cases := []struct {
		m    []api.Pair
		want int
	}{
		{nil, api.WhyEmpty},
		{pairs(), api.WhyEmpty},
		{pairs(0, 1, 2, 2), api.WhyMatch},
		{pairs(0, 4, 2, 7), api.WhyGuard},
		{pairs(0, 1), api.WhyOrder},
		{pairs(2, 2), api.WhyOrder},
		{pairs(2, 2, 0, 4), api.WhyOrder},
		{pairs(0, 4, 2, 2), api.WhyOrder},
		{pairs(0, 1, 2, 2, 2, 6), api.WhyOrder},
		{pairs(0, 1, 0, 3, 0, 4, 2, 6), api.WhyOrder},
		{pairs(0, 1, 0, 1, 2, 2), api.WhyOrder},
		{pairs(0, 4, 0, 1, 2, 6), api.WhyOrder},
		{pairs(0, 1, 1, 5, 2, 6), api.WhyOrder},
		{pairs(0, 1, 2, 8), api.WhyOrder},
		{pairs(0, 0, 2, 2), api.WhyOrder},
		{pairs(0, 1, 3, 2), api.WhyOrder},
		{pairs(-1, 1, 2, 2), api.WhyOrder},
		{pairs(math.MinInt64, 1, math.MaxInt64, 2), api.WhyOrder},
		{pairs(0, 2, 2, 6), api.WhyFits},
		{pairs(0, 1, 2, 5), api.WhyFits},
		{pairs(0, 3, 2, 7), api.WhyFits},
		{pairs(0, 1, 0, 3, 2, 7), api.WhyFits},
		{pairs(0, 1, 0, 4, 2, 7), api.WhyGuard},
		{pairs(0, 4, 2, 6), api.WhyGuard},
	}
	for _, c := range cases {
		checkWhy(t, text, l, c.m, c.want)
	}
	free := row("ACAACCC")
	checkWhy(t, text, free, pairs(0, 1, 0, 4, 2, 5), api.WhyMatch)
	checkWhy(t, text, free, pairs(0, 1, 0, 4, 2, 6), api.WhyWindow)
	checkWhy(t, text, free, pairs(0, 1, 2, 6), api.WhyWindow)
	checkWhy(t, text, nil, pairs(0, 1, 2, 2), api.WhyOrder)
}

// TestFirstReason holds that of several reasons the first is told.
func TestFirstReason(t *testing.T) {
	const text = "SEQ(A a, !B n, C c) WITHIN 1"
	checkWhy(t, text, row("ABC"), pairs(0, 1, 2, 3), api.WhyGuard)
	checkWhy(t, text, row("AAC"), pairs(0, 1, 2, 3), api.WhyWindow)
	checkWhy(t, text, row("CBC"), pairs(0, 1, 2, 3), api.WhyFits)
	checkWhy(t, text, row("CBC"), pairs(2, 1, 0, 3), api.WhyOrder)
}

// TestNumbersTwice holds that a number stands for the first event that has it.
func TestNumbersTwice(t *testing.T) {
	l := []api.Event{at("A", 1, 1, 0), at("B", 2, 1, 0), at("B", 3, 2, 0), at("C", 4, 2, 0)}
	checkAll(t, "SEQ(A a, B b) WITHIN 9", l, pairs(0, 1, 1, 2))
	checkAll(t, "SEQ(A a, C c) WITHIN 9", l)
	checkWhy(t, "SEQ(A a, B b) WITHIN 9", l, pairs(0, 1, 1, 1), api.WhyOrder)
	checkWhy(t, "SEQ(A a, B b) WITHIN 9", l, pairs(0, 1, 1, 2), api.WhyMatch)
	checkWhy(t, "SEQ(A a, C c) WITHIN 9", l, pairs(0, 1, 1, 2), api.WhyFits)
	// It stands between others, whatever its number.
	checkAll(t, "SEQ(A a, !B n, C c) WITHIN 9", []api.Event{at("A", 1, 1, 0), at("B", 2, 1, 0), at("C", 4, 2, 0)})
}

// TestWhatNeedNotBeThere holds that an element that may be there no time is passed over, and guards nothing.
func TestWhatNeedNotBeThere(t *testing.T) {
	q := read(t, "SEQ(A a, B b, C c) WITHIN 9")
	q.Elems[1].Min = 0
	for kinds, want := range map[string][][]api.Pair{
		"ABC": {pairs(0, 1, 1, 2, 2, 3), pairs(0, 1, 2, 3)},
		"AC":  {pairs(0, 1, 2, 2)},
		"AB":  nil,
		"BC":  nil,
	} {
		if got := truth.All(sample.Schema(), q, row(kinds)); !sameAll(got, want) {
			t.Errorf("All in %s: got %v, want %v", kinds, got, want)
		}
		for _, m := range want {
			if !truth.Match(sample.Schema(), q, row(kinds), m) {
				t.Errorf("Match in %s: %v is none", kinds, m)
			}
		}
	}
}

// TestQueriesThatMayNotBe holds that all calls answer by what queries say.
func TestQueriesThatMayNotBe(t *testing.T) {
	s, l := sample.Schema(), row("AB")
	a, b := api.Elem{Var: "a", Types: []string{"A"}, Min: 1, Max: 1}, api.Elem{Var: "b", Types: []string{"B"}, Min: 0, Max: 1}
	not := api.Elem{Var: "n", Types: []string{"B"}, Neg: true, Min: 1, Max: 1}
	cases := []struct {
		elems  []api.Elem
		window int64
		want   [][]api.Pair
	}{
		{nil, 9, nil},
		{[]api.Elem{not}, 9, nil},
		{[]api.Elem{not, a, not}, 9, [][]api.Pair{pairs(1, 1)}},
		{[]api.Elem{a, b}, 9, [][]api.Pair{pairs(0, 1), pairs(0, 1, 1, 2)}},
		{[]api.Elem{b, a}, 9, [][]api.Pair{pairs(1, 1)}},
		{[]api.Elem{{Var: "a", Types: []string{"A"}, Min: 0, Max: 0}, b}, 9, [][]api.Pair{pairs(1, 2)}},
		{[]api.Elem{a, {Var: "b", Types: []string{"B"}, Min: 2, Max: 1}}, 9, nil},
		{[]api.Elem{a, {Var: "b", Types: []string{"B"}, Min: -1, Max: -1}}, 9, nil},
		{[]api.Elem{{Var: "a", Min: 1, Max: 1}}, 9, nil},
		{[]api.Elem{a}, 0, [][]api.Pair{pairs(0, 1)}},
		{[]api.Elem{a}, -1, nil},
		{[]api.Elem{a, not, b, {Var: "c", Types: []string{"B"}, Min: 1, Max: 1}}, 9, [][]api.Pair{pairs(0, 1, 3, 2)}},
		{[]api.Elem{{Var: "a", Types: []string{"A"}, Min: 1, Max: 1, Pred: []api.Node{{Op: 99}}}}, 9, nil},
	}
	for _, c := range cases {
		q := api.Query{Elems: c.elems, Window: c.window}
		if got := truth.All(s, q, l); !sameAll(got, c.want) {
			t.Errorf("All of %v: got %v, want %v", q, got, c.want)
		}
		for _, m := range c.want {
			if !truth.Match(s, q, l, m) {
				t.Errorf("Match of %v: %v is none", q, m)
			}
		}
		if truth.Match(s, q, l, nil) || truth.Match(s, q, nil, pairs(0, 1)) {
			t.Errorf("Match of %v: nothing is one", q)
		}
	}
}

func TestOfNoSchema(t *testing.T) {
	q := read(t, "SEQ(A a, B b) WITHIN 9")
	pred := read(t, "SEQ(A a, B b) WHERE b: b.x > a.x WITHIN 9")
	for _, s := range []*schema.Schema{nil, {}} {
		if got := truth.All(s, q, row("AB")); !sameAll(got, [][]api.Pair{pairs(0, 1, 1, 2)}) {
			t.Errorf("got %v", got)
		}
		if got := truth.All(s, pred, row("AB")); len(got) != 0 {
			t.Errorf("got %v", got)
		}
	}
}

func sameBounds(a, b []api.Bound) bool {
	return slices.EqualFunc(a, b, func(x, y api.Bound) bool { return x.Var == y.Var && event.Same(x.E, y.E) })
}

func TestEnv(t *testing.T) {
	q := read(t, "SEQ(A a, !B n, C c{1,2}, A d, B e) WITHIN 9")
	l := row("ACCABA")
	m := pairs(0, 1, 2, 2, 2, 3, 3, 4, 4, 5)
	a, d, e := api.Bound{Var: "a", E: l[0]}, api.Bound{Var: "d", E: l[3]}, api.Bound{Var: "e", E: l[4]}
	for place, want := range map[int][]api.Bound{
		math.MinInt: nil, -1: nil, 0: nil, 1: {a}, 2: {a}, 3: {a}, 4: {a, d}, 5: {a, d, e}, math.MaxInt: {a, d, e},
	} {
		if got := truth.Env(q, l, m, place); !sameBounds(got, want) {
			t.Errorf("Env at %d: got %v, want %v", place, got, want)
		}
	}
	// What is no match has what its pairs say.
	odd := pairs(3, 6, -1, 1, 1, 5, 9, 1, 0, 99, 0, 4, 0, 1, math.MinInt64, 1)
	want := []api.Bound{{Var: "d", E: l[5]}, {Var: "a", E: l[3]}, {Var: "a", E: l[0]}}
	if got := truth.Env(q, l, odd, 9); !sameBounds(got, want) {
		t.Errorf("Env: got %v", got)
	}
	for _, got := range [][]api.Bound{truth.Env(q, nil, m, 5), truth.Env(q, l, nil, 5), truth.Env(api.Query{}, l, m, 5)} {
		if len(got) != 0 {
			t.Errorf("Env of nothing: got %v", got)
		}
	}
}

func TestFits(t *testing.T) {
	s, l := sample.Schema(), row("AACB")
	q := read(t, "SEQ(A a, !B n, (B|C) c) WHERE a: a.x > 1; n: n.x = a.x + 2; c: c.x > a.x WITHIN 9")
	cases := []struct {
		m    []api.Pair
		at   int
		e    api.Event
		want bool
	}{
		{nil, 0, l[0], false},
		{nil, 0, l[1], true},
		{nil, 0, l[2], false},
		{nil, 0, at("A", -9, -9, 2), true},
		{pairs(0, 2), 2, l[2], true},
		{pairs(0, 2), 2, l[3], true},
		{pairs(0, 2), 2, l[1], false},
		{pairs(0, 2), 2, at("C", 0, 0, 2), false},
		{pairs(0, 2), 1, l[3], true},
		{pairs(0, 1), 1, l[3], false},
		{pairs(0, 99), 2, l[2], false},
		{nil, 2, l[2], false},
		{pairs(2, 2), 2, l[2], false},
		{pairs(0, 2), -1, l[1], false},
		{pairs(0, 2), 3, l[1], false},
		{pairs(0, 2), math.MaxInt, l[1], false},
		{pairs(0, 2), math.MinInt, l[1], false},
		{nil, 0, api.Event{}, false},
		{nil, 0, api.Event{Type: "A"}, false},
	}
	for _, c := range cases {
		if got := truth.Fits(s, q, l, c.m, c.at, c.e); got != c.want {
			t.Errorf("Fits %v at %d of %v: got %v", c.m, c.at, c.e, got)
		}
	}
	if truth.Fits(s, api.Query{}, l, nil, 0, l[0]) {
		t.Error("an element that there is not fits")
	}
}

// TestItsOwnVariable holds that an element's variable stands for the event, though another one ahead has its name.
func TestItsOwnVariable(t *testing.T) {
	q := read(t, "SEQ(A a, B b) WHERE b: b.x = 2 WITHIN 9")
	q.Elems[0].Var = "b"
	if got := truth.All(sample.Schema(), q, row("AB")); !sameAll(got, [][]api.Pair{pairs(0, 1, 1, 2)}) {
		t.Errorf("got %v", got)
	}
}

func TestEnds(t *testing.T) {
	l := [][]api.Pair{pairs(0, 1, 1, 5), nil, pairs(0, 5, 1, 6), pairs(2, 5), {}, pairs(0, 2, 1, 5)}
	cases := map[int64][][]api.Pair{5: {l[0], l[3], l[5]}, 6: {l[2]}, 1: nil, 0: nil, -1: nil}
	for seq, want := range cases {
		if got := truth.Ends(l, seq); !sameAll(got, want) {
			t.Errorf("Ends at %d: got %v", seq, got)
		}
	}
	if got := truth.Ends(nil, 5); len(got) != 0 {
		t.Errorf("Ends of nothing: got %v", got)
	}
	got := truth.Ends(l, 5)
	got[0][0].Seq, got[1] = 77, nil
	if l[0][0].Seq != 1 || l[3][0].Seq != 5 {
		t.Errorf("what was handed in was changed: %v", l)
	}
}

// TestIsTheCallers holds that no list of an answer shares with another one, or with what was handed in.
func TestIsTheCallers(t *testing.T) {
	s, q, l := sample.Schema(), read(t, "SEQ(A a{1,3}, B b{1,2}) WITHIN 9"), row("AAABB")
	all, again := truth.All(s, q, l), truth.All(s, q, l)
	for i := range all {
		for j := range all[i] {
			all[i][j] = api.Pair{Elem: -1, Seq: -1}
		}
		all[i] = append(all[i], api.Pair{})
		for k := i + 1; k < len(all); k++ {
			if !slices.Equal(all[k], again[k]) {
				t.Fatalf("the match at %d was changed: %v", k, all[k])
			}
		}
	}
	bounds := truth.Env(read(t, "SEQ(A a, B b) WITHIN 9"), l, pairs(0, 1), 1)
	bounds[0].E.Vals[0] = value.Num(77)
	if !slices.EqualFunc(l, row("AAABB"), event.Same) {
		t.Errorf("what was handed in was changed: %v", l)
	}
}
