package step_test

import (
	"math"
	"slices"
	"testing"

	"lamplighter/api"
	"lamplighter/event"
	"lamplighter/pat"
	"lamplighter/run"
	"lamplighter/sample"
	"lamplighter/schema"
	"lamplighter/step"
	"lamplighter/value"
)

// pairs is a list of pairs, from elements and numbers that take turns.
var pairs = sample.Pairs

func maker(text string) *step.Maker {
	return step.New(sample.Schema(), sample.Query(text))
}

func at(kind string, seq, x int64) api.Event {
	return sample.Event(kind, "k", seq, seq, x)
}

// load is a run at a state, with pairs of elements and numbers.
func load(state int, l ...int64) run.Run {
	return run.Load(api.Saved{State: state, Pairs: pairs(l...)})
}

// check holds runs against states and pairs, none of which is blocked.
func check(t *testing.T, got []run.Run, want ...run.Run) {
	t.Helper()
	same := func(a, b run.Run) bool {
		return a.State() == b.State() && slices.Equal(a.Pairs(), b.Pairs()) && !a.Blocked()
	}
	if !slices.EqualFunc(got, want, same) {
		for _, r := range got {
			t.Errorf("got %v", r.Save())
		}
		t.Errorf("want %v", want)
	}
}

func TestExample(t *testing.T) {
	m := maker("SEQ(A a, B b) WITHIN 9")
	check(t, m.More(run.Run{}, at("A", 1, 0)), load(1, 0, 1))
	check(t, m.More(run.Run{}, at("B", 1, 0)))
}

// TestMore holds that a run goes on with one more of its element first, then with the first one of the next.
func TestMore(t *testing.T) {
	m := maker("SEQ(A a{2,3}, !C n, (A|B) b) WHERE a: a.x > 0; b: b.x > 1 WITHIN 9")
	one := load(1, 0, 1)
	two := load(2, 0, 1, 0, 2)
	three := load(3, 0, 1, 0, 2, 0, 3)
	last := load(4, 0, 1, 0, 2, 2, 3)
	check(t, m.More(run.Run{}, at("A", 1, 1)), one)
	check(t, m.More(run.Run{}, at("A", 1, 0)))
	check(t, m.More(one, at("A", 2, 5)), two)
	check(t, m.More(one, at("B", 2, 5)))
	check(t, m.More(two, at("A", 3, 2)), three, last)
	check(t, m.More(two, at("A", 3, 1)), three)
	check(t, m.More(two, at("A", 3, 0)))
	check(t, m.More(two, at("B", 3, 2)), last)
	check(t, m.More(two, at("C", 3, 2)))
	check(t, m.More(three, at("A", 4, 2)), load(4, 0, 1, 0, 2, 0, 3, 2, 4))
	check(t, m.More(last, at("A", 4, 2)))
	// A run that is blocked goes on with its element alone, and is free then.
	check(t, m.More(two.Block(), at("A", 3, 2)), three)
	check(t, m.More(two.Block(), at("B", 3, 2)))
	check(t, m.More(three.Block(), at("A", 4, 2)))
	check(t, m.More(run.Run{}.Block(), at("A", 1, 1)))
	check(t, []run.Run{two}, load(2, 0, 1, 0, 2))
}

// TestMoreHasItsVariables holds that a run that goes on has what its variables stand for, and when it began.
func TestMoreHasItsVariables(t *testing.T) {
	m := maker("SEQ(A a, B b) WHERE b: b.x = a.x WITHIN 9")
	l := m.More(run.Run{}, at("A", 3, 7))
	check(t, l, load(1, 0, 3))
	if env := l[0].Env(); len(env) != 1 || env[0].Var != "a" || !event.Same(env[0].E, at("A", 3, 7)) || l[0].First() != 3 {
		t.Errorf("got %v", l[0].Save())
	}
	check(t, m.More(l[0], at("B", 4, 7)), load(2, 0, 3, 1, 4))
	check(t, m.More(l[0], at("B", 4, 6)))
	// How far it is from the first one, others ask.
	check(t, m.More(l[0], at("B", 400, 7)), load(2, 0, 3, 1, 400))
}

func TestStatesThatThereAreNot(t *testing.T) {
	m := maker("SEQ(A a{1,2}, B b) WITHIN 9")
	for _, k := range []int{-1, 4, math.MinInt, math.MaxInt} {
		r := load(k, 0, 1)
		check(t, m.More(r, at("A", 2, 0)))
		check(t, m.More(r, at("B", 2, 0)))
		if m.Ends(r) || !m.Dead(r) {
			t.Errorf("a run at %d ends, or is not dead", k)
		}
	}
}

func TestBehind(t *testing.T) {
	m := maker("SEQ(A a, !B n, C c) WHERE n: n.x = a.x WITHIN 9")
	r := m.More(run.Run{}, at("A", 1, 5))[0]
	cases := []struct {
		e    api.Event
		want run.Run
	}{
		{at("B", 2, 5), r.Block()}, {at("B", 2, 4), r}, {at("C", 2, 5), r}, {at("A", 2, 5), r}, {api.Event{}, r},
	}
	for _, c := range cases {
		if got := m.Behind(r, c.e); !run.Same(got, c.want) {
			t.Errorf("behind %v: got %v", c.e, got.Save())
		}
		if got := m.Behind(r.Block(), c.e); !run.Same(got, r.Block()) {
			t.Errorf("blocked, behind %v: got %v", c.e, got.Save())
		}
		if got := m.Behind(run.Run{}, c.e); !run.Same(got, run.Run{}) {
			t.Errorf("nothing, behind %v: got %v", c.e, got.Save())
		}
	}
	if r.Blocked() || len(m.Behind(r, at("B", 2, 5)).Env()) != 1 {
		t.Error("the run was changed")
	}
}

func TestEndsAndDead(t *testing.T) {
	m := maker("SEQ(A a{1,2}, !C n, B b{2,3}) WITHIN 9")
	cases := []struct {
		name       string
		r          run.Run
		ends, dead bool
	}{
		{"none", run.Run{}, false, false},
		{"none, blocked", run.Run{}.Block(), false, false},
		{"one a", load(1, 0, 1), false, false},
		{"one a, blocked", load(1, 0, 1).Block(), false, false},
		{"two a", load(2, 0, 1, 0, 2), false, false},
		{"two a, blocked", load(2, 0, 1, 0, 2).Block(), false, true},
		{"one b", load(3, 0, 1, 2, 2), false, false},
		{"two b", load(4, 0, 1, 2, 2, 2, 3), true, false},
		{"two b, blocked", load(4, 0, 1, 2, 2, 2, 3).Block(), true, false},
		{"three b", load(5, 0, 1, 2, 2, 2, 3, 2, 4), true, true},
	}
	for _, c := range cases {
		if m.Ends(c.r) != c.ends || m.Dead(c.r) != c.dead {
			t.Errorf("%s: got %v, %v", c.name, m.Ends(c.r), m.Dead(c.r))
		}
	}
}

func TestOfNone(t *testing.T) {
	r := load(1, 0, 1)
	for _, m := range []*step.Maker{nil, {}} {
		if !pat.Same(m.Query(), api.Query{}) || m.Ends(run.Run{}) || m.Ends(r) || !m.Dead(run.Run{}) || !m.Dead(r) {
			t.Error("none has something")
		}
		check(t, m.More(run.Run{}, at("A", 1, 0)))
	}
	if got := (*step.Maker)(nil).Behind(r, at("A", 1, 0)); !run.Same(got, run.Run{}) {
		t.Errorf("got %v", got.Save())
	}
	for _, s := range []*schema.Schema{nil, {}} {
		m := step.New(s, sample.Query("SEQ(A a, B b) WHERE b: b.x = 1 WITHIN 9"))
		check(t, m.More(run.Run{}, at("A", 1, 0)), r)
		check(t, m.More(r, at("B", 2, 1)))
	}
	check(t, step.New(sample.Schema(), api.Query{}).More(run.Run{}, at("A", 1, 0)))
}

func TestIsTheCallers(t *testing.T) {
	const text = "SEQ(A a, !C n, B b) WHERE b: b.x = a.x WITHIN 9"
	q, a := sample.Query(text), at("A", 1, 5)
	m := step.New(sample.Schema(), q)
	if !pat.Same(q, sample.Query(text)) || !pat.Same(m.Query(), q) {
		t.Errorf("got %v", m.Query())
	}
	for _, other := range []api.Query{q, m.Query()} {
		other.Elems[0].Types[0], other.Elems[2].Pred[0], other.Elems[1] = "Z", api.Node{}, api.Elem{}
	}
	l := m.More(run.Run{}, a)
	a.Vals[0] = value.Num(6)
	check(t, m.More(l[0], at("B", 2, 5)), load(2, 0, 1, 2, 2))
	if !pat.Same(m.Query(), sample.Query(text)) || !m.Behind(l[0], at("C", 2, 0)).Blocked() {
		t.Errorf("it was changed: %v", m.Query())
	}
	l[0] = run.Run{}
	check(t, m.More(run.Run{}, at("A", 1, 5)), load(1, 0, 1))
}
