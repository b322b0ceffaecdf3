package table_test

import (
	"math"
	"slices"
	"strconv"
	"strings"
	"testing"

	"lamplighter/api"
	"lamplighter/pat"
	"lamplighter/table"
)

// query is a query that a window tells from others.
func query(window int64) api.Query {
	return api.Query{Elems: []api.Elem{{Var: "a", Types: []string{"A", "B"}, Min: 1, Max: 1, Pred: []api.Node{{Op: api.OpField, Var: "a", Field: "x"}}}}, Window: window, Cap: 5}
}

func entry(id string, from, to int64) api.Entry {
	return api.Entry{Id: id, Q: query(from), From: from, To: to}
}

func same(a, b api.Entry) bool {
	return a.Id == b.Id && pat.Same(a.Q, b.Q) && a.From == b.From && a.To == b.To
}

func sameAll(a, b []api.Entry) bool { return slices.EqualFunc(a, b, same) }

// check holds all that is told of a table's queries against what they should be.
func check(t *testing.T, x *table.Table, want ...api.Entry) {
	t.Helper()
	if got := x.All(); !sameAll(got, want) || x.Len() != len(want) {
		t.Errorf("got %d, %v, want %v", x.Len(), got, want)
	}
	var open []string
	for at, w := range want {
		if got, ok := x.Get(at); !same(got, w) || !ok {
			t.Errorf("Get %d: got %v, %v, want %v", at, got, ok, w)
		}
		if w.To == 0 {
			open = append(open, w.Id)
		}
	}
	if got := x.Open(); !slices.Equal(got, open) {
		t.Errorf("Open: got %v, want %v", got, open)
	}
	for _, at := range []int{-1, len(want), math.MinInt, math.MaxInt} {
		if got, ok := x.Get(at); !same(got, api.Entry{}) || ok {
			t.Errorf("Get %d: got %v, %v", at, got, ok)
		}
	}
}

func register(t *testing.T, x *table.Table, id string, ticket int64, want api.Errno) {
	t.Helper()
	if got := x.Register(id, query(ticket), ticket); got != want {
		t.Errorf("register %s under %d: got %d", id, ticket, got)
	}
}

func unregister(t *testing.T, x *table.Table, id string, ticket int64, want api.Errno) {
	t.Helper()
	if got := x.Unregister(id, ticket); got != want {
		t.Errorf("unregister %s under %d: got %d", id, ticket, got)
	}
}

func TestExample(t *testing.T) {
	x := table.New()
	register(t, x, "p", 3, api.OK)
	got, _ := x.Get(0)
	if !table.Sees(got, 4) || table.Sees(got, 3) || table.Sees(got, 2) {
		t.Errorf("got %v", got)
	}
}

func TestRegisterAndUnregister(t *testing.T) {
	x := table.New()
	check(t, x)
	register(t, x, "p", 1, api.OK)
	register(t, x, "q", 3, api.OK)
	check(t, x, entry("p", 1, 0), entry("q", 3, 0))
	register(t, x, "p", 4, api.ErrTwice)
	unregister(t, x, "r", 4, api.ErrNone)
	unregister(t, x, "p", 5, api.OK)
	check(t, x, entry("p", 1, 5), entry("q", 3, 0))
	unregister(t, x, "p", 6, api.ErrNone)
	register(t, x, "p", 6, api.OK)
	check(t, x, entry("p", 1, 5), entry("q", 3, 0), entry("p", 6, 0))
	unregister(t, x, "p", 7, api.OK)
	check(t, x, entry("p", 1, 5), entry("q", 3, 0), entry("p", 6, 7))
}

// TestNumbersRise holds that each number is above all so far, from 0 on, whatever they were of; and that nothing changes with an error.
func TestNumbersRise(t *testing.T) {
	x := table.New()
	for _, n := range []int64{0, -1, math.MinInt64} {
		register(t, x, "p", n, api.ErrOrder)
	}
	check(t, x)
	register(t, x, "p", 5, api.OK)
	for _, n := range []int64{5, 4, 0, -1, math.MinInt64} {
		register(t, x, "q", n, api.ErrOrder)
		unregister(t, x, "p", n, api.ErrOrder)
		unregister(t, x, "q", n, api.ErrNone)
		register(t, x, "p", n, api.ErrTwice)
	}
	check(t, x, entry("p", 5, 0))
	unregister(t, x, "p", 9, api.OK)
	register(t, x, "q", 9, api.ErrOrder)
	register(t, x, "q", 8, api.ErrOrder)
	register(t, x, "q", math.MaxInt64, api.OK)
	register(t, x, "r", math.MaxInt64, api.ErrOrder)
	check(t, x, entry("p", 5, 9), entry("q", math.MaxInt64, 0))
}

func TestCan(t *testing.T) {
	x := table.New()
	for _, id := range []string{"", "1", "a b", "SEQ", "true", strings.Repeat("a", api.MaxName+1), "a-"} {
		if got := x.Can(id); got != api.ErrKey {
			t.Errorf("%q: got %d", id, got)
		}
		register(t, x, id, 1, api.ErrKey)
	}
	for i := range int64(api.MaxQueries) {
		id := "p" + strconv.Itoa(int(i/2))
		if got := x.Can(id); got != api.OK {
			t.Errorf("%s: got %d", id, got)
		}
		register(t, x, id, 2*i+1, api.OK)
		if got := x.Can(id); got != api.ErrTwice {
			t.Errorf("%s again: got %d", id, got)
		}
		if i < 15 {
			unregister(t, x, id, 2*i+2, api.OK)
		}
	}
	// There were so many, though all but one have ended.
	for id, want := range map[string]api.Errno{"p0": api.ErrBig, "z": api.ErrBig, "p7": api.ErrTwice, "": api.ErrKey} {
		if got := x.Can(id); got != want {
			t.Errorf("%q: got %d", id, got)
		}
		register(t, x, id, 100, want)
	}
	if x.Len() != api.MaxQueries {
		t.Errorf("there are %d", x.Len())
	}
}

func TestSees(t *testing.T) {
	cases := []struct {
		from, to, seq int64
		want          bool
	}{
		{3, 0, 2, false}, {3, 0, 3, false}, {3, 0, 4, true}, {3, 0, math.MaxInt64, true}, {3, 0, math.MinInt64, false},
		{3, 6, 3, false}, {3, 6, 4, true}, {3, 6, 5, true}, {3, 6, 6, false}, {3, 6, 7, false},
		{3, 4, 3, false}, {3, 4, 4, false}, {3, math.MaxInt64, math.MaxInt64, false}, {math.MaxInt64, 0, math.MaxInt64, false},
		{-5, 0, 0, true}, {-5, -2, -3, true}, {-5, -2, 0, false},
	}
	for _, c := range cases {
		if got := table.Sees(entry("p", c.from, c.to), c.seq); got != c.want {
			t.Errorf("from %d to %d, %d: got %v", c.from, c.to, c.seq, got)
		}
	}
}

// active is what is told of the event of a number, so many at most.
func active(x *table.Table, seq int64, most int) ([]int, []api.Entry) {
	var places []int
	var l []api.Entry
	for at, e := range x.Active(seq) {
		places, l = append(places, at), append(l, e)
		if len(places) == most {
			break
		}
	}
	return places, l
}

func TestActive(t *testing.T) {
	all := []api.Entry{entry("p", 1, 5), entry("q", 3, 0), entry("p", 6, 9), entry("r", 7, 0)}
	x, e := table.Of(all)
	if e != api.OK {
		t.Fatalf("got %d", e)
	}
	for seq, want := range map[int64][]int{
		math.MinInt64: nil, 0: nil, 1: nil, 2: {0}, 3: {0}, 4: {0, 1}, 5: {1}, 6: {1}, 7: {1, 2}, 8: {1, 2, 3}, 9: {1, 3}, math.MaxInt64: {1, 3},
	} {
		for most := range 5 {
			places, l := active(x, seq, most)
			some := want
			if most > 0 {
				some = want[:min(most, len(want))]
			}
			if !slices.Equal(places, some) {
				t.Errorf("%d of %d: got %v", most, seq, places)
			}
			for i, at := range places {
				if !same(l[i], all[at]) {
					t.Errorf("of %d at %d: got %v", seq, at, l[i])
				}
			}
		}
	}
	if places, _ := active(table.New(), 5, 9); len(places) != 0 {
		t.Errorf("got %v", places)
	}
}

// TestActiveMeanwhile holds that those are told that there are when they begin to be told.
func TestActiveMeanwhile(t *testing.T) {
	x, _ := table.Of([]api.Entry{entry("p", 1, 0), entry("q", 3, 0)})
	s := x.Active(20)
	register(t, x, "r", 5, api.OK)
	var names []string
	for _, e := range s {
		names = append(names, e.Id)
		unregister(t, x, "r", 7, map[bool]api.Errno{true: api.OK, false: api.ErrNone}[e.Id == "p"])
		register(t, x, "s", 8, map[bool]api.Errno{true: api.OK, false: api.ErrTwice}[e.Id == "p"])
	}
	if !slices.Equal(names, []string{"p", "q", "r"}) || !slices.Equal(x.Open(), []string{"p", "q", "s"}) {
		t.Errorf("got %v, %v", names, x.Open())
	}
}

func TestOf(t *testing.T) {
	big := []api.Entry{{Id: ""}}
	var full []api.Entry
	for i := range int64(api.MaxQueries) {
		full = append(full, entry("p"+strconv.Itoa(int(i)), i+1, 0))
		big = append(big, entry("p", 0, 0))
	}
	cases := []struct {
		name string
		l    []api.Entry
		e    api.Errno
	}{
		{"none", nil, api.OK},
		{"no entries", []api.Entry{}, api.OK},
		{"one", []api.Entry{entry("p", 1, 0)}, api.OK},
		{"full", full, api.OK},
		{"too many, and others wrong", big, api.ErrBig},
		{"no name", []api.Entry{entry("", 1, 0)}, api.ErrKey},
		{"no name, and no number", []api.Entry{entry("and", 0, 0)}, api.ErrKey},
		{"from 0", []api.Entry{entry("p", 0, 0)}, api.ErrOrder},
		{"from below 0", []api.Entry{entry("p", math.MinInt64, 0)}, api.ErrOrder},
		{"two from one", []api.Entry{entry("p", 2, 0), entry("q", 2, 0)}, api.ErrOrder},
		{"falling", []api.Entry{entry("p", 2, 0), entry("q", 1, 0)}, api.ErrOrder},
		{"to its from", []api.Entry{entry("p", 2, 2)}, api.ErrOrder},
		{"to ahead of its from", []api.Entry{entry("p", 2, 1)}, api.ErrOrder},
		{"to below 0", []api.Entry{entry("p", 2, -1)}, api.ErrOrder},
		{"to behind its from", []api.Entry{entry("p", 2, 3)}, api.OK},
		{"registered already", []api.Entry{entry("p", 2, 0), entry("p", 3, 0)}, api.ErrTwice},
		{"registered still", []api.Entry{entry("p", 2, 5), entry("q", 3, 0), entry("p", 4, 0)}, api.ErrTwice},
		{"registered just no more", []api.Entry{entry("p", 2, 5), entry("q", 3, 0), entry("p", 5, 0)}, api.OK},
		{"of one number two", []api.Entry{entry("p", 2, 5), entry("q", 5, 0), entry("r", 6, 0)}, api.OK},
		{"any end", []api.Entry{entry("p", 2, math.MaxInt64), entry("q", 3, 4), entry("r", 4, 4000)}, api.OK},
		{"order ahead of twice", []api.Entry{entry("p", 2, 0), entry("p", 2, 0)}, api.ErrOrder},
		{"the first one's error", []api.Entry{entry("p", 2, 0), entry("p", 3, 0), entry("", 4, 0)}, api.ErrTwice},
		{"of one that may not be", []api.Entry{{Id: "p", From: 1}}, api.OK},
	}
	for _, c := range cases {
		x, e := table.Of(c.l)
		if e != c.e || e != api.OK && x != nil {
			t.Errorf("%s: got %d", c.name, e)
		}
		if e == api.OK {
			check(t, x, c.l...)
		}
	}
}

// TestOfGoesOn holds that a table of some goes on behind all their numbers.
func TestOfGoesOn(t *testing.T) {
	x, _ := table.Of([]api.Entry{entry("p", 2, 50), entry("q", 3, 0)})
	register(t, x, "q", 60, api.ErrTwice)
	register(t, x, "p", 50, api.ErrOrder)
	unregister(t, x, "q", 50, api.ErrOrder)
	unregister(t, x, "p", 60, api.ErrNone)
	register(t, x, "p", 51, api.OK)
	check(t, x, entry("p", 2, 50), entry("q", 3, 0), entry("p", 51, 0))
}

func TestOfNone(t *testing.T) {
	var none *table.Table
	check(t, none)
	for _, id := range []string{"p", ""} {
		if got := none.Can(id); got != api.ErrInput {
			t.Errorf("%q: got %d", id, got)
		}
		register(t, none, id, 1, api.ErrInput)
		unregister(t, none, id, 1, api.ErrNone)
	}
	if places, _ := active(none, 5, 9); len(places) != 0 {
		t.Errorf("got %v", places)
	}
	zero := &table.Table{}
	check(t, zero)
	unregister(t, zero, "p", 1, api.ErrNone)
	register(t, zero, "p", 1, api.OK)
	check(t, zero, entry("p", 1, 0))
}

func TestIsTheCallers(t *testing.T) {
	spoil := func(q api.Query) {
		q.Elems[0].Types[0], q.Elems[0].Pred[0] = "Z", api.Node{}
		q.Elems[0] = api.Elem{}
	}
	q := query(1)
	x := table.New()
	x.Register("p", q, 1)
	l := []api.Entry{entry("p", 1, 0)}
	y, _ := table.Of(l)
	if !pat.Same(q, query(1)) || !same(l[0], entry("p", 1, 0)) {
		t.Errorf("what was handed in was changed: %v, %v", q, l)
	}
	spoil(q)
	spoil(l[0].Q)
	l[0].Id = "z"
	for _, z := range []*table.Table{x, y} {
		got, _ := z.Get(0)
		spoil(got.Q)
		spoil(z.All()[0].Q)
		_, some := active(z, 5, 9)
		spoil(some[0].Q)
		z.Open()[0] = "z"
		check(t, z, entry("p", 1, 0))
	}
}
