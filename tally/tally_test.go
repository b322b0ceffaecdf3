package tally_test

import (
	"math"
	"slices"
	"testing"

	"lamplighter/api"
	"lamplighter/emit"
	"lamplighter/sample"
	"lamplighter/tally"
)

// match is a match of a query and a key, of so many pairs, by an event of a time.
func match(query, key string, time int64, many int) api.Out {
	o := api.Out{Kind: api.OutMatch, Query: query, Key: key, Time: time, Seq: 10*time + int64(many)}
	for i := range many {
		o.Pairs = append(o.Pairs, api.Pair{Elem: i, Seq: int64(i) + 5})
	}
	return o
}

// lost is that runs of a query and a key were lost.
func lost(query, key string, time int64) api.Out {
	return api.Out{Kind: api.OutLost, Query: query, Key: key, Time: time}
}

func things() []api.Out {
	return []api.Out{
		match("q", "l", 1, 3), match("p", "k", 2, 4), lost("p", "k", 2), match("p", "l", 3, 2), match("q", "l", 3, 3), lost("r", "m", 4), lost("r", "a", 4), match("p", "k", 7, 3), match("pp", "k", 7, 0),
	}
}

func of(t *testing.T, l []api.Out, want ...api.Tally) {
	t.Helper()
	if got := tally.Of(l); !slices.Equal(got, want) {
		t.Errorf("got %v, want %v", got, want)
	}
}

func TestExample(t *testing.T) {
	of(t, nil)
	of(t, []api.Out{})
	if tally.Show(nil) != "" || len(tally.Keys(nil)) != 0 || len(tally.Between(nil, 0, 9)) != 0 || !slices.Equal(tally.Every(nil, 0, 1, 2), []int{0, 0}) {
		t.Error("nothing is something")
	}
}

func TestOf(t *testing.T) {
	of(t, things(), api.Tally{Query: "p", Matches: 3, Lost: 1, Least: 2, Most: 4, Keys: 2}, api.Tally{Query: "pp", Matches: 1, Keys: 1},
		api.Tally{Query: "q", Matches: 2, Least: 3, Most: 3, Keys: 1}, api.Tally{Query: "r", Lost: 2, Keys: 2})
	// In any order the same.
	l := things()
	slices.Reverse(l)
	of(t, l, tally.Of(things())...)
	// Whatever tells of no lost runs is a match.
	of(t, []api.Out{{}, {Kind: 3, Pairs: sample.Pairs(0, 1)}, {Kind: -1}, {Query: "A", Kind: math.MinInt}}, api.Tally{Matches: 3, Most: 1, Keys: 1}, api.Tally{Query: "A", Matches: 1, Keys: 1})
	// What tells of lost runs has no pairs that count.
	odd := lost("p", "k", 3)
	odd.Pairs = sample.Pairs(0, 1, 1, 2)
	of(t, []api.Out{odd}, api.Tally{Query: "p", Lost: 1, Keys: 1})
	of(t, []api.Out{odd, match("p", "", 3, 5)}, api.Tally{Query: "p", Matches: 1, Lost: 1, Least: 5, Most: 5, Keys: 2})
	if !emit.SameAll(l[:1], []api.Out{match("pp", "k", 7, 0)}) {
		t.Error("what was handed in was changed")
	}
}

func TestKeys(t *testing.T) {
	if got := tally.Keys(things()); !slices.Equal(got, []string{"a", "k", "l", "m"}) {
		t.Errorf("got %v", got)
	}
	if got := tally.Keys([]api.Out{match("p", "b", 1, 1), match("p", "", 1, 1), match("p", "B", 1, 1), lost("p", "b", 1)}); !slices.Equal(got, []string{"", "B", "b"}) {
		t.Errorf("got %v", got)
	}
}

func TestBetween(t *testing.T) {
	l := things()
	for _, c := range []struct {
		from, to int64
		want     []api.Out
	}{
		{1, 7, l}, {math.MinInt64, math.MaxInt64, l}, {2, 3, l[1:5]}, {2, 2, l[1:3]}, {3, 2, nil}, {5, 6, nil}, {7, 9, l[7:]}, {-9, 1, l[:1]}, {8, math.MaxInt64, nil}, {math.MaxInt64, math.MinInt64, nil},
	} {
		if got := tally.Between(l, c.from, c.to); !emit.SameAll(got, c.want) {
			t.Errorf("%d, %d: got %v, want %v", c.from, c.to, got, c.want)
		}
	}
	// They are told in the order in which they are there.
	l = []api.Out{match("p", "k", 9, 1), match("p", "k", 3, 1), match("p", "k", 12, 1), match("p", "k", 5, 1)}
	if got := tally.Between(l, 3, 9); !emit.SameAll(got, []api.Out{l[0], l[1], l[3]}) {
		t.Errorf("got %v", got)
	}
	tally.Between(l, 3, 9)[0].Pairs[0].Seq = 77
	if l[0].Pairs[0].Seq != 5 {
		t.Error("what was handed in was changed")
	}
	far := []api.Out{match("p", "k", math.MinInt64, 1), match("p", "k", math.MaxInt64, 1)}
	if got := tally.Between(far, math.MinInt64, math.MinInt64); !emit.SameAll(got, far[:1]) {
		t.Errorf("got %v", got)
	}
}

func TestShow(t *testing.T) {
	for want, l := range map[string][]api.Tally{
		"p 3 0 2 4 2\n":                {{Query: "p", Matches: 3, Least: 2, Most: 4, Keys: 2}},
		"p 1 2 3 4 5\n 0 0 0 0 0\n":    {{Query: "p", Matches: 1, Lost: 2, Least: 3, Most: 4, Keys: 5}, {}},
		"q -1 10 0 0 0\np 0 0 0 0 7\n": {{Query: "q", Matches: -1, Lost: 10}, {Query: "p", Keys: 7}},
	} {
		if got := tally.Show(l); got != want {
			t.Errorf("got %q, want %q", got, want)
		}
	}
	if got := tally.Show(tally.Of(things())); got != "p 3 1 2 4 2\npp 1 0 0 0 1\nq 2 0 3 3 1\nr 0 2 0 0 2\n" {
		t.Errorf("got %q", got)
	}
}

func TestHas(t *testing.T) {
	o := api.Out{Kind: api.OutMatch, Seq: 9, Pairs: sample.Pairs(0, 3, 1, 7, 1, -2)}
	for seq, want := range map[int64]bool{3: true, 7: true, -2: true, 0: false, 1: false, 9: false, 4: false, math.MaxInt64: false} {
		if got := tally.Has(o, seq); got != want {
			t.Errorf("%d: got %v", seq, got)
		}
	}
	if tally.Has(api.Out{}, 0) || tally.Has(lost("p", "k", 3), 3) {
		t.Error("what has no pairs has a number")
	}
}

func TestEvery(t *testing.T) {
	l := things()
	for _, c := range []struct {
		from, long int64
		many       int
		want       []int
	}{
		{0, 1, 9, []int{0, 1, 2, 2, 2, 0, 0, 2, 0}},
		{1, 2, 4, []int{3, 4, 0, 2}},
		{2, 3, 1, []int{6}},
		{2, 3, 2, []int{6, 2}},
		{0, 100, 2, []int{9, 0}},
		{8, 1, 2, []int{0, 0}},
		{0, 1, 0, nil},
		{0, 1, -1, nil},
		{0, 1, math.MinInt, nil},
		// A stretch is of one time at least.
		{1, 0, 3, []int{1, 2, 2}},
		{1, -5, 3, []int{1, 2, 2}},
		{1, math.MinInt64, 3, []int{1, 2, 2}},
		{-5, 6, 2, []int{0, 7}},
		{math.MinInt64, math.MaxInt64, 3, []int{0, 9, 0}},
		{math.MinInt64, 1, 3, []int{0, 0, 0}},
		{math.MaxInt64, math.MaxInt64, 2, []int{0, 0}},
		{math.MinInt64 + 4, math.MaxInt64, 3, []int{3, 6, 0}},
	} {
		if got := tally.Every(l, c.from, c.long, c.many); !slices.Equal(got, c.want) {
			t.Errorf("%d, %d, %d: got %v, want %v", c.from, c.long, c.many, got, c.want)
		}
	}
	for many, want := range map[int]int{999: 999, 1000: 1000, 1001: 1000, math.MaxInt: 1000} {
		if got := tally.Every(l, 0, 1, many); len(got) != want {
			t.Errorf("%d: got %d", many, len(got))
		}
	}
	far := []api.Out{match("p", "k", math.MinInt64, 1), match("p", "k", -1, 1), match("p", "k", math.MaxInt64, 1)}
	if got := tally.Every(far, math.MinInt64, math.MaxInt64, 4); !slices.Equal(got, []int{1, 1, 1, 0}) {
		t.Errorf("got %v", got)
	}
}
