package match_test

import (
	"slices"
	"strconv"
	"testing"

	"lamplighter/api"
	"lamplighter/event"
	"lamplighter/match"
	"lamplighter/sample"
	"lamplighter/truth"
)

// events draws so many events in their order, with numbers that do not rise as the times do.
func events(d *sample.Dice, many int) []api.Event {
	seqs := []int64{5, 3, 8, 1, 9, 2, 7, 12, 4, 11}
	var l []api.Event
	for i := range many {
		l = append(l, at(d.Pick("A", "B", "C"), int64(i+d.Below(3)), seqs[i], int64(d.Below(3))))
	}
	return event.Sort(l)
}

// TestAllMatches holds that just the matches that end with each event are told, in their order, where there is room for all runs.
func TestAllMatches(t *testing.T) {
	s, d := sample.Schema(), sample.Dice(1)
	told := 0
	for range 4000 {
		text := d.Query(12) + " CAP " + strconv.Itoa(api.MaxCap)
		q, l := sample.Query(text), events(&d, d.Below(9))
		all := truth.All(s, q, l)
		x := match.New(s, q)
		for _, e := range l {
			got, lost := x.Feed(e)
			if want := truth.Ends(all, e.Seq); !sameAll(got, want) || lost {
				t.Fatalf("%s in %v at %d: got %v, %v, want %v", text, l, e.Seq, got, lost, want)
			}
			told += len(got)
		}
	}
	if told < 1000 {
		t.Errorf("only %d matches were drawn", told)
	}
}

// TestFewRuns holds that with little room only matches are told, each once, by the event that ends them; all of them, as long as no runs were lost; and that no more runs are kept than there may be.
func TestFewRuns(t *testing.T) {
	s, d := sample.Schema(), sample.Dice(2)
	missed := 0
	for range 4000 {
		text := d.Query(12) + " CAP " + strconv.Itoa(1+d.Below(4))
		q, l := sample.Query(text), events(&d, d.Below(9))
		all := truth.All(s, q, l)
		x, whole := match.New(s, q), true
		for _, e := range l {
			got, lost := x.Feed(e)
			want := truth.Ends(all, e.Seq)
			if whole && !sameAll(got, want) || !rises(got) || !among(got, want) || x.Live() > q.Cap {
				t.Fatalf("%s in %v at %d: got %v, want %v; %d runs", text, l, e.Seq, got, want, x.Live())
			}
			missed += len(want) - len(got)
			// What ends with the event by which runs are lost is told all the same.
			whole = whole && !lost
		}
	}
	if missed < 1000 {
		t.Errorf("only %d matches were missed", missed)
	}
}

// rises tells whether each match is ahead of the next one.
func rises(l [][]api.Pair) bool {
	for i := 1; i < len(l); i++ {
		if truth.Compare(l[i-1], l[i]) >= 0 {
			return false
		}
	}
	return true
}

// among tells whether all matches are some of others.
func among(l, others [][]api.Pair) bool {
	for _, m := range l {
		if !slices.ContainsFunc(others, func(o []api.Pair) bool { return slices.Equal(m, o) }) {
			return false
		}
	}
	return true
}

// TestGoesOnElsewhere holds that a matcher that was kept elsewhere at any time goes on as the other one.
func TestGoesOnElsewhere(t *testing.T) {
	s, d := sample.Schema(), sample.Dice(3)
	for range 1000 {
		text := d.Query(12) + " CAP " + strconv.Itoa(1+d.Below(8))
		q, l := sample.Query(text), events(&d, d.Below(9))
		x, y := match.New(s, q), match.New(s, q)
		for _, e := range l {
			got, lost := x.Feed(e)
			other, too := y.Feed(e)
			if !sameAll(got, other) || lost != too || !sameSaves(x.Save(), y.Save()) {
				t.Fatalf("%s in %v at %d: got %v, %v, and %v, %v", text, l, e.Seq, got, lost, other, too)
			}
			y = match.Load(s, q, y.Save())
		}
	}
}
