package match_test

import (
	"slices"
	"strconv"
	"strings"
	"testing"

	"lamplighter/api"
	"lamplighter/event"
	"lamplighter/match"
	"lamplighter/truth"
)

// dice draws numbers by a rule.
type dice uint64

func (d *dice) below(n int) int {
	*d = *d*2862933555777941757 + 3037000493
	return int(*d >> 35 % dice(n))
}

func (d *dice) pick(l ...string) string { return l[d.below(len(l))] }

// text draws the text of a query that may be, of one to four elements, with room for so many runs.
func (d *dice) text(room int) string {
	names := []string{"a", "b", "c", "d"}[:1+d.below(4)]
	once := map[string]bool{}
	var elems, preds []string
	for i, name := range names {
		not, often := "", d.pick("", "", "{1,2}", "{2,3}", "{1,4}")
		if i > 0 && i < len(names)-1 && d.below(2) == 0 {
			not, often = "!", ""
		}
		elems = append(elems, not+d.pick("A", "B", "C", "(A|B)", "(A|B|C)")+" "+name+often)
		if other := d.pick(names[:i+1]...); d.below(2) == 0 && (other == name || once[other]) {
			preds = append(preds, name+": "+name+".x "+d.pick("=", "!=", "<", ">=")+" "+other+".x + "+d.pick("0", "1"))
		}
		once[name] = not == "" && often == ""
	}
	s := "SEQ(" + strings.Join(elems, ", ") + ")"
	if len(preds) > 0 {
		s += " WHERE " + strings.Join(preds, "; ")
	}
	return s + " WITHIN " + strconv.Itoa(1+d.below(12)) + " CAP " + strconv.Itoa(room)
}

// events draws so many events in their order, with numbers that do not rise as the times do.
func (d *dice) events(many int) []api.Event {
	seqs := []int64{5, 3, 8, 1, 9, 2, 7, 12, 4, 11}
	var l []api.Event
	for i := range many {
		l = append(l, at(d.pick("A", "B", "C"), int64(i+d.below(3)), seqs[i], int64(d.below(3))))
	}
	return event.Sort(l)
}

// TestAllMatches holds that just the matches that end with each event are told, in their order, where there is room for all runs.
func TestAllMatches(t *testing.T) {
	s, d := types(t), dice(1)
	told := 0
	for range 4000 {
		text := d.text(api.MaxCap)
		q, l := read(t, text), d.events(d.below(9))
		all := truth.All(s, q, l)
		x := match.New(s, q)
		for _, e := range l {
			got, lost := x.Feed(e)
			if want := truth.Ends(all, e.Seq); !sameAll(got, want) || lost {
				t.Fatalf("%s in %v at %d: got %v, %v, want %v", text, l, e.Seq, got, lost, want)
			}
			told += len(got)
		}
	}
	if told < 1000 {
		t.Errorf("only %d matches were drawn", told)
	}
}

// TestFewRuns holds that with little room only matches are told, each once, by the event that ends them; all of them, as long as no runs were lost; and that no more runs are kept than there may be.
func TestFewRuns(t *testing.T) {
	s, d := types(t), dice(2)
	missed := 0
	for range 4000 {
		text := d.text(1 + d.below(4))
		q, l := read(t, text), d.events(d.below(9))
		all := truth.All(s, q, l)
		x, whole := match.New(s, q), true
		for _, e := range l {
			got, lost := x.Feed(e)
			want := truth.Ends(all, e.Seq)
			if whole && !sameAll(got, want) || !rises(got) || !among(got, want) || x.Live() > q.Cap {
				t.Fatalf("%s in %v at %d: got %v, want %v; %d runs", text, l, e.Seq, got, want, x.Live())
			}
			missed += len(want) - len(got)
			// What ends with the event by which runs are lost is told all the same.
			whole = whole && !lost
		}
	}
	if missed < 1000 {
		t.Errorf("only %d matches were missed", missed)
	}
}

// rises tells whether each match is ahead of the next one.
func rises(l [][]api.Pair) bool {
	for i := 1; i < len(l); i++ {
		if truth.Compare(l[i-1], l[i]) >= 0 {
			return false
		}
	}
	return true
}

// among tells whether all matches are some of others.
func among(l, others [][]api.Pair) bool {
	for _, m := range l {
		if !slices.ContainsFunc(others, func(o []api.Pair) bool { return slices.Equal(m, o) }) {
			return false
		}
	}
	return true
}

// TestGoesOnElsewhere holds that a matcher that was kept elsewhere at any time goes on as the other one.
func TestGoesOnElsewhere(t *testing.T) {
	s, d := types(t), dice(3)
	for range 1000 {
		text := d.text(1 + d.below(8))
		q, l := read(t, text), d.events(d.below(9))
		x, y := match.New(s, q), match.New(s, q)
		for _, e := range l {
			got, lost := x.Feed(e)
			other, too := y.Feed(e)
			if !sameAll(got, other) || lost != too || !sameSaves(x.Save(), y.Save()) {
				t.Fatalf("%s in %v at %d: got %v, %v, and %v, %v", text, l, e.Seq, got, lost, other, too)
			}
			y = match.Load(s, q, y.Save())
		}
	}
}
