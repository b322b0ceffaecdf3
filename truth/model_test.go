package truth_test

import (
	"slices"
	"testing"

	"lamplighter/api"
	"lamplighter/eval"
	"lamplighter/sample"
	"lamplighter/schema"
	"lamplighter/truth"
)

// events draws events in their order, with numbers that do not rise as the times do.
func events(d *sample.Dice) []api.Event {
	many := d.Below(7)
	seqs := []int64{5, 3, 8, 1, 9, 2, 7}
	var l []api.Event
	for i := range many {
		l = append(l, at(d.Pick("A", "B", "C"), int64(i+d.Below(2)*i), seqs[i], int64(d.Below(3))))
	}
	slices.SortFunc(l, func(a, b api.Event) int {
		if a.Time != b.Time {
			return int(a.Time - b.Time)
		}
		return int(a.Seq - b.Seq)
	})
	return l
}

// model tells of places of events, in order, and an element each, whether they are a match, as the chapter tells it.
type model struct {
	s *schema.Schema
	q api.Query
	l []api.Event
}

func (x model) match(places, elems []int) bool {
	for i, e := range x.q.Elems {
		many := 0
		for _, at := range elems {
			if at == i {
				many++
			}
		}
		if !e.Neg && (many < e.Min || many > e.Max) || e.Neg && many > 0 {
			return false
		}
	}
	for i, at := range elems {
		if i > 0 && elems[i-1] > at || !x.such(places, elems, at, places[i]) {
			return false
		}
		for between := range at {
			if i == 0 || between <= elems[i-1] || !x.q.Elems[between].Neg {
				continue
			}
			for place := places[i-1] + 1; place < places[i]; place++ {
				if x.such(places, elems, between, place) {
					return false
				}
			}
		}
	}
	return x.l[places[len(places)-1]].Time-x.l[places[0]].Time <= x.q.Window
}

// such tells whether an element can stand for the event of a place.
func (x model) such(places, elems []int, at, place int) bool {
	e := x.q.Elems[at]
	env := []api.Bound{{Var: e.Var, E: x.l[place]}}
	for i, ahead := range elems {
		if ahead < at && x.q.Elems[ahead].Max == 1 {
			env = append(env, api.Bound{Var: x.q.Elems[ahead].Var, E: x.l[places[i]]})
		}
	}
	return slices.Contains(e.Types, x.l[place].Type) && eval.Holds(x.s, e.Pred, env)
}

// all is all matches: of all lists of events in order, and an element each.
func (x model) all() [][]api.Pair {
	var all [][]api.Pair
	var grow func(places, elems []int)
	grow = func(places, elems []int) {
		from := 0
		if len(places) > 0 {
			from = places[len(places)-1] + 1
			if x.match(places, elems) {
				var m []api.Pair
				for i, place := range places {
					m = append(m, api.Pair{Elem: elems[i], Seq: x.l[place].Seq})
				}
				all = append(all, m)
			}
		}
		for place := from; place < len(x.l); place++ {
			for at := range x.q.Elems {
				grow(append(slices.Clone(places), place), append(slices.Clone(elems), at))
			}
		}
	}
	grow(nil, nil)
	slices.SortFunc(all, truth.Compare)
	return all
}

// TestAgainstTheModel holds all matches of drawn queries in drawn events.
func TestAgainstTheModel(t *testing.T) {
	s, d, found, none := sample.Schema(), sample.Dice(1), 0, 0
	for range 1500 {
		text := d.Query(8)
		q, l := read(t, text), events(&d)
		want := model{s, q, l}.all()
		got := truth.All(s, q, l)
		if !sameAll(got, want) {
			t.Fatalf("%s in %v: got %v, want %v", text, l, got, want)
		}
		for _, m := range got {
			if !truth.Match(s, q, l, m) {
				t.Fatalf("%s in %v: %v is no match", text, l, m)
			}
		}
		if len(got) > 0 {
			found++
		} else {
			none++
		}
	}
	if found < 300 || none < 300 {
		t.Errorf("%d with matches, %d without", found, none)
	}
}

// TestMatchAgainstAll holds that all short lists of pairs that are not among all matches are none.
func TestMatchAgainstAll(t *testing.T) {
	s, d := sample.Schema(), sample.Dice(7)
	for range 40 {
		text := d.Query(8)
		q, l := read(t, text), events(&d)
		all := truth.All(s, q, l)
		lists := [][]api.Pair{nil}
		for from := 0; from < len(lists); from++ {
			m := lists[from]
			_, want := slices.BinarySearchFunc(all, m, truth.Compare)
			if got := truth.Match(s, q, l, m); got != want {
				t.Fatalf("%s in %v: Match of %v: got %v", text, l, m, got)
			}
			if len(m) < 3 {
				for at := -1; at <= len(q.Elems); at++ {
					for _, seq := range []int64{1, 2, 3, 5, 7, 8} {
						lists = append(lists, append(slices.Clone(m), api.Pair{Elem: at, Seq: seq}))
					}
				}
			}
		}
	}
}
