package truth

import (
	"slices"

	"lamplighter/api"
	"lamplighter/eval"
	"lamplighter/event"
	"lamplighter/num"
	"lamplighter/pat"
	"lamplighter/schema"
)

// ground is what pairs are told of.
type ground struct {
	types  *schema.Schema
	query  api.Query
	events []api.Event
}

// place is where the first event of a pair's number stands; -1: there is none.
func (g ground) place(p api.Pair) int {
	return slices.IndexFunc(g.events, func(e api.Event) bool { return e.Seq == p.Seq })
}

// event is the event that a pair's element stands for, if there is one.
func (g ground) event(p api.Pair) api.Event { return g.events[g.place(p)] }

// must tells whether there is an element of a place that must be there.
func (g ground) must(at int) bool {
	return at >= 0 && at < len(g.query.Elems) && !g.query.Elems[at].Neg
}

// ahead is what variables stand for ahead of an element.
func (g ground) ahead(m []api.Pair, at int) []api.Bound {
	var l []api.Bound
	for _, p := range m {
		if p.Elem < at && g.must(p.Elem) && g.query.Elems[p.Elem].Max == 1 && g.place(p) >= 0 {
			l = append(l, api.Bound{Var: g.query.Elems[p.Elem].Var, E: g.event(p)})
		}
	}
	return l
}

// fits tells whether an element, which there is, can stand for an event, behind pairs.
func (g ground) fits(m []api.Pair, at int, e api.Event) bool {
	x := g.query.Elems[at]
	if !slices.Contains(x.Types, e.Type) {
		return false
	}
	if len(x.Pred) == 0 {
		return true
	}
	// Its own variable first: the first of one name counts.
	own := []api.Bound{{Var: x.Var, E: e}}
	return eval.Holds(g.types, x.Pred, append(own, g.ahead(m, at)...))
}

// ordered tells whether elements and events of pairs are in order, and elements there as often as they must.
func (g ground) ordered(m []api.Pair) bool {
	for i, p := range m {
		if !g.must(p.Elem) || g.place(p) < 0 {
			return false
		}
		if i > 0 && (m[i-1].Elem > p.Elem || !event.Before(g.event(m[i-1]), g.event(p))) {
			return false
		}
	}
	return g.whole(m)
}

// whole tells whether each element that must be there is, as often as it must.
func (g ground) whole(m []api.Pair) bool {
	for at, x := range g.query.Elems {
		if !x.Neg && !often(x, times(m, at)) {
			return false
		}
	}
	return true
}

// often tells whether an element may stand for so many events.
func often(x api.Elem, many int) bool { return many >= x.Min && many <= x.Max }

// times is for how many events an element stands.
func times(m []api.Pair, at int) int {
	many := 0
	for _, p := range m {
		if p.Elem == at {
			many++
		}
	}
	return many
}

// fitting tells whether the element of each pair can stand for its event.
func (g ground) fitting(m []api.Pair) bool {
	return !slices.ContainsFunc(m, func(p api.Pair) bool { return !g.fits(m, p.Elem, g.event(p)) })
}

// guarded tells whether nothing stands between pairs that must not be there.
func (g ground) guarded(m []api.Pair) bool {
	for i := 1; i < len(m); i++ {
		if !g.free(m, m[i-1], m[i].Elem, g.event(m[i])) {
			return false
		}
	}
	return true
}

// free tells whether no event stands between that of a pair and that of an element behind it for which one can stand that must not be there.
func (g ground) free(m []api.Pair, last api.Pair, at int, e api.Event) bool {
	for between := last.Elem + 1; between < at; between++ {
		if !g.query.Elems[between].Neg {
			continue
		}
		for _, x := range g.events {
			if event.Before(g.event(last), x) && event.Before(x, e) && g.fits(m, between, x) {
				return false
			}
		}
	}
	return true
}

// near tells whether two events, the first of which is not behind the other, are within the window.
func (g ground) near(first, last api.Event) bool {
	apart, ok := num.Sub(last.Time, first.Time)
	// What is no number is too great for any window.
	return ok && apart <= g.query.Window
}

// grown is all matches that begin with pairs, and are longer, behind others; the events are in order.
func (g ground) grown(m []api.Pair, all [][]api.Pair) [][]api.Pair {
	from := 0
	if len(m) > 0 {
		from = g.place(m[len(m)-1]) + 1
	}
	for _, at := range g.onward(m) {
		for i := from; i < len(g.events); i++ {
			if g.place(api.Pair{Seq: g.events[i].Seq}) != i || !g.goesOn(m, at, g.events[i]) {
				continue
			}
			// Cut with its room: others go on from the same pairs.
			more := append(m[:len(m):len(m)], api.Pair{Elem: at, Seq: g.events[i].Seq})
			if g.whole(more) {
				all = append(all, more)
			}
			all = g.grown(more, all)
		}
	}
	return all
}

// onward is the elements that the pair behind some pairs may have, if these are to become a match.
func (g ground) onward(m []api.Pair) []int {
	var l []int
	at := -1
	if len(m) > 0 {
		at = m[len(m)-1].Elem
		many, x := times(m, at), g.query.Elems[at]
		if many < x.Max {
			l = append(l, at)
		}
		if many < x.Min {
			return l
		}
	}
	for at = pat.Next(g.query, at); at >= 0; at = pat.Next(g.query, at) {
		l = append(l, at)
		if !often(g.query.Elems[at], 0) {
			break
		}
	}
	return l
}

// goesOn tells whether an element can stand for an event, behind pairs and their events, so that nothing stands between that must not, within the window.
func (g ground) goesOn(m []api.Pair, at int, e api.Event) bool {
	if len(m) == 0 {
		return g.fits(m, at, e) && g.near(e, e)
	}
	return g.fits(m, at, e) && g.near(g.event(m[0]), e) && g.free(m, m[len(m)-1], at, e)
}
