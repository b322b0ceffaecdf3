// Package sample is what tests of more than one package are made of: no layer calls it.
package sample

import (
	"slices"
	"strconv"
	"strings"

	"lamplighter/api"
	"lamplighter/event"
	"lamplighter/pat"
	"lamplighter/ppat"
	"lamplighter/schema"
	"lamplighter/value"
)

// Schema is one in which A, B and C have a number x.
func Schema() *schema.Schema {
	x := []api.Field{{Name: "x", Kind: api.Int}}
	s, _ := schema.New([]api.Type{{Name: "A", Fields: x}, {Name: "B", Fields: x}, {Name: "C", Fields: x}})
	return s
}

// Query is the query of a text; whether it may be is not asked.
func Query(text string) api.Query {
	q, e := ppat.Parse(text)
	if e != api.OK {
		// The test that asks for it is wrong itself: it should not go on with nothing.
		panic("no query: " + text)
	}
	return q
}

// Event is an event of a type, with an x.
func Event(kind, key string, time, seq, x int64) api.Event {
	return api.Event{Type: kind, Key: key, Time: time, Seq: seq, Vals: []api.Value{value.Num(x)}}
}

// Pairs is a list of pairs, from elements and numbers that take turns.
func Pairs(l ...int64) []api.Pair {
	var m []api.Pair
	for i := 0; i+1 < len(l); i += 2 {
		m = append(m, api.Pair{Elem: int(l[i]), Seq: l[i+1]})
	}
	return m
}

// SameSaved tells whether two runs that are kept elsewhere are alike, and what variables stand for; SameSlot, two matchers; SameImage, two engines.
func SameSaved(a, b api.Saved) bool {
	return a.State == b.State && slices.Equal(a.Pairs, b.Pairs) && slices.EqualFunc(a.Env, b.Env, sameBound) &&
		a.First == b.First && a.Last == b.Last && a.Blocked == b.Blocked
}

func SameSlot(a, b api.Slot) bool {
	return a.Key == b.Key && a.Place == b.Place && slices.EqualFunc(a.Runs, b.Runs, SameSaved)
}

func SameImage(a, b api.Image) bool {
	return a.Mark == b.Mark && a.Closed == b.Closed && slices.EqualFunc(a.Entries, b.Entries, sameEntry) &&
		slices.EqualFunc(a.Events, b.Events, event.Same) && slices.EqualFunc(a.Slots, b.Slots, SameSlot)
}

// Dice draws by a rule.
type Dice uint64

// Below is a number from 0 on, below another one.
func (d *Dice) Below(n int) int {
	*d = *d*2862933555777941757 + 3037000493
	return int(*d >> 35 % Dice(n))
}

// Pick is one of some texts.
func (d *Dice) Pick(l ...string) string { return l[d.Below(len(l))] }

// Query is the text of a query that may be, of one to four elements, some of which in the middle must not be there, within so much at most.
func (d *Dice) Query(window int) string {
	names := []string{"a", "b", "c", "d"}[:1+d.Below(4)]
	var elems, preds, once []string
	for i, name := range names {
		not, often := "", d.Pick("", "", "{1,2}", "{2,3}", "{1,4}")
		if i > 0 && i < len(names)-1 && d.Below(2) == 0 {
			not, often = "!", ""
		}
		elems = append(elems, not+d.Pick("A", "B", "C", "(A|B)", "(A|B|C)")+" "+name+often)
		if other := d.Pick(names[:i+1]...); d.Below(2) == 0 && (other == name || slices.Contains(once, other)) {
			preds = append(preds, name+": "+name+".x "+d.Pick("=", "!=", "<", ">=")+" "+other+".x + "+d.Pick("0", "1"))
		}
		if not == "" && often == "" {
			once = append(once, name)
		}
	}
	s := "SEQ(" + strings.Join(elems, ", ") + ")"
	if len(preds) > 0 {
		s += " WHERE " + strings.Join(preds, "; ")
	}
	return s + " WITHIN " + strconv.Itoa(1+d.Below(window))
}

func sameEntry(a, b api.Entry) bool {
	return a.Id == b.Id && pat.Same(a.Q, b.Q) && a.From == b.From && a.To == b.To
}

func sameBound(a, b api.Bound) bool { return a.Var == b.Var && event.Same(a.E, b.E) }
