package drill

import (
	"strings"

	"lamplighter/num"
	"lamplighter/value"
)

// Query draws a query's text, that may be.
func (d *Dice) Query() string {
	q := query{Dice: d}
	many := 1 + d.Below(len(names))
	for at := range many {
		q.elem(names[at:at+1], at > 0 && at < many-1)
	}
	s := "SEQ(" + strings.Join(q.elems, ", ") + ")"
	if len(q.preds) > 0 {
		s += " WHERE " + strings.Join(q.preds, "; ")
	}
	s += " WITHIN " + d.digits(1, 20)
	if d.Below(4) == 0 {
		s += " CAP " + d.digits(1, 5)
	}
	return s
}

// The elements' variables, in order, of one letter each.
const names = "abcd"

// query is a query that is drawn: its elements and predicates so far, and the variables that stand for one event.
type query struct {
	*Dice
	elems []string
	preds []string
	once  []string
}

// elem draws an element of a name; inner: it may be one that must not be there.
func (q *query) elem(name string, inner bool) {
	types, truth := q.types()
	neg := inner && q.Below(2) == 0
	often := ""
	if !neg {
		often = q.pick("", "", "", "{1,2}", "{2,2}", "{1,4}")
	}
	s := types + " " + name + often
	if neg {
		s = "!" + s
	}
	q.elems = append(q.elems, s)
	if q.Below(2) == 0 {
		q.preds = append(q.preds, name+": "+q.pred(name, truth))
	}
	if !neg && often == "" {
		q.once = append(q.once, name)
	}
}

// types draws an element's types, and whether all of them have a truth.
func (q *query) types() (string, bool) {
	if q.Below(3) > 0 {
		one := q.typeName()
		return one, one == withTruth
	}
	return q.pick("(A|B)", "(A|C)", "(C|B)", "(A|B|C)"), false
}

// pred draws a predicate of a variable, which has a truth or not.
func (q *query) pred(name string, truth bool) string {
	one := q.part(name, truth)
	if q.Below(3) > 0 {
		return one
	}
	return one + q.pick(" and ", " or ") + q.part(name, truth)
}

// part draws one of the parts of which a predicate is.
func (q *query) part(name string, truth bool) string {
	switch q.Below(5) {
	case 0:
		return name + ".s " + q.pick("=", "!=", "<", ">=") + " " + value.Quote(q.text())
	case 1:
		if truth {
			return q.pick("", "not ") + name + ".b"
		}
	case 2:
		if len(q.once) > 0 {
			return name + ".s " + q.pick("=", "!=") + " " + q.pick(q.once...) + ".s"
		}
	case 3:
		if len(q.once) > 0 {
			return name + ".x " + q.pick("=", "<", ">=") + " " + q.pick(q.once...) + ".x" + q.pick("", " + 1", " - 1", " * 2")
		}
	}
	return name + ".x " + q.pick("=", "!=", "<", "<=", ">", ">=") + " " + q.digits(0, 4)
}

// digits draws a number's text, between two.
func (d *Dice) digits(least, most int) string {
	return num.Digits(int64(least + d.Below(most-least+1)))
}
