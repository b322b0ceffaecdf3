package engine_test

import (
	"slices"
	"strconv"
	"testing"

	"lamplighter/api"
	"lamplighter/emit"
	"lamplighter/engine"
	"lamplighter/event"
	"lamplighter/sample"
	"lamplighter/schema"
	"lamplighter/table"
	"lamplighter/truth"
)

// message draws a message under a number, around a time.
func message(d *sample.Dice, ticket, time int64, room int) api.Msg {
	kind := d.Below(8)
	switch {
	case ticket == 1 || kind == 0:
		return register(ticket, d.Pick("p", "q", "r"), d.Query(5)+" CAP "+strconv.Itoa(room))
	case kind == 1:
		return unregister(ticket, d.Pick("p", "q", "r"))
	case kind == 2:
		return advance(time + int64(d.Below(5)))
	}
	return put(at(d.Pick("A", "B", "C"), d.Pick("k", "l"), time+int64(d.Below(9))-2, ticket))
}

// model is what an engine should know: all events and queries that it took, and up to when all is known.
type model struct {
	s       *schema.Schema
	mark    int64
	events  []api.Event
	entries []api.Entry
}

// open is the place of the query that is registered by a name; -1: there is none.
func (x *model) open(id string) int {
	return slices.IndexFunc(x.entries, func(e api.Entry) bool { return e.Id == id && e.To == 0 })
}

// take notes a message: what should be told, if no runs are lost.
func (x *model) take(m api.Msg) []api.Out {
	switch m.Kind {
	case api.MsgEvent:
		if m.E.Time > x.mark {
			x.events = append(x.events, m.E)
		}
	case api.MsgRegister:
		if x.open(m.Id) < 0 && len(x.entries) < api.MaxQueries {
			x.entries = append(x.entries, api.Entry{Id: m.Id, Q: m.Q, From: m.Ticket})
		}
	case api.MsgUnregister:
		if i := x.open(m.Id); i >= 0 {
			x.entries[i].To = m.Ticket
		}
	case api.MsgAdvance:
		from := x.mark
		x.mark = max(x.mark, m.T)
		return x.told(from, x.mark)
	}
	return nil
}

// told is what should be told of events behind a time, up to another one.
func (x *model) told(from, to int64) []api.Out {
	var l []api.Out
	for place, q := range x.entries {
		for _, e := range x.events {
			if e.Time <= from || e.Time > to || !table.Sees(q, e.Seq) {
				continue
			}
			for _, m := range truth.Ends(truth.All(x.s, q.Q, x.seen(q, e)), e.Seq) {
				l = append(l, api.Out{Kind: api.OutMatch, Query: q.Id, Place: place, Key: e.Key, Time: e.Time, Seq: e.Seq, Pairs: m})
			}
		}
	}
	return emit.Sort(l)
}

// seen is the events of a key that a query sees up to one of them, which are near it.
func (x *model) seen(q api.Entry, e api.Event) []api.Event {
	var l []api.Event
	for _, y := range x.events {
		if y.Key == e.Key && table.Sees(q, y.Seq) && !event.Before(e, y) && y.Time >= e.Time-q.Q.Window {
			l = append(l, y)
		}
	}
	return l
}

// TestAllIsTold holds that an engine tells all matches of the events that its queries see, each when it is known, in one order; and that it may be kept elsewhere at any time.
func TestAllIsTold(t *testing.T) {
	s, d := sample.Schema(), sample.Dice(1)
	told := 0
	for range 1000 {
		x, kept, y := engine.New(s), engine.New(s), &model{s: s, mark: -1}
		for ticket := range int64(30) {
			m := message(&d, ticket+1, max(y.mark, 0), api.MaxCap)
			want := y.take(m)
			got, e := x.Take(m)
			if !emit.SameAll(got, want) || !emit.Strict(got) || !x.Within() || x.Mark().At() != y.mark {
				t.Fatalf("%v: got %d, %d things, want %d", m, e, len(got), len(want))
			}
			if other, too := kept.Take(m); !emit.SameAll(other, got) || too != e {
				t.Fatalf("kept elsewhere: %v: got %d, %d things, want %d", m, too, len(other), len(got))
			}
			i := kept.Save()
			if !sample.SameImage(i, x.Save()) {
				t.Fatalf("kept elsewhere: got %v, want %v", i, x.Save())
			}
			if kept, e = engine.Load(s, i); e != api.OK {
				t.Fatalf("kept elsewhere: %d", e)
			}
			told += len(got)
		}
	}
	if told < 1000 {
		t.Errorf("only %d were drawn", told)
	}
}

// TestFewRuns holds that with little room what is told are such matches, each once, and that runs were lost.
func TestFewRuns(t *testing.T) {
	s, d := sample.Schema(), sample.Dice(2)
	losses := 0
	for range 300 {
		x, y := engine.New(s), &model{s: s, mark: -1}
		var got, want []api.Out
		for ticket := range int64(30) {
			m := message(&d, ticket+1, max(y.mark, 0), 1+d.Below(3))
			want = append(want, y.take(m)...)
			l, _ := x.Take(m)
			got = append(got, l...)
		}
		if !emit.Strict(got) || !x.Within() {
			t.Fatalf("got %v", got)
		}
		for _, o := range got {
			if o.Kind == api.OutLost {
				losses++
			} else if !slices.ContainsFunc(want, func(w api.Out) bool { return emit.Same(o, w) }) {
				t.Fatalf("%v is none of %v", o, want)
			}
		}
	}
	if losses < 100 {
		t.Errorf("only %d losses were drawn", losses)
	}
}
