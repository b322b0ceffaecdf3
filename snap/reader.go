package snap

import (
	"lamplighter/api"
	"lamplighter/codec"
	"lamplighter/schema"
	"lamplighter/show"
)

// reader takes an image's parts.
type reader struct {
	*codec.Reader
	types *schema.Schema
	// Takes the next number.
	number func() int64
}

// read takes bytes from the first one on.
func read(s *schema.Schema, b []byte) *reader {
	r := codec.Read(b)
	return &reader{Reader: r, types: s, number: r.Int}
}

func (r *reader) image() api.Image {
	if r.Text() != api.SnapMark {
		r.Wrong(api.ErrForm)
	}
	return api.Image{
		Mark:    r.number(),
		Closed:  r.Truth(),
		Entries: takeAll(r, leastEntry, r.entry),
		Events:  takeAll(r, leastEvent, r.Event),
		Slots:   takeAll(r, leastSlot, r.slot),
	}
}

func (r *reader) entry() api.Entry {
	return api.Entry{Id: r.Text(), Q: r.query(), From: r.number(), To: r.number()}
}

// query takes a query, which stands there just as it is written.
func (r *reader) query() api.Query {
	text := r.Text()
	q, e := show.Read(r.types, text)
	if e != api.OK || show.Query(q) != text {
		r.Wrong(api.ErrForm)
		return api.Query{}
	}
	return q
}

func (r *reader) slot() api.Slot {
	return api.Slot{Key: r.Text(), Place: int(r.number()), Runs: takeAll(r, leastRun, r.run)}
}

func (r *reader) run() api.Saved {
	return api.Saved{
		State:   int(r.number()),
		Pairs:   r.Pairs(),
		Env:     takeAll(r, leastBound, r.bound),
		First:   r.number(),
		Last:    api.Stamp{Time: r.number(), Seq: r.number()},
		Blocked: r.Truth(),
	}
}

func (r *reader) bound() api.Bound { return api.Bound{Var: r.Text(), E: r.Event()} }

// How many bytes things have at least.
const (
	leastEntry = 4
	leastEvent = 5
	leastSlot  = 3
	leastRun   = 7
	leastBound = 1 + leastEvent
)

// takeAll takes how many things there are, and they, as long as nothing is wrong.
func takeAll[T any](r *reader, least int, take func() T) []T {
	var l []T
	for range r.Count(least) {
		if r.Err() != api.OK {
			return nil
		}
		l = append(l, take())
	}
	return l
}
