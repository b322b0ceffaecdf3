package codec

import (
	"slices"

	"lamplighter/api"
	"lamplighter/value"
)

// Reader takes bytes one behind the other; it knows what was wrong first.
type Reader struct {
	left []byte
	err  api.Errno
}

// Read takes bytes from the first one on.
func Read(b []byte) *Reader { return &Reader{left: slices.Clone(b)} }

// Err is what was wrong first; Left, how many bytes are left.
func (r *Reader) Err() api.Errno {
	if r == nil {
		return api.ErrInput
	}
	return r.err
}

func (r *Reader) Left() int {
	if r == nil {
		return 0
	}
	return len(r.left)
}

// Wrong notes what is wrong; nothing is left then.
func (r *Reader) Wrong(e api.Errno) {
	if r == nil || e == api.OK {
		return
	}
	if r.err == api.OK {
		r.err = e
	}
	r.left = nil
}

// Uint takes a number: ErrForm: bytes are missing, it is too great, or it could be put shorter.
func (r *Reader) Uint() uint64 {
	var n uint64
	for at := range min(r.Left(), mostBytes) {
		b := r.left[at]
		n |= uint64(b&^more) << (bitsOfByte * at)
		if b >= more {
			continue
		}
		if at > 0 && b == 0 || at == mostBytes-1 && b > 1 {
			break
		}
		r.left = r.left[at+1:]
		return n
	}
	r.Wrong(api.ErrForm)
	return 0
}

// Int takes a number with a sign.
func (r *Reader) Int() int64 {
	n := r.Uint()
	if n%2 == 1 {
		return -1 - int64(n/2)
	}
	return int64(n / 2)
}

// Count takes how many things follow, each of so many bytes at least: ErrForm: there are not as many.
func (r *Reader) Count(each int) int {
	n := r.Uint()
	if n > uint64(r.Left()/max(each, 1)) {
		r.Wrong(api.ErrForm)
		return 0
	}
	return int(n)
}

// Text takes a text.
func (r *Reader) Text() string {
	n := r.Count(1)
	if n == 0 {
		return ""
	}
	s := string(r.left[:n])
	r.left = r.left[n:]
	return s
}

// Truth takes a truth: ErrForm: neither 1 nor 0.
func (r *Reader) Truth() bool {
	n := r.Uint()
	if n > 1 {
		r.Wrong(api.ErrForm)
	}
	return n == 1
}

// Value takes a value: ErrForm: it may not be.
func (r *Reader) Value() api.Value {
	var v api.Value
	switch r.Uint() {
	case api.Int:
		v = value.Num(r.Int())
	case api.Str:
		v = value.Text(r.Text())
	case api.Bool:
		v = value.Truth(r.Truth())
	}
	if !value.May(v) {
		r.Wrong(api.ErrForm)
	}
	if r.Err() != api.OK {
		return api.Value{}
	}
	return v
}

// Event takes an event.
func (r *Reader) Event() api.Event {
	e := api.Event{Type: r.Text(), Key: r.Text(), Time: r.Int(), Seq: r.Int()}
	for range r.Count(leastValue) {
		e.Vals = append(e.Vals, r.Value())
	}
	if r.Err() != api.OK {
		return api.Event{}
	}
	return e
}

// Pairs takes pairs.
func (r *Reader) Pairs() []api.Pair {
	var l []api.Pair
	for range r.Count(leastPair) {
		l = append(l, api.Pair{Elem: int(r.Int()), Seq: r.Int()})
	}
	if r.Err() != api.OK {
		return nil
	}
	return l
}

// Out takes something that is told.
func (r *Reader) Out() api.Out {
	o := api.Out{Kind: int(r.Uint() % kinds), Query: r.Text(), Place: int(r.Int()), Key: r.Text(), Time: r.Int(), Seq: r.Int(), Pairs: r.Pairs()}
	if r.Err() != api.OK {
		return api.Out{}
	}
	return o
}
