package codec

import (
	"slices"

	"lamplighter/api"
)

// Writer puts bytes one behind the other. The zero one is empty.
type Writer struct {
	bytes []byte
}

// Bytes is all that was put.
func (w *Writer) Bytes() []byte {
	if w == nil {
		return nil
	}
	return slices.Clone(w.bytes)
}

// Uint puts a number, seven bits a byte, the lowest first, each but the last one with 128.
func (w *Writer) Uint(n uint64) {
	for n >= more {
		w.put(byte(n) | more)
		n >>= bitsOfByte
	}
	w.put(byte(n))
}

// Int puts a number with a sign: twice it, or twice it the other way round, less one.
func (w *Writer) Int(n int64) {
	if n < 0 {
		w.Uint(2*uint64(-1-n) + 1)
	} else {
		w.Uint(2 * uint64(n))
	}
}

// Text puts how many bytes, and they.
func (w *Writer) Text(s string) {
	w.Uint(uint64(len(s)))
	w.put([]byte(s)...)
}

// Truth puts 1, or 0.
func (w *Writer) Truth(b bool) {
	if b {
		w.Uint(1)
	} else {
		w.Uint(0)
	}
}

// Value puts a value: its kind, and it.
func (w *Writer) Value(v api.Value) {
	w.Uint(uint64(v.Kind))
	switch v.Kind {
	case api.Int:
		w.Int(v.I)
	case api.Str:
		w.Text(v.S)
	case api.Bool:
		w.Truth(v.B)
	}
}

// Event puts an event.
func (w *Writer) Event(e api.Event) {
	w.Text(e.Type)
	w.Text(e.Key)
	w.Int(e.Time)
	w.Int(e.Seq)
	w.Uint(uint64(len(e.Vals)))
	for _, v := range e.Vals {
		w.Value(v)
	}
}

// Out puts something that is told.
func (w *Writer) Out(o api.Out) {
	w.Uint(uint64(o.Kind))
	w.Text(o.Query)
	w.Int(int64(o.Place))
	w.Text(o.Key)
	w.Int(o.Time)
	w.Int(o.Seq)
	w.Pairs(o.Pairs)
}

// Pairs puts pairs.
func (w *Writer) Pairs(l []api.Pair) {
	w.Uint(uint64(len(l)))
	for _, p := range l {
		w.Int(int64(p.Elem))
		w.Int(p.Seq)
	}
}

// put puts bytes; of no writer nothing is kept.
func (w *Writer) put(l ...byte) {
	if w != nil {
		w.bytes = append(w.bytes, l...)
	}
}
