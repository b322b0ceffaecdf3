package codec_test

import (
	"bytes"
	"encoding/binary"
	"math"
	"slices"
	"strings"
	"testing"

	"lamplighter/api"
	"lamplighter/codec"
	"lamplighter/emit"
	"lamplighter/event"
	"lamplighter/sample"
	"lamplighter/value"
)

// put is the bytes of what is put.
func put(what func(w *codec.Writer)) []byte {
	var w codec.Writer
	what(&w)
	return w.Bytes()
}

func uints(l ...uint64) []byte {
	return put(func(w *codec.Writer) {
		for _, n := range l {
			w.Uint(n)
		}
	})
}

// writes holds the bytes of what is put.
func writes(t *testing.T, name string, what func(w *codec.Writer), want ...byte) {
	t.Helper()
	if got := put(what); !bytes.Equal(got, want) {
		t.Errorf("%s: got % x, want % x", name, got, want)
	}
}

// ends holds what was wrong, and how many bytes are left.
func ends(t *testing.T, name string, r *codec.Reader, e api.Errno, left int) {
	t.Helper()
	if r.Err() != e || r.Left() != left {
		t.Errorf("%s: got %d, %d left, want %d, %d", name, r.Err(), r.Left(), e, left)
	}
}

func TestExample(t *testing.T) {
	writes(t, "300", func(w *codec.Writer) { w.Uint(300) }, 0xac, 0x02)
	r := codec.Read([]byte{0xac, 0x02})
	if got := r.Uint(); got != 300 {
		t.Errorf("got %d", got)
	}
	ends(t, "300", r, api.OK, 0)
}

// numbers is some of all lengths.
func numbers() []uint64 {
	l := []uint64{0, 1, 2, 3, math.MaxUint64, math.MaxUint64 - 1}
	for i := range 64 {
		l = append(l, 1<<i, 1<<i-1, 1<<i+1)
	}
	return l
}

func TestUint(t *testing.T) {
	for _, n := range numbers() {
		b := uints(n)
		if want := binary.AppendUvarint(nil, n); !bytes.Equal(b, want) {
			t.Errorf("%d: got % x, want % x", n, b, want)
		}
		r := codec.Read(append(b, 7))
		if got := r.Uint(); got != n {
			t.Errorf("got %d, want %d", got, n)
		}
		ends(t, "a number", r, api.OK, 1)
		// Bytes are missing.
		for i := range b {
			r := codec.Read(b[:i])
			if got := r.Uint(); got != 0 {
				t.Errorf("got %d", got)
			}
			ends(t, "missing", r, api.ErrForm, 0)
		}
	}
	nines := func(n int, last ...byte) []byte { return append(bytes.Repeat([]byte{0xff}, n), last...) }
	for _, b := range [][]byte{
		{0x80, 0}, {0x81, 0}, {0xff, 0x80, 0}, {0x80}, nines(9, 0), nines(9, 2), nines(9, 0x7f), nines(9, 0x80), nines(9, 0x81, 0), nines(10), nines(10, 1), nines(11), nines(10, 0), append(bytes.Repeat([]byte{0x80}, 9), 2), append(bytes.Repeat([]byte{0x80}, 20), 1),
	} {
		r := codec.Read(b)
		if got := r.Uint(); got != 0 {
			t.Errorf("% x: got %d", b, got)
		}
		ends(t, "no number", r, api.ErrForm, 0)
	}
}

func TestInt(t *testing.T) {
	for want, n := range map[uint64]int64{0: 0, 1: -1, 2: 1, 3: -2, 4: 2, 599: -300, 600: 300, math.MaxUint64: math.MinInt64, math.MaxUint64 - 1: math.MaxInt64} {
		b := put(func(w *codec.Writer) { w.Int(n) })
		if !bytes.Equal(b, uints(want)) {
			t.Errorf("%d: got % x", n, b)
		}
		r := codec.Read(b)
		if got := r.Int(); got != n {
			t.Errorf("got %d, want %d", got, n)
		}
		ends(t, "a number", r, api.OK, 0)
	}
	for _, n := range numbers() {
		b := uints(n)
		if got := codec.Read(b).Int(); !bytes.Equal(put(func(w *codec.Writer) { w.Int(got) }), b) {
			t.Errorf("%d: got %d", n, got)
		}
	}
	r := codec.Read([]byte{0x80, 0})
	if got := r.Int(); got != 0 {
		t.Errorf("got %d", got)
	}
	ends(t, "no number", r, api.ErrForm, 0)
}

func TestText(t *testing.T) {
	writes(t, "nothing", func(w *codec.Writer) { w.Text("") }, 0)
	writes(t, "abc", func(w *codec.Writer) { w.Text("abc") }, 3, 'a', 'b', 'c')
	writes(t, "two bytes", func(w *codec.Writer) { w.Text("ü") }, 2, 0xc3, 0xbc)
	for _, s := range []string{"", "a", "it's", "\x00\xff", strings.Repeat("x", 127), strings.Repeat("x", 128), strings.Repeat("x", 70000)} {
		b := put(func(w *codec.Writer) { w.Text(s) })
		r := codec.Read(append(b, 9))
		if got := r.Text(); got != s {
			t.Errorf("%d bytes: got %d", len(s), len(got))
		}
		ends(t, "a text", r, api.OK, 1)
		r = codec.Read(b[:len(b)-1])
		if got := r.Text(); got != "" {
			t.Errorf("got %q", got)
		}
		ends(t, "missing", r, api.ErrForm, 0)
	}
	r := codec.Read(append(uints(math.MaxUint64), "abc"...))
	if got := r.Text(); got != "" {
		t.Errorf("got %q", got)
	}
	ends(t, "too long", r, api.ErrForm, 0)
}

func TestTruth(t *testing.T) {
	writes(t, "true, false", func(w *codec.Writer) {
		w.Truth(true)
		w.Truth(false)
	}, 1, 0)
	r := codec.Read([]byte{1, 0, 1})
	if !r.Truth() || r.Truth() || !r.Truth() {
		t.Error("got another one")
	}
	ends(t, "truths", r, api.OK, 0)
	for _, b := range [][]byte{{}, {2}, {3}, {2, 1}, {0xff, 1}, {0x81, 0}, {0x81, 1}, {255}, {128, 1, 1}} {
		r := codec.Read(b)
		if r.Truth() {
			t.Errorf("% x: got true", b)
		}
		ends(t, "neither", r, api.ErrForm, 0)
	}
}

func TestCount(t *testing.T) {
	for _, c := range []struct {
		n, left uint64
		each    int
		ok      bool
	}{
		{0, 0, 1, true}, {0, 0, math.MaxInt, true}, {1, 0, 1, false}, {3, 3, 1, true}, {4, 3, 1, false}, {3, 3, 0, true}, {3, 3, -7, true}, {3, 3, math.MinInt, true}, {4, 3, 0, false},
		{2, 4, 2, true}, {2, 5, 2, true}, {3, 5, 2, false}, {1, 5, 6, false}, {1, 5, 5, true}, {1, 5, math.MaxInt, false}, {math.MaxUint64, 5, 1, false}, {1 << 63, 5, math.MaxInt, false}, {200, 200, 1, true}, {201, 200, 1, false},
	} {
		r := codec.Read(append(uints(c.n), make([]byte, c.left)...))
		got := r.Count(c.each)
		if c.ok {
			ends(t, "a count", r, api.OK, int(c.left))
		} else {
			c.n = 0
			ends(t, "too many", r, api.ErrForm, 0)
		}
		if uint64(got) != c.n {
			t.Errorf("%+v: got %d", c, got)
		}
	}
	r := codec.Read(nil)
	if r.Count(1) != 0 {
		t.Error("nothing follows")
	}
	ends(t, "no count", r, api.ErrForm, 0)
}

func TestValue(t *testing.T) {
	for _, c := range []struct {
		v    api.Value
		want []byte
	}{
		{value.Num(0), []byte{1, 0}}, {value.Num(-1), []byte{1, 1}}, {value.Num(300), []byte{1, 0xd8, 4}}, {value.Text(""), []byte{2, 0}}, {value.Text("ab"), []byte{2, 2, 'a', 'b'}},
		{value.Truth(true), []byte{3, 1}}, {value.Truth(false), []byte{3, 0}}, {value.Num(math.MinInt64), append([]byte{1}, uints(math.MaxUint64)...)}, {value.Text(strings.Repeat("x", 64)), append([]byte{2, 64}, strings.Repeat("x", 64)...)},
	} {
		writes(t, value.Show(c.v), func(w *codec.Writer) { w.Value(c.v) }, c.want...)
		r := codec.Read(append(c.want, 9))
		if got := r.Value(); got != c.v {
			t.Errorf("got %v, want %v", got, c.v)
		}
		ends(t, value.Show(c.v), r, api.OK, 1)
	}
	// Of no kind just that is put; and what is of another kind is not.
	writes(t, "no kind", func(w *codec.Writer) { w.Value(api.Value{I: 5, S: "u", B: true}) }, 0)
	writes(t, "kind 4", func(w *codec.Writer) { w.Value(api.Value{Kind: 4, I: 5}) }, 4)
	writes(t, "kind 300", func(w *codec.Writer) { w.Value(api.Value{Kind: 300}) }, 0xac, 2)
	writes(t, "kind -1", func(w *codec.Writer) { w.Value(api.Value{Kind: -1}) }, uints(math.MaxUint64)...)
	writes(t, "of two kinds", func(w *codec.Writer) { w.Value(api.Value{Kind: api.Int, I: 5, S: "u", B: true}) }, 1, 10)
	for _, b := range [][]byte{
		{}, {0}, {4}, {0, 1}, {4, 1}, {1}, {2}, {3}, {1, 0x80}, {2, 1}, {2, 3, 'a', 'b'}, {3, 2}, {0x81, 0, 5}, append(uints(1<<31+1), 5), append(uints(1<<32+1), 5), uints(math.MaxUint64),
		append([]byte{2, 65}, strings.Repeat("x", 65)...),
	} {
		r := codec.Read(b)
		if got := r.Value(); got != (api.Value{}) {
			t.Errorf("% x: got %v", b, got)
		}
		ends(t, "no value", r, api.ErrForm, 0)
	}
}

func TestEvent(t *testing.T) {
	e := api.Event{Type: "A", Key: "kk", Time: 5, Seq: -1, Vals: []api.Value{value.Num(7), value.Text("u"), value.Truth(true)}}
	want := []byte{1, 'A', 2, 'k', 'k', 10, 1, 3, 1, 14, 2, 1, 'u', 3, 1}
	writes(t, "an event", func(w *codec.Writer) { w.Event(e) }, want...)
	writes(t, "no event", func(w *codec.Writer) { w.Event(api.Event{}) }, 0, 0, 0, 0, 0)
	r := codec.Read(append(want, 0, 0, 0, 0, 0, 9))
	if got := r.Event(); !event.Same(got, e) {
		t.Errorf("got %v, want %v", got, e)
	}
	if got := r.Event(); !event.Same(got, api.Event{}) {
		t.Errorf("got %v", got)
	}
	ends(t, "events", r, api.OK, 1)
	for i := range want {
		r := codec.Read(want[:i])
		if got := r.Event(); !event.Same(got, api.Event{}) || got.Vals != nil {
			t.Errorf("%d bytes: got %v", i, got)
		}
		ends(t, "missing", r, api.ErrForm, 0)
	}
	// A value that may not be, and one that is missing.
	for at, b := range map[int]byte{8: 4, 7: 4, 13: 0, 14: 2} {
		wrong := slices.Clone(want)
		wrong[at] = b
		r := codec.Read(wrong)
		if got := r.Event(); !event.Same(got, api.Event{}) {
			t.Errorf("%d: got %v", at, got)
		}
		ends(t, "wrong", r, api.ErrForm, 0)
	}
}

func TestPairs(t *testing.T) {
	l := sample.Pairs(0, 2, 1, 300, -1, -2)
	want := []byte{3, 0, 4, 2, 0xd8, 4, 1, 3}
	writes(t, "pairs", func(w *codec.Writer) { w.Pairs(l) }, want...)
	writes(t, "no pairs", func(w *codec.Writer) { w.Pairs(nil) }, 0)
	r := codec.Read(append(want, 0, 9))
	if got := r.Pairs(); !slices.Equal(got, l) {
		t.Errorf("got %v, want %v", got, l)
	}
	if got := r.Pairs(); len(got) != 0 {
		t.Errorf("got %v", got)
	}
	ends(t, "pairs", r, api.OK, 1)
	for i := range want {
		r := codec.Read(want[:i])
		if got := r.Pairs(); got != nil {
			t.Errorf("%d bytes: got %v", i, got)
		}
		ends(t, "missing", r, api.ErrForm, 0)
	}
}

func TestOut(t *testing.T) {
	o := api.Out{Kind: api.OutMatch, Query: "p", Place: 3, Key: "k", Time: 300, Seq: -4, Pairs: sample.Pairs(1, 7)}
	want := []byte{1, 1, 'p', 6, 1, 'k', 0xd8, 4, 7, 1, 2, 14}
	writes(t, "a thing", func(w *codec.Writer) { w.Out(o) }, want...)
	writes(t, "nothing", func(w *codec.Writer) { w.Out(api.Out{}) }, 0, 0, 0, 0, 0, 0, 0)
	r := codec.Read(append(want, 9))
	if got := r.Out(); !emit.Same(got, o) {
		t.Errorf("got %v, want %v", got, o)
	}
	ends(t, "a thing", r, api.OK, 1)
	for i := range want {
		r := codec.Read(want[:i])
		if got := r.Out(); !emit.Same(got, api.Out{}) {
			t.Errorf("%d bytes: got %v", i, got)
		}
		ends(t, "missing", r, api.ErrForm, 0)
	}
	// Kinds are modulo 2^31.
	for n, kind := range map[uint64]int{2: 2, 7: 7, 1<<31 - 1: 1<<31 - 1, 1 << 31: 0, 1<<31 + 2: 2, 1<<63 + 5: 5, math.MaxUint64: 1<<31 - 1} {
		r := codec.Read(append(uints(n), want[1:]...))
		o.Kind = kind
		if got := r.Out(); !emit.Same(got, o) || r.Err() != api.OK {
			t.Errorf("%d: got %v", n, got)
		}
	}
}

func TestWrong(t *testing.T) {
	r := codec.Read([]byte{1, 2, 3})
	r.Wrong(api.OK)
	ends(t, "not wrong", r, api.OK, 3)
	r.Uint()
	r.Wrong(api.ErrBig)
	ends(t, "wrong", r, api.ErrBig, 0)
	r.Wrong(api.ErrForm)
	r.Wrong(api.OK)
	ends(t, "wrong again", r, api.ErrBig, 0)
	// Nothing is left: all is nothing, and the first that was wrong stays.
	if r.Uint() != 0 || r.Int() != 0 || r.Count(1) != 0 || r.Text() != "" || r.Truth() || r.Value() != (api.Value{}) || r.Pairs() != nil || !event.Same(r.Event(), api.Event{}) || !emit.Same(r.Out(), api.Out{}) {
		t.Error("something is left")
	}
	ends(t, "wrong at last", r, api.ErrBig, 0)
}

func TestOfNone(t *testing.T) {
	var r *codec.Reader
	r.Wrong(api.ErrBig)
	if r.Uint() != 0 || r.Int() != 0 || r.Count(1) != 0 || r.Text() != "" || r.Truth() || r.Value() != (api.Value{}) || r.Pairs() != nil || !event.Same(r.Event(), api.Event{}) || !emit.Same(r.Out(), api.Out{}) {
		t.Error("none has something")
	}
	ends(t, "none", r, api.ErrInput, 0)
	var w *codec.Writer
	w.Uint(5)
	w.Int(5)
	w.Text("u")
	w.Truth(true)
	w.Value(value.Num(5))
	w.Event(api.Event{})
	w.Out(api.Out{})
	w.Pairs(nil)
	if len(w.Bytes()) != 0 || len((&codec.Writer{}).Bytes()) != 0 {
		t.Error("none has something")
	}
	zero := &codec.Reader{}
	ends(t, "nothing", zero, api.OK, 0)
	ends(t, "nothing", codec.Read(nil), api.OK, 0)
}

func TestEvents(t *testing.T) {
	l := []api.Event{sample.Event("A", "k", 5, 1, 300), {}, sample.Event("B", "l", -5, math.MaxInt64, math.MinInt64)}
	b := codec.Events(l)
	if want := put(func(w *codec.Writer) {
		w.Uint(3)
		for _, e := range l {
			w.Event(e)
		}
	}); !bytes.Equal(b, want) {
		t.Errorf("got % x, want % x", b, want)
	}
	if got, e := codec.Get(b); e != api.OK || !slices.EqualFunc(got, l, event.Same) {
		t.Errorf("got %d, %v", e, got)
	}
	if got := codec.Events(nil); !bytes.Equal(got, []byte{0}) {
		t.Errorf("got % x", got)
	}
	if got, e := codec.Get([]byte{0}); e != api.OK || len(got) != 0 {
		t.Errorf("got %d, %v", e, got)
	}
	wrong := [][]byte{nil, {1}, {0, 0}, append(b, 0), {0x80, 0}, uints(math.MaxUint64), append([]byte{4}, b[1:]...), append([]byte{2}, b[1:]...)}
	for i := range b {
		wrong = append(wrong, b[:i])
	}
	for _, x := range wrong {
		if got, e := codec.Get(x); e != api.ErrForm || got != nil {
			t.Errorf("% x: got %d, %v", x, e, got)
		}
	}
	// A value that may not be is none's, though it can be put.
	odd := codec.Events([]api.Event{{Vals: []api.Value{{}}}})
	if got, e := codec.Get(odd); e != api.ErrForm || got != nil {
		t.Errorf("got %d, %v", e, got)
	}
}

func TestMaxBytes(t *testing.T) {
	// Each of the events has five bytes, and how many there are has three.
	many := (api.MaxBytes - 3) / 5
	l := make([]api.Event, many)
	l[0].Key = strings.Repeat("k", (api.MaxBytes-3)%5)
	b := codec.Events(l)
	if len(b) != api.MaxBytes {
		t.Fatalf("got %d", len(b))
	}
	if got, e := codec.Get(b); e != api.OK || !slices.EqualFunc(got, l, event.Same) {
		t.Errorf("got %d, %d events", e, len(got))
	}
	l[1].Key = "k"
	for _, x := range [][]byte{append(b, 0), codec.Events(l), make([]byte, api.MaxBytes+1)} {
		if got, e := codec.Get(x); e != api.ErrBig || got != nil {
			t.Errorf("got %d, %d events", e, len(got))
		}
	}
	if _, e := codec.Get(make([]byte, api.MaxBytes)); e != api.ErrForm {
		t.Errorf("got %d", e)
	}
}

// TestDrawn holds that whatever bytes there are, they are none's, or just those of what they come to.
func TestDrawn(t *testing.T) {
	d := sample.Dice(1)
	good := 0
	for range 20000 {
		var l []api.Event
		for range d.Below(3) {
			e := sample.Event(d.Pick("", "A", "it's"), d.Pick("", "k", "lm"), int64(d.Below(500)-250), int64(d.Below(9)), int64(d.Below(99)))
			e.Vals = append(e.Vals, value.Text(d.Pick("", "u", "vw")), value.Truth(d.Below(2) == 0))[d.Below(3):]
			l = append(l, e)
		}
		b := codec.Events(l)
		for range d.Below(3) {
			b[d.Below(len(b))] = byte(d.Below(1 << (1 + d.Below(8))))
		}
		got, e := codec.Get(b)
		if (e == api.OK) != (got != nil) && len(b) > 1 {
			t.Fatalf("% x: got %d, %v", b, e, got)
		}
		if e == api.OK {
			good++
			if !bytes.Equal(codec.Events(got), b) {
				t.Fatalf("% x: got %v", b, got)
			}
		} else if e != api.ErrForm {
			t.Fatalf("% x: got %d", b, e)
		}
	}
	if good < 1000 || good > 19000 {
		t.Errorf("%d of 20000 are bytes of something", good)
	}
}

func TestIsTheCallers(t *testing.T) {
	var w codec.Writer
	w.Text("ab")
	w.Bytes()[1] = 'z'
	w.Bytes()[0] = 9
	b := w.Bytes()
	w.Text("c")
	if !bytes.Equal(b, []byte{2, 'a', 'b'}) || !bytes.Equal(w.Bytes(), []byte{2, 'a', 'b', 1, 'c'}) {
		t.Errorf("got % x, % x", b, w.Bytes())
	}
	r := codec.Read(b)
	b[1] = 'z'
	if got := r.Text(); got != "ab" {
		t.Errorf("got %s", got)
	}
}
