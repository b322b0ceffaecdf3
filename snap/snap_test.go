package snap_test

import (
	"bytes"
	"math"
	"slices"
	"strconv"
	"strings"
	"testing"

	"lamplighter/api"
	"lamplighter/codec"
	"lamplighter/drill"
	"lamplighter/emit"
	"lamplighter/engine"
	"lamplighter/front"
	"lamplighter/sample"
	"lamplighter/show"
	"lamplighter/snap"
	"lamplighter/value"
)

// image is an engine as it is kept elsewhere, with one of all that there may be.
func image() api.Image {
	a := sample.Event("A", "k", 3, 2, 7)
	return api.Image{
		Mark: 4,
		Entries: []api.Entry{
			{Id: "p", Q: sample.Query("SEQ(A a, !C n, B b) WITHIN 9"), From: 1, To: 7},
			{Id: "q", Q: sample.Query("SEQ(B b) WHERE b: b.x > 5 WITHIN 9 CAP 50"), From: 5},
		},
		Events: []api.Event{sample.Event("B", "k", 6, 6, 1), sample.Event("B", "k", 6, 8, 300)},
		Slots: []api.Slot{
			{Key: "k", Runs: []api.Saved{
				{State: 1, Pairs: sample.Pairs(0, 2), Env: []api.Bound{{Var: "a", E: a}}, First: 3, Last: api.Stamp{Time: 3, Seq: 2}},
				{State: 1, Pairs: sample.Pairs(0, 3), First: 3, Last: api.Stamp{Time: 4, Seq: 3}, Blocked: true},
			}},
			{Key: "", Place: -1},
		},
	}
}

// none is that of an engine that has seen nothing.
func none() api.Image { return api.Image{Mark: -1} }

func TestBytes(t *testing.T) {
	if got, want := snap.Put(none()), []byte("\x04LAMP\x01\x00\x00\x00\x00"); !bytes.Equal(got, want) {
		t.Errorf("got % x, want % x", got, want)
	}
	want := []byte("\x04LAMP\x08\x00")
	p, q := "SEQ(A a, !C n, B b) WITHIN 9", "SEQ(B b) WHERE b: (b.x > 5) WITHIN 9 CAP 50"
	want = slices.Concat(want, []byte{2, 1, 'p', byte(len(p))}, []byte(p), []byte{2, 14, 1, 'q', byte(len(q))}, []byte(q), []byte{10, 0})
	want = append(want, "\x02\x01B\x01k\x0c\x0c\x01\x01\x02\x01B\x01k\x0c\x10\x01\x01\xd8\x04"...)
	want = append(want, "\x02\x01k\x00\x02"...)
	want = append(want, "\x02\x01\x00\x04\x01\x01a\x01A\x01k\x06\x04\x01\x01\x0e\x06\x06\x04\x00"...)
	want = append(want, "\x02\x01\x00\x06\x00\x06\x08\x06\x01"...)
	want = append(want, "\x00\x01\x00"...)
	if got := snap.Put(image()); !bytes.Equal(got, want) {
		t.Errorf("got  % x\nwant % x", got, want)
	}
}

func TestGet(t *testing.T) {
	s := sample.Schema()
	far := api.Image{Mark: math.MinInt64, Closed: true, Slots: []api.Slot{{Key: "'", Place: math.MaxInt, Runs: []api.Saved{{State: math.MinInt, First: math.MaxInt64, Last: api.Stamp{Time: math.MinInt64, Seq: math.MaxInt64}}}}}}
	odd := api.Image{Entries: []api.Entry{{Id: "no name", Q: sample.Query("SEQ(A a) WITHIN 1"), From: -5, To: math.MinInt64}}, Events: []api.Event{{}, {Type: "?", Time: -9}}}
	// Things of which there are many take as few bytes as may be.
	many := api.Image{Events: make([]api.Event, 50), Slots: make([]api.Slot, 50)}
	many.Slots[7].Runs = make([]api.Saved, 50)
	many.Slots[49].Runs = []api.Saved{{Env: make([]api.Bound, 50), Pairs: make([]api.Pair, 50)}}
	for name, i := range map[string]api.Image{"all": image(), "nothing": none(), "zero": {}, "far": far, "odd": odd, "many": many} {
		got, e := snap.Get(s, snap.Put(i))
		if e != api.OK || !sample.SameImage(got, i) {
			t.Errorf("%s: got %d, %v, want %v", name, e, got, i)
		}
	}
	// Where it is kept is not told of the last one.
	i := image()
	i.Slots[0].Runs[0].Last.At = 77
	if got, e := snap.Get(s, snap.Put(i)); e != api.OK || !sample.SameImage(got, image()) {
		t.Errorf("got %d, %v", e, got)
	}
}

// wrong holds that bytes are none's.
func wrong(t *testing.T, name string, b []byte) {
	t.Helper()
	got, e := snap.Get(sample.Schema(), b)
	if e != api.ErrForm || !sample.SameImage(got, api.Image{}) || got.Entries != nil || got.Events != nil || got.Slots != nil {
		t.Errorf("%s: got %d, %v", name, e, got)
	}
	if x, e := snap.Load(sample.Schema(), b); x != nil || e != api.ErrForm {
		t.Errorf("%s: got %d", name, e)
	}
}

func TestErrForm(t *testing.T) {
	b := snap.Put(image())
	for i := range b {
		wrong(t, strconv.Itoa(i)+" bytes", b[:i])
	}
	wrong(t, "bytes are left", append(slices.Clone(b), 0))
	wrong(t, "another text", bytes.Replace(b, []byte("LAMP"), []byte("LAMB"), 1))
	wrong(t, "a longer text", append([]byte("\x05LAMPX"), b[5:]...))
	wrong(t, "no text", b[5:])
	wrong(t, "neither true nor false", bytes.Replace(b, []byte("LAMP\x08\x00"), []byte("LAMP\x08\x02"), 1))
	wrong(t, "a number that could be shorter", bytes.Replace(b, []byte("LAMP\x08"), []byte("LAMP\x88\x00"), 1))
	wrong(t, "more queries than bytes", []byte("\x04LAMP\x01\x00\xff\xff\xff\xff\xff\xff\xff\xff\xff\x01\x00\x00"))
	wrong(t, "too many queries", []byte("\x04LAMP\x01\x00\x01\x00\x00"))
	odd := image()
	odd.Events[0].Vals[0] = api.Value{}
	wrong(t, "a value of no kind", snap.Put(odd))
	odd = image()
	odd.Slots[0].Runs[0].Env[0].E.Vals[0] = value.Text(strings.Repeat("x", 65))
	wrong(t, "a value that may not be", snap.Put(odd))
	wrong(t, "nothing", nil)
}

// TestQueries holds that a query's text stands there just as it is written, and that it may be.
func TestQueries(t *testing.T) {
	with := func(text string) []byte {
		var w codec.Writer
		w.Text(api.SnapMark)
		w.Int(-1)
		w.Truth(false)
		w.Uint(1)
		w.Text("p")
		w.Text(text)
		w.Int(1)
		w.Int(0)
		w.Uint(0)
		w.Uint(0)
		return w.Bytes()
	}
	for _, text := range []string{"SEQ(A a) WITHIN 9", "SEQ((A|B) a{1,3}, !C c, A d) WHERE d: (d.x = (- (5))) WITHIN 9 CAP 7"} {
		i, e := snap.Get(sample.Schema(), with(text))
		if e != api.OK || len(i.Entries) != 1 || show.Query(i.Entries[0].Q) != text {
			t.Errorf("%s: got %d, %v", text, e, i)
		}
	}
	for _, text := range []string{
		"", "SEQ", "SEQ(A a)", "SEQ(A a) WITHIN 0", "SEQ(Z a) WITHIN 9", "SEQ(A a, !B b) WITHIN 9", "SEQ(A a) WITHIN 9 CAP 100", "SEQ(A a)  WITHIN 9", "SEQ( A a) WITHIN 9", "SEQ((A) a) WITHIN 9",
		"SEQ(A a{1,1}) WITHIN 9", "SEQ(A a) WHERE a: a.x > 5 WITHIN 9", "SEQ(A a) WITHIN 9 ", "SEQ(A a) WHERE a: (a.x > -5) WITHIN 9", "SEQ(A a) WHERE a: (a.s > 5) WITHIN 9", strings.Repeat(" ", 3000),
	} {
		wrong(t, text, with(text))
	}
	// One that may not be can be put.
	wrong(t, "the zero query", snap.Put(api.Image{Entries: []api.Entry{{Id: "p", From: 1}}}))
	if _, e := snap.Get(nil, with("SEQ(A a) WITHIN 9")); e != api.ErrForm {
		t.Errorf("got %d", e)
	}
	if _, e := snap.Get(nil, snap.Put(none())); e != api.OK {
		t.Errorf("got %d", e)
	}
}

// TestLongText holds that a query that may be, but whose text as it is written has more pieces than there may be, is none's.
func TestLongText(t *testing.T) {
	var elems, preds []string
	for _, name := range strings.Split("abc", "") {
		elems = append(elems, "A "+name)
		preds = append(preds, name+":"+strings.Repeat(name+".x=1 or ", 15)+name+".x=1")
	}
	q, e := show.Read(sample.Schema(), "SEQ("+strings.Join(elems, ",")+")WHERE "+strings.Join(preds, ";")+" WITHIN 9")
	if _, too := show.Read(sample.Schema(), show.Query(q)); e != api.OK || too != api.ErrBig {
		t.Fatalf("got %d, %d", e, too)
	}
	wrong(t, "a long text", snap.Put(api.Image{Entries: []api.Entry{{Id: "p", Q: q, From: 1}}}))
}

func TestErrBig(t *testing.T) {
	i := none()
	i.Slots = []api.Slot{{Key: strings.Repeat("k", api.MaxBytes-len(snap.Put(none()))-5)}}
	b := snap.Put(i)
	if len(b) != api.MaxBytes {
		t.Fatalf("got %d", len(b))
	}
	if got, e := snap.Get(sample.Schema(), b); e != api.OK || !sample.SameImage(got, i) {
		t.Errorf("got %d", e)
	}
	for _, x := range [][]byte{append(b, 0), make([]byte, api.MaxBytes+1)} {
		if got, e := snap.Get(sample.Schema(), x); e != api.ErrBig || got.Slots != nil {
			t.Errorf("got %d", e)
		}
		if y, e := snap.Load(sample.Schema(), x); y != nil || e != api.ErrBig {
			t.Errorf("got %d", e)
		}
	}
}

// TestDrawn holds that whatever bytes there are, they are none's, or just those of what they come to.
func TestDrawn(t *testing.T) {
	d, s := sample.Dice(1), sample.Schema()
	good := 0
	for range 30000 {
		b := snap.Put(image())
		for range 1 + d.Below(3) {
			b[d.Below(len(b))] = byte(d.Below(1 << (1 + d.Below(8))))
		}
		i, e := snap.Get(s, b)
		if e != api.OK {
			if e != api.ErrForm {
				t.Fatalf("% x: got %d", b, e)
			}
			continue
		}
		good++
		if !bytes.Equal(snap.Put(i), b) {
			t.Fatalf("% x: got %v", b, i)
		}
	}
	if good < 1000 || good > 29000 {
		t.Errorf("%d of 30000 are bytes of something", good)
	}
}

// TestLoadErrors holds that the engine's error is told behind that of the bytes.
func TestLoadErrors(t *testing.T) {
	for want, change := range map[api.Errno]func(i *api.Image){
		api.OK:       func(i *api.Image) {},
		api.ErrTime:  func(i *api.Image) { i.Mark = -2 },
		api.ErrKey:   func(i *api.Image) { i.Entries[0].Id = "" },
		api.ErrOrder: func(i *api.Image) { i.Entries[1].From = 1 },
		api.ErrTwice: func(i *api.Image) { i.Entries[1].Id = "p" },
		api.ErrBig:   func(i *api.Image) { i.Entries = slices.Repeat(i.Entries, 9) },
		api.ErrLate:  func(i *api.Image) { i.Events[1].Time = 4 },
	} {
		i := image()
		change(&i)
		b := snap.Put(i)
		if got, e := snap.Get(sample.Schema(), b); e != api.OK || !sample.SameImage(got, i) {
			t.Errorf("%d: got %d", want, e)
		}
		if x, e := snap.Load(sample.Schema(), b); e != want || (x == nil) != (e != api.OK) {
			t.Errorf("%d: got %d", want, e)
		}
	}
}

// TestExample holds that an engine that is kept elsewhere at any time goes on as it was.
func TestExample(t *testing.T) {
	s := drill.Schema()
	told, kept := 0, 0
	for seed := range uint64(150) {
		f, x, y := front.New(s), engine.New(s), engine.New(s)
		for _, c := range drill.New(seed).Scripts(1, 60, seed%2 == 0)[0] {
			m, e := f.Admit(c)
			if e != api.OK {
				continue
			}
			want, e := x.Take(m)
			got, too := y.Take(m)
			if !emit.SameAll(got, want) || e != too || y.Within() != x.Within() {
				t.Fatalf("%d: got %d, %v, want %d, %v", seed, too, got, e, want)
			}
			told += len(got)
			b := snap.Save(y)
			if !bytes.Equal(b, snap.Save(x)) {
				t.Fatalf("%d: two engines that are alike have other bytes", seed)
			}
			if y, e = snap.Load(s, b); e != api.OK || !sample.SameImage(y.Save(), x.Save()) {
				t.Fatalf("%d: got %d", seed, e)
			}
			kept += y.Kept() + y.Live()
		}
	}
	if told < 500 || kept < 5000 {
		t.Errorf("only %d things were told, %d were kept", told, kept)
	}
}

func TestOfNone(t *testing.T) {
	var x *engine.Engine
	if got := snap.Save(x); !bytes.Equal(got, snap.Put(api.Image{})) {
		t.Errorf("got % x", got)
	}
	if got := snap.Save(engine.New(nil)); !bytes.Equal(got, snap.Put(none())) {
		t.Errorf("got % x", got)
	}
	if y, e := snap.Load(nil, snap.Put(none())); e != api.OK || y.Kept() != 0 || y.Mark().At() != -1 {
		t.Errorf("got %d", e)
	}
}

func TestIsTheCallers(t *testing.T) {
	i := image()
	b := snap.Put(i)
	if !sample.SameImage(i, image()) {
		t.Errorf("what was handed in was changed: %v", i)
	}
	got, _ := snap.Get(sample.Schema(), b)
	clear(b)
	if !sample.SameImage(got, image()) {
		t.Errorf("got %v", got)
	}
}
