package engine_test

import (
	"math"
	"slices"
	"strconv"
	"testing"

	"lamplighter/api"
	"lamplighter/emit"
	"lamplighter/engine"
	"lamplighter/mark"
	"lamplighter/sample"
	"lamplighter/value"
)

func at(kind, key string, time, seq int64) api.Event {
	return sample.Event(kind, key, time, seq, seq%3)
}

// The messages.
func put(e api.Event) api.Msg { return api.Msg{Kind: api.MsgEvent, Ticket: e.Seq, E: e} }

func advance(time int64) api.Msg { return api.Msg{Kind: api.MsgAdvance, T: time} }

func register(ticket int64, id, text string) api.Msg {
	return api.Msg{Kind: api.MsgRegister, Ticket: ticket, Id: id, Q: sample.Query(text)}
}

func unregister(ticket int64, id string) api.Msg {
	return api.Msg{Kind: api.MsgUnregister, Ticket: ticket, Id: id}
}

func end() api.Msg { return api.Msg{Kind: api.MsgClose} }

// take holds an error, and the texts of what is told.
func take(t *testing.T, x *engine.Engine, m api.Msg, e api.Errno, want ...string) {
	t.Helper()
	l, err := x.Take(m)
	if got := texts(l); !slices.Equal(got, want) || err != e {
		t.Errorf("%v: got %d, %v, want %d, %v", m, err, got, e, want)
	}
}

func texts(l []api.Out) []string {
	var s []string
	for _, o := range l {
		s = append(s, emit.Show(o)+" by "+strconv.Itoa(o.Place))
	}
	return s
}

// check holds all that is told of an engine.
func check(t *testing.T, x *engine.Engine, mark int64, kept, live int, closed bool) {
	t.Helper()
	if x.Mark().At() != mark || x.Kept() != kept || x.Live() != live || x.Closed() != closed || !x.Within() {
		t.Errorf("got %d, %d events, %d runs, %v, %v; want %d, %d, %d, %v", x.Mark().At(), x.Kept(), x.Live(), x.Closed(), x.Within(), mark, kept, live, closed)
	}
}

func TestExample(t *testing.T) {
	x := engine.New(sample.Schema())
	check(t, x, -1, 0, 0, false)
	take(t, x, register(1, "p", "SEQ(A a) WITHIN 9"), api.OK)
	take(t, x, put(at("A", "k", 5, 2)), api.OK)
	take(t, x, advance(4), api.OK)
	check(t, x, 4, 1, 0, false)
	take(t, x, advance(5), api.OK, "p 'k' 5/2 0:2 by 0")
	check(t, x, 5, 0, 0, false)
}

// TestInOrder holds that events are fed by times, then numbers, whenever they came; and each to the queries that see it.
func TestInOrder(t *testing.T) {
	x := engine.New(sample.Schema())
	take(t, x, register(1, "p", "SEQ(A a, B b) WITHIN 9"), api.OK)
	take(t, x, put(at("B", "k", 4, 2)), api.OK)
	take(t, x, put(at("A", "k", 2, 3)), api.OK)
	take(t, x, register(4, "q", "SEQ(A a) WITHIN 9"), api.OK)
	take(t, x, put(at("A", "k", 3, 5)), api.OK)
	take(t, x, put(at("A", "l", 1, 6)), api.OK)
	take(t, x, unregister(7, "p"), api.OK)
	take(t, x, put(at("B", "k", 4, 8)), api.OK)
	take(t, x, put(at("A", "k", 4, 9)), api.OK)
	check(t, x, -1, 6, 0, false)
	take(t, x, advance(4), api.OK,
		"q 'l' 1/6 0:6 by 1",
		"q 'k' 3/5 0:5 by 1",
		"p 'k' 4/2 0:3 1:2 by 0",
		"p 'k' 4/2 0:5 1:2 by 0",
		"q 'k' 4/9 0:9 by 1")
	check(t, x, 4, 0, 3, false)
	take(t, x, put(at("B", "k", 5, 10)), api.OK)
	take(t, x, advance(100), api.OK)
}

func TestErrors(t *testing.T) {
	x := engine.New(sample.Schema())
	for _, time := range []int64{-1, math.MinInt64, api.MaxTime + 1} {
		take(t, x, advance(time), api.ErrTime)
	}
	take(t, x, put(at("A", "k", -1, 1)), api.ErrLate)
	take(t, x, put(at("A", "k", 0, 1)), api.OK)
	take(t, x, advance(5), api.OK)
	take(t, x, advance(5), api.ErrOrder)
	take(t, x, advance(4), api.ErrOrder)
	take(t, x, put(at("A", "k", 5, 2)), api.ErrLate)
	take(t, x, put(at("A", "k", 6, 2)), api.OK)
	take(t, x, register(3, "p", "SEQ(A a) WITHIN 9"), api.OK)
	take(t, x, register(4, "p", "SEQ(A a) WITHIN 9"), api.ErrTwice)
	take(t, x, register(4, "", "SEQ(A a) WITHIN 9"), api.ErrKey)
	take(t, x, register(3, "q", "SEQ(A a) WITHIN 9"), api.ErrOrder)
	take(t, x, unregister(3, "p"), api.ErrOrder)
	take(t, x, unregister(4, "q"), api.ErrNone)
	for _, kind := range []int{0, 6, -1, math.MaxInt, math.MinInt} {
		take(t, x, api.Msg{Kind: kind, Ticket: 9, E: at("A", "k", 50, 9), T: 50, Id: "q"}, api.ErrInput)
	}
	check(t, x, 5, 1, 0, false)
	take(t, x, end(), api.OK)
	for _, m := range []api.Msg{put(at("A", "k", 9, 9)), advance(9), advance(-1), register(9, "q", "SEQ(A a) WITHIN 9"), unregister(9, "p"), end(), {}, {Kind: 6}} {
		take(t, x, m, api.ErrClosed)
	}
	check(t, x, 5, 1, 0, true)
}

// TestNotAsked holds that it is not asked whether an event, or a query, may be.
func TestNotAsked(t *testing.T) {
	x := engine.New(sample.Schema())
	take(t, x, api.Msg{Kind: api.MsgRegister, Ticket: 1, Id: "p"}, api.OK)
	take(t, x, register(2, "q", "SEQ(Z a) WITHIN 9 CAP 0"), api.OK)
	take(t, x, put(api.Event{Time: 3, Seq: 4}), api.OK)
	take(t, x, put(api.Event{Type: "Z", Time: 3, Seq: 5}), api.OK)
	take(t, x, put(api.Event{Type: "Z", Time: math.MaxInt64, Seq: -5}), api.OK)
	take(t, x, advance(api.MaxTime), api.OK, "q '' 3/5 0:5 by 1")
	check(t, x, api.MaxTime, 1, 0, false)
}

// TestLost holds that where runs are lost that is told in its place, and that no more are kept.
func TestLost(t *testing.T) {
	x := engine.New(sample.Schema())
	take(t, x, register(1, "p", "SEQ(A a{1,2}) WITHIN 9 CAP 1"), api.OK)
	for seq := int64(2); seq < 5; seq++ {
		take(t, x, put(at("A", "k", seq, seq)), api.OK)
	}
	take(t, x, advance(4), api.OK,
		"p 'k' 2/2 0:2 by 0",
		"p 'k' 3/3 0:2 0:3 by 0", "p 'k' 3/3 0:3 by 0", "p 'k' 3/3 lost by 0",
		"p 'k' 4/4 0:2 0:4 by 0", "p 'k' 4/4 0:4 by 0", "p 'k' 4/4 lost by 0")
	check(t, x, 4, 0, 1, false)
}

func TestRoom(t *testing.T) {
	x := engine.New(sample.Schema())
	e := at("A", "k", 5, 1)
	for range api.MaxHeap {
		if _, err := x.Take(put(e)); err != api.OK {
			t.Fatalf("got %d", err)
		}
	}
	take(t, x, put(at("A", "k", 6, 2)), api.ErrBig)
	take(t, x, put(at("A", "k", -1, 2)), api.ErrLate)
	check(t, x, -1, api.MaxHeap, 0, false)
	image := x.Save()
	image.Events = append(image.Events, at("A", "k", 5, 1))
	if y, err := engine.Load(sample.Schema(), image); y != nil || err != api.ErrBig {
		t.Errorf("got %d", err)
	}
	take(t, x, advance(5), api.OK)
	take(t, x, put(at("A", "k", 6, 2)), api.OK)
	check(t, x, 5, 1, 0, false)
}

// image is an engine as it is kept elsewhere, with one of all that there may be.
func image() api.Image {
	a := at("A", "k", 3, 2)
	return api.Image{
		Mark: 4,
		Entries: []api.Entry{
			{Id: "p", Q: sample.Query("SEQ(A a, !C n, B b) WITHIN 9"), From: 1, To: 7},
			{Id: "q", Q: sample.Query("SEQ(B b) WITHIN 9"), From: 5},
		},
		Events: []api.Event{at("B", "k", 6, 6), at("B", "k", 6, 8)},
		Slots: []api.Slot{{Key: "k", Runs: []api.Saved{
			{State: 1, Pairs: []api.Pair{{Elem: 0, Seq: 2}}, Env: []api.Bound{{Var: "a", E: a}}, First: 3, Last: api.Stamp{Time: 3, Seq: 2}},
		}}},
	}
}

func TestSave(t *testing.T) {
	x := engine.New(sample.Schema())
	if got := x.Save(); !sample.SameImage(got, api.Image{Mark: -1}) {
		t.Errorf("got %v", got)
	}
	take(t, x, register(1, "p", "SEQ(A a, !C n, B b) WITHIN 9"), api.OK)
	take(t, x, put(at("A", "k", 3, 2)), api.OK)
	take(t, x, put(at("B", "l", 3, 3)), api.OK)
	take(t, x, advance(4), api.OK)
	take(t, x, register(5, "q", "SEQ(B b) WITHIN 9"), api.OK)
	take(t, x, put(at("B", "k", 6, 8)), api.OK)
	take(t, x, put(at("B", "k", 6, 6)), api.OK)
	take(t, x, unregister(7, "p"), api.OK)
	if got := x.Save(); !sample.SameImage(got, image()) {
		t.Errorf("got %v", got)
	}
	take(t, x, end(), api.OK)
	want := image()
	want.Closed = true
	if got := x.Save(); !sample.SameImage(got, want) {
		t.Errorf("got %v", got)
	}
}

func TestLoad(t *testing.T) {
	x, e := engine.Load(sample.Schema(), image())
	if e != api.OK || !sample.SameImage(x.Save(), image()) {
		t.Fatalf("got %d, %v", e, x.Save())
	}
	check(t, x, 4, 2, 1, false)
	take(t, x, put(at("A", "k", 4, 9)), api.ErrLate)
	take(t, x, unregister(8, "p"), api.ErrNone)
	take(t, x, advance(6), api.OK, "p 'k' 6/6 0:2 2:6 by 0", "q 'k' 6/6 0:6 by 1", "q 'k' 6/8 0:8 by 1")
	closed := image()
	closed.Closed = true
	y, e := engine.Load(sample.Schema(), closed)
	if e != api.OK {
		t.Fatalf("got %d", e)
	}
	check(t, y, 4, 2, 1, true)
	take(t, y, advance(6), api.ErrClosed)
}

func TestLoadErrors(t *testing.T) {
	cases := []struct {
		name   string
		change func(i *api.Image)
		want   api.Errno
	}{
		{"as it is", func(i *api.Image) {}, api.OK},
		{"of nothing", func(i *api.Image) { *i = api.Image{Mark: -1} }, api.OK},
		{"at 0", func(i *api.Image) { *i = api.Image{} }, api.OK},
		{"at the last time", func(i *api.Image) { *i = api.Image{Mark: api.MaxTime} }, api.OK},
		{"at no time", func(i *api.Image) { i.Mark = -2 }, api.ErrTime},
		{"behind the last time", func(i *api.Image) { i.Mark = api.MaxTime + 1 }, api.ErrTime},
		{"at the least number", func(i *api.Image) { i.Mark = math.MinInt64 }, api.ErrTime},
		{"no name", func(i *api.Image) { i.Entries[1].Id = "" }, api.ErrKey},
		{"falling", func(i *api.Image) { i.Entries[1].From = 1 }, api.ErrOrder},
		{"twice", func(i *api.Image) { i.Entries[1].Id = "p" }, api.ErrTwice},
		{"too many", func(i *api.Image) { i.Entries = make([]api.Entry, api.MaxQueries+1) }, api.ErrBig},
		{"an event whose time has passed", func(i *api.Image) { i.Events[1].Time = 4 }, api.ErrLate},
		{"an event that may not be", func(i *api.Image) { i.Events[1] = api.Event{Time: 5} }, api.OK},
		{"a place that there is not", func(i *api.Image) { i.Slots[0].Place = 2 }, api.OK},
		{"no time ahead of no name", func(i *api.Image) { i.Mark, i.Entries[0].Id = -2, "" }, api.ErrTime},
		{"no name ahead of what has passed", func(i *api.Image) { i.Entries[0].Id, i.Events[0].Time = "", 0 }, api.ErrKey},
	}
	for _, c := range cases {
		i := image()
		c.change(&i)
		x, e := engine.Load(sample.Schema(), i)
		if e != c.want || (x == nil) != (e != api.OK) {
			t.Errorf("%s: got %d", c.name, e)
		}
	}
}

func TestOfNone(t *testing.T) {
	var none *engine.Engine
	for _, m := range []api.Msg{{}, end(), put(at("A", "k", 5, 1)), advance(5), register(1, "p", "SEQ(A a) WITHIN 9")} {
		take(t, none, m, api.ErrInput)
	}
	if none.Mark() != (mark.Mark{}) || none.Kept() != 0 || !none.Closed() || none.Live() != 0 || !none.Within() || !sample.SameImage(none.Save(), api.Image{}) {
		t.Errorf("none has something: %v", none.Save())
	}
	for _, x := range []*engine.Engine{{}, engine.New(nil)} {
		for _, m := range []api.Msg{put(at("A", "k", 5, 1)), register(2, "p", "SEQ(A a) WITHIN 9"), put(at("A", "k", 5, 3)), unregister(4, "p"), advance(5), end()} {
			x.Take(m)
		}
		check(t, x, 5, 0, 0, true)
		x.Save()
	}
}

func TestIsTheCallers(t *testing.T) {
	x := engine.New(sample.Schema())
	r, a := register(1, "p", "SEQ(A a, B b) WHERE b: b.x = a.x WITHIN 9"), put(at("A", "k", 5, 2))
	take(t, x, r, api.OK)
	take(t, x, a, api.OK)
	r.Q.Elems[0].Types[0], r.Q.Elems[1].Pred[0] = "Z", api.Node{}
	a.E.Vals[0] = value.Num(77)
	take(t, x, advance(5), api.OK)
	take(t, x, put(at("B", "k", 6, 5)), api.OK)
	i := x.Save()
	y, _ := engine.Load(sample.Schema(), i)
	if !sample.SameImage(i, x.Save()) {
		t.Errorf("what was handed in was changed: %v", i)
	}
	i.Entries[0].Q.Elems[1].Types[0] = "Z"
	i.Events[0].Vals[0] = value.Num(77)
	i.Slots[0].Runs[0].Env[0].E.Vals[0] = value.Num(77)
	i.Slots[0].Runs[0].Pairs[0].Seq = 77
	for _, z := range []*engine.Engine{x, y} {
		l, _ := z.Take(advance(6))
		if got := texts(l); !slices.Equal(got, []string{"p 'k' 6/5 0:2 1:5 by 0"}) {
			t.Errorf("got %v", got)
			continue
		}
		l[0].Pairs[0].Seq = 77
		if got := z.Save().Slots[0].Runs[0].Pairs[0].Seq; got != 2 {
			t.Errorf("what is kept was changed: %d", got)
		}
	}
}
