package msg_test

import (
	"math"
	"slices"
	"testing"

	"lamplighter/api"
	"lamplighter/hash"
	"lamplighter/msg"
	"lamplighter/value"
)

func query() api.Query {
	return api.Query{Elems: []api.Elem{{Var: "a", Types: []string{"A"}, Min: 1, Max: 1, Pred: []api.Node{{Op: api.OpConst, V: value.Truth(true)}}}}, Window: 9, Cap: 5}
}

func put(key string, ticket int64) api.Msg {
	return api.Msg{Kind: api.MsgEvent, Ticket: ticket, E: api.Event{Type: "A", Key: key, Time: 5, Seq: ticket, Vals: []api.Value{value.Num(7)}}}
}

// all is messages of all kinds, each under a number of its own.
func all() []api.Msg {
	return []api.Msg{
		{Kind: api.MsgRegister, Ticket: 1, Id: "p", Q: query()},
		put("k", 2), put("l", 3), put("m", 4), put("", 5), put("k", 6),
		{Kind: api.MsgAdvance, Ticket: 7, T: 5},
		{Kind: api.MsgUnregister, Ticket: 8, Id: "p"},
		put("n", 9),
		{Kind: api.MsgClose, Ticket: 10},
		{},
		{Kind: -1, E: put("k", 0).E},
	}
}

// rising is the numbers from 0 on.
func rising(many int) []int {
	var l []int
	for i := range many {
		l = append(l, i)
	}
	return l
}

// parts is how many parts there are where so many are asked for.
var parts = map[int]int{
	math.MinInt: 1, -1: 1, 0: 1, 1: 1, 2: 2, 3: 3, 64: 64, 65: 64, math.MaxInt: 64,
}

func TestExample(t *testing.T) {
	if got := msg.Targets(put("k", 1), 4); len(got) != 1 {
		t.Errorf("got %v", got)
	}
}

func TestTargets(t *testing.T) {
	for _, m := range all() {
		if got := msg.All(m); got != (m.Kind != api.MsgEvent) {
			t.Errorf("All of %v: got %v", m, got)
		}
		for given, many := range parts {
			want := rising(many)
			if m.Kind == api.MsgEvent {
				want = []int{hash.Part(m.E.Key, many)}
			}
			if got := msg.Targets(m, given); !slices.Equal(got, want) {
				t.Errorf("%v, of %d: got %v, want %v", m, given, got, want)
			}
		}
	}
}

// TestSame holds that each thing about a message tells it from others.
func TestSame(t *testing.T) {
	full := func() api.Msg {
		m := put("k", 7)
		m.T, m.Id, m.Q = 5, "p", query()
		return m
	}
	but := func(change func(m *api.Msg)) api.Msg {
		m := full()
		change(&m)
		return m
	}
	unlike := func() []api.Msg {
		return []api.Msg{
			{},
			full(),
			but(func(m *api.Msg) { m.Kind = api.MsgClose }),
			but(func(m *api.Msg) { m.Ticket = 8 }),
			but(func(m *api.Msg) { m.E.Key = "l" }),
			but(func(m *api.Msg) { m.E.Seq = 8 }),
			but(func(m *api.Msg) { m.E.Vals[0].I = 8 }),
			but(func(m *api.Msg) { m.E.Vals = nil }),
			but(func(m *api.Msg) { m.T = 6 }),
			but(func(m *api.Msg) { m.Id = "" }),
			but(func(m *api.Msg) { m.Q.Cap = 6 }),
			but(func(m *api.Msg) { m.Q.Elems[0].Types[0] = "B" }),
			but(func(m *api.Msg) { m.Q = api.Query{} }),
		}
	}
	for i, a := range unlike() {
		for j, b := range unlike() {
			if got := msg.Same(a, b); got != (i == j) {
				t.Errorf("%v, %v: got %v", a, b, got)
			}
		}
	}
	empty := but(func(m *api.Msg) { m.E.Vals, m.Q.Elems = []api.Value{}, []api.Elem{} })
	if !msg.Same(empty, but(func(m *api.Msg) { m.E.Vals, m.Q.Elems = nil, nil })) {
		t.Error("empty lists and none are unlike")
	}
}

// TestFor holds that each part gets just what goes there, in order.
func TestFor(t *testing.T) {
	for given, many := range parts {
		for part := range many {
			var want []api.Msg
			for _, m := range all() {
				if m.Kind != api.MsgEvent || hash.Part(m.E.Key, many) == part {
					want = append(want, m)
				}
			}
			if got := msg.For(all(), part, given); !slices.EqualFunc(got, want, msg.Same) {
				t.Errorf("%d of %d: got %v, want %v", part, given, got, want)
			}
		}
		for _, part := range []int{math.MinInt, -1, many, math.MaxInt} {
			if got := msg.For(all(), part, given); len(got) != 0 {
				t.Errorf("%d of %d: got %v", part, given, got)
			}
		}
	}
	if len(msg.For(nil, 0, 1)) != 0 {
		t.Error("of nothing something goes there")
	}
}

func TestIsTheCallers(t *testing.T) {
	l := all()
	got := msg.For(l, 0, 1)
	spoil := func(l []api.Msg) {
		l[0].Q.Elems[0].Types[0], l[0].Q.Elems[0].Pred[0] = "Z", api.Node{}
		l[1].E.Vals[0] = value.Num(77)
		l[0], l[1] = api.Msg{}, api.Msg{}
	}
	spoil(got)
	if !slices.EqualFunc(l, all(), msg.Same) {
		t.Errorf("what was handed in was changed: %v", l)
	}
	got = msg.For(l, 0, 1)
	msg.Targets(l[0], 4)[0] = 77
	spoil(l)
	if !slices.EqualFunc(got, all(), msg.Same) {
		t.Errorf("what was told was changed: %v", got)
	}
}
