package client_test

import (
	"math"
	"slices"
	"strconv"
	"testing"

	"lamplighter/api"
	"lamplighter/client"
	"lamplighter/count"
	"lamplighter/event"
	"lamplighter/front"
	"lamplighter/hash"
	"lamplighter/machine"
	"lamplighter/msg"
	"lamplighter/queue"
	"lamplighter/sample"
	"lamplighter/ticket"
	"lamplighter/value"
)

// shared is what clients share, of so many parts with so much room, and so many who count.
func shared(parts, room, many int) *client.Shared {
	s := &client.Shared{Front: front.New(sample.Schema()), Lock: ticket.New(), Counts: count.New(many)}
	for range parts {
		s.Queues = append(s.Queues, queue.New[api.Msg](room))
	}
	return s
}

// The calls.
func publish(kind, key string, time int64) api.Call {
	return api.Call{Kind: api.CallPublish, E: sample.Event(kind, key, time, 0, 7)}
}

func try(kind, key string, time int64) api.Call {
	c := publish(kind, key, time)
	c.Kind = api.CallTry
	return c
}

func advance(time int64) api.Call { return api.Call{Kind: api.CallAdvance, T: time} }

func register(id, text string) api.Call {
	return api.Call{Kind: api.CallRegister, Id: id, Text: text}
}

func unregister(id string) api.Call { return api.Call{Kind: api.CallUnregister, Id: id} }

func stats() api.Call { return api.Call{Kind: api.CallStats} }

func end() api.Call { return api.Call{Kind: api.CallClose} }

// steps lets a client do so many, each of which it can do.
func steps(t *testing.T, c *client.Client, s *client.Shared, many int) {
	t.Helper()
	for i := range many {
		was := c.Steps()
		if !c.Can(s) || !c.Step(s) || c.Steps() != was+1 {
			t.Fatalf("it can't do step %d", i)
		}
	}
}

// stuck holds that a client can do nothing, and that nothing changes by asking it to.
func stuck(t *testing.T, c *client.Client, s *client.Shared) {
	t.Helper()
	was, events := c.Steps(), len(s.Events)
	if c.Can(s) || c.Step(s) || c.Steps() != was || len(s.Events) != events {
		t.Error("it can do a step")
	}
}

func check(t *testing.T, c *client.Client, calls int, busy, done bool) {
	t.Helper()
	if c.Calls() != calls || c.Busy() != busy || c.Done() != done {
		t.Errorf("got %d, %v, %v, want %d, %v, %v", c.Calls(), c.Busy(), c.Done(), calls, busy, done)
	}
}

// noted holds all that happened so far.
func noted(t *testing.T, s *client.Shared, want ...api.Ev) {
	t.Helper()
	if !slices.Equal(s.Events, want) {
		t.Errorf("got %v, want %v", s.Events, want)
	}
}

// What happened.
func call(who, n int) api.Ev { return api.Ev{Kind: api.EvCall, Client: who, N: n} }

func turn(who, n int, e api.Errno, ticket int64) api.Ev {
	return api.Ev{Kind: api.EvTurn, Client: who, N: n, Ret: api.Ret{Err: e, Ticket: ticket}}
}

func reply(who, n int, e api.Errno, ticket int64) api.Ev {
	return api.Ev{Kind: api.EvReply, Client: who, N: n, Ret: api.Ret{Err: e, Ticket: ticket}}
}

func told(who, n int, counts ...int64) api.Ev {
	return api.Ev{Kind: api.EvReply, Client: who, N: n, Ret: api.Ret{N: [api.Counters]int64(counts)}}
}

func TestExample(t *testing.T) {
	s, c := shared(1, 1, 1), client.New(0, []api.Call{advance(5)})
	check(t, c, 0, false, false)
	steps(t, c, s, 1)
	noted(t, s, call(0, 0))
	check(t, c, 0, true, false)
	steps(t, c, s, 1)
	noted(t, s, call(0, 0), turn(0, 0, api.OK, 1))
	check(t, c, 0, true, false)
	if s.Queues[0].Len() != 0 || s.Lock.Who() != 0 || s.Counts.Of(0) != (count.Shard{api.NAdvanced: 1}) {
		t.Error("it was sent, or not counted, with the step that did it")
	}
	steps(t, c, s, 1)
	noted(t, s, call(0, 0), turn(0, 0, api.OK, 1))
	check(t, c, 0, true, false)
	if m, _ := s.Queues[0].Take(); !msg.Same(m, api.Msg{Kind: api.MsgAdvance, Ticket: 1, T: 5}) || s.Lock.Who() != 0 {
		t.Errorf("got %v", m)
	}
	steps(t, c, s, 1)
	noted(t, s, call(0, 0), turn(0, 0, api.OK, 1), reply(0, 0, api.OK, 1))
	check(t, c, 1, false, true)
	if s.Lock.Who() != api.Nobody {
		t.Error("the lock was not given back")
	}
	stuck(t, c, s)
}

// TestTargets holds that a message is put to each part that it goes to, one a step, rising, as there is room.
func TestTargets(t *testing.T) {
	s, c := shared(3, 1, 1), client.New(0, []api.Call{advance(5), end()})
	steps(t, c, s, 2)
	for part := range 3 {
		steps(t, c, s, 1)
		for other, q := range s.Queues {
			if (q.Len() == 1) != (other <= part) {
				t.Errorf("behind step %d part %d has %d", part, other, q.Len())
			}
		}
	}
	steps(t, c, s, 3)
	check(t, c, 1, true, false)
	stuck(t, c, s)
	// Room elsewhere is of no use.
	s.Queues[1].Take()
	s.Queues[2].Take()
	stuck(t, c, s)
	s.Queues[0].Take()
	steps(t, c, s, 4)
	check(t, c, 2, false, true)
	for part, q := range s.Queues {
		if m, _ := q.Take(); !msg.Same(m, api.Msg{Kind: api.MsgClose, Ticket: 2}) {
			t.Errorf("part %d: got %v", part, m)
		}
	}
	noted(t, s, call(0, 0), turn(0, 0, api.OK, 1), reply(0, 0, api.OK, 1), call(0, 1), turn(0, 1, api.OK, 2), reply(0, 1, api.OK, 2))
}

// TestEvent holds that an event goes to its key's part alone, under its number.
func TestEvent(t *testing.T) {
	for _, key := range []string{"k", "l", "m", "n", "o"} {
		s, c := shared(4, 1, 1), client.New(0, []api.Call{publish("A", key, 5), try("B", key, 6)})
		part := hash.Part(key, 4)
		steps(t, c, s, 4)
		for other, q := range s.Queues {
			if (q.Len() == 1) != (other == part) {
				t.Errorf("%s: part %d has %d", key, other, q.Len())
			}
		}
		if m, _ := s.Queues[part].Take(); !msg.Same(m, api.Msg{Kind: api.MsgEvent, Ticket: 1, E: sample.Event("A", key, 5, 1, 7)}) {
			t.Errorf("%s: got %v", key, m)
		}
		steps(t, c, s, 4)
		if m, _ := s.Queues[part].Take(); !msg.Same(m, api.Msg{Kind: api.MsgEvent, Ticket: 2, E: sample.Event("B", key, 6, 2, 7)}) {
			t.Errorf("%s: got %v", key, m)
		}
		check(t, c, 2, false, true)
	}
}

// TestTry holds that a try that would be done, but finds no room where it goes, does nothing and counts for nothing.
func TestTry(t *testing.T) {
	s := shared(2, 1, 1)
	key, other := "k", "l"
	for hash.Part(other, 2) == hash.Part(key, 2) {
		other += "l"
	}
	c := client.New(0, []api.Call{publish("A", key, 5), try("A", key, 6), try("A", other, 6), try("Z", key, 6), publish("A", key, 7)})
	steps(t, c, s, 4)
	steps(t, c, s, 1)
	was := s.Counts.Sum()
	steps(t, c, s, 2)
	check(t, c, 2, false, false)
	if s.Counts.Sum() != was || s.Front.Ticket() != 1 || s.Queues[0].Len()+s.Queues[1].Len() != 1 || s.Lock.Who() != api.Nobody {
		t.Errorf("something was done: %v, %d", s.Counts.Sum(), s.Front.Ticket())
	}
	noted(t, s, call(0, 0), turn(0, 0, api.OK, 1), reply(0, 0, api.OK, 1), call(0, 1), turn(0, 1, api.ErrFull, 0), reply(0, 1, api.ErrFull, 0))
	s.Events = nil
	// The other part has room; and what is refused is told of, whether there is room or not.
	steps(t, c, s, 7)
	noted(t, s, call(0, 2), turn(0, 2, api.OK, 2), reply(0, 2, api.OK, 2), call(0, 3), turn(0, 3, api.ErrType, 0), reply(0, 3, api.ErrType, 0))
	if got := s.Counts.Sum(); got != (count.Shard{api.NAccepted: 2, api.NRefused: 1}) {
		t.Errorf("got %v", got)
	}
	// A call that waits does so, though it is done.
	steps(t, c, s, 2)
	stuck(t, c, s)
	check(t, c, 4, true, false)
	if s.Queues[hash.Part(key, 2)].Take(); s.Front.Ticket() != 3 {
		t.Errorf("got %d", s.Front.Ticket())
	}
	steps(t, c, s, 2)
	check(t, c, 5, false, true)
	for _, q := range s.Queues {
		if _, _, full := q.Counts(); full != 0 {
			t.Errorf("room was asked for %d times", full)
		}
	}
}

// TestTryInTurn holds that it is asked for room when the call is done, not when it begins.
func TestTryInTurn(t *testing.T) {
	s := shared(1, 1, 1)
	c := client.New(0, []api.Call{try("A", "k", 5), try("A", "k", 5)})
	s.Queues[0].Put(api.Msg{})
	steps(t, c, s, 1)
	s.Queues[0].Take()
	steps(t, c, s, 4)
	s.Queues[0].Take()
	s.Queues[0].Put(api.Msg{})
	steps(t, c, s, 2)
	noted(t, s, call(0, 0), turn(0, 0, api.OK, 1), reply(0, 0, api.OK, 1), call(0, 1), turn(0, 1, api.ErrFull, 0), reply(0, 1, api.ErrFull, 0))
}

// TestRefused holds that a call that is refused goes nowhere, but is counted.
func TestRefused(t *testing.T) {
	l := []api.Call{advance(5), advance(5), publish("A", "k", 5), try("A", "k", 4), register("p", "SEQ(A a)"), unregister("p"), {}, {Kind: 8}, end(), end(), publish("A", "k", 9)}
	want := []api.Errno{api.OK, api.ErrOrder, api.ErrLate, api.ErrLate, api.ErrForm, api.ErrNone, api.ErrInput, api.ErrInput, api.OK, api.ErrClosed, api.ErrClosed}
	s, c := shared(1, 9, 2), client.New(1, l)
	var events []api.Ev
	var ticket int64
	for n, e := range want {
		many, number := 3, int64(0)
		if e == api.OK {
			ticket++
			many, number = 4, ticket
		}
		steps(t, c, s, many)
		events = append(events, call(1, n), turn(1, n, e, number), reply(1, n, e, number))
		check(t, c, n+1, false, n == len(want)-1)
	}
	noted(t, s, events...)
	if s.Counts.Of(1) != (count.Shard{api.NAdvanced: 1, api.NLate: 2, api.NRefused: 7}) || s.Counts.Of(0) != (count.Shard{}) {
		t.Errorf("got %v, %v", s.Counts.Of(0), s.Counts.Of(1))
	}
	if s.Queues[0].Len() != 2 || c.Steps() != 3*9+4*2 {
		t.Errorf("got %d, %d", s.Queues[0].Len(), c.Steps())
	}
}

// TestLock holds that calls are done one behind the other, by those who asked, in their order.
func TestLock(t *testing.T) {
	s := shared(1, 1, 3)
	var l []*client.Client
	for who := range 3 {
		l = append(l, client.New(who, []api.Call{advance(int64(who) + 1)}))
	}
	for _, who := range []int{2, 0, 1} {
		steps(t, l[who], s, 1)
	}
	if s.Lock.Who() != 2 || s.Lock.Waiting() != 2 {
		t.Errorf("got %d, %d", s.Lock.Who(), s.Lock.Waiting())
	}
	stuck(t, l[0], s)
	stuck(t, l[1], s)
	steps(t, l[2], s, 2)
	stuck(t, l[0], s)
	steps(t, l[2], s, 1)
	stuck(t, l[1], s)
	steps(t, l[0], s, 1)
	stuck(t, l[1], s)
	steps(t, l[0], s, 1)
	steps(t, l[1], s, 2)
	noted(t, s, call(2, 0), call(0, 0), call(1, 0), turn(2, 0, api.OK, 1), reply(2, 0, api.OK, 1),
		turn(0, 0, api.ErrOrder, 0), reply(0, 0, api.ErrOrder, 0), turn(1, 0, api.ErrOrder, 0), reply(1, 0, api.ErrOrder, 0))
}

// TestStats holds that counts are read one a step, without the lock, each as it is then.
func TestStats(t *testing.T) {
	s := shared(1, 9, 3)
	c := client.New(1, []api.Call{stats(), stats()})
	s.Lock.Ask(0)
	s.Counts.Add(0, 0)
	s.Counts.Add(1, 1)
	steps(t, c, s, 1)
	noted(t, s, call(1, 0))
	check(t, c, 0, true, false)
	s.Counts.Add(0, 0)
	steps(t, c, s, 1)
	s.Counts.Add(0, 0)
	s.Counts.Add(1, 1)
	steps(t, c, s, 1)
	s.Counts.Add(1, 1)
	s.Counts.Add(2, 2)
	check(t, c, 0, true, false)
	steps(t, c, s, 1)
	noted(t, s, call(1, 0), told(1, 0, 2, 2, 1, 0, 0, 0))
	check(t, c, 1, false, false)
	steps(t, c, s, 4)
	noted(t, s, call(1, 0), told(1, 0, 2, 2, 1, 0, 0, 0), call(1, 1), told(1, 1, 3, 3, 1, 0, 0, 0))
	check(t, c, 2, false, true)
	if s.Counts.Sum() != (count.Shard{3, 3, 1}) || s.Lock.Who() != 0 || s.Front.Ticket() != 0 {
		t.Error("something else was done")
	}
	// It is not asked whether there is something else to tell: it is closed, too.
	s = shared(1, 9, 1)
	c = client.New(0, []api.Call{end(), stats()})
	steps(t, c, s, 6)
	check(t, c, 2, false, true)
	noted(t, s, call(0, 0), turn(0, 0, api.OK, 1), reply(0, 0, api.OK, 1), call(0, 1), told(0, 1, 0, 0, 0, 0, 0, 0))
}

// drawn draws a call, around a time.
func drawn(d *sample.Dice, time int64) api.Call {
	switch d.Below(8) {
	case 0:
		return advance(time + int64(d.Below(4)) - 2)
	case 1:
		return register(d.Pick("p", "q", "and"), "SEQ(A a, "+d.Pick("A", "B")+" b) WITHIN "+strconv.Itoa(d.Below(9)))
	case 2:
		return unregister(d.Pick("p", "q"))
	case 3:
		return stats()
	case 4:
		return try(d.Pick("A", "B", "Z"), d.Pick("k", "l", "m", "n"), time+int64(d.Below(9))-3)
	case 5:
		if d.Below(20) == 0 {
			return end()
		}
	}
	return publish(d.Pick("A", "B", "Z"), d.Pick("k", "l", "m", "n", ""), time+int64(d.Below(9))-3)
}

// TestOneBehindTheOther holds that calls tell what a machine tells, that does them in the order in which they were done, and that each part gets what goes to it, in that order.
func TestOneBehindTheOther(t *testing.T) {
	d := sample.Dice(1)
	for range 200 {
		many, parts := 1+d.Below(4), 1+d.Below(3)
		s, m := shared(parts, 1+d.Below(3), many), machine.New(sample.Schema())
		f := front.New(sample.Schema())
		var l []*client.Client
		var scripts [][]api.Call
		for who := range many {
			var calls []api.Call
			for i := range int64(12) {
				calls = append(calls, drawn(&d, i))
			}
			scripts = append(scripts, calls)
			l = append(l, client.New(who, calls))
		}
		got, want := make([][]api.Msg, parts), make([][]api.Msg, parts)
		for slices.ContainsFunc(l, func(c *client.Client) bool { return !c.Done() }) {
			l[d.Below(many)].Step(s)
			part := d.Below(2 * parts)
			if part >= parts {
				continue
			}
			if taken, e := s.Queues[part].Take(); e == api.OK {
				got[part] = append(got[part], taken)
			}
		}
		for part, q := range s.Queues {
			for taken, e := q.Take(); e == api.OK; taken, e = q.Take() {
				got[part] = append(got[part], taken)
			}
		}
		for _, e := range s.Events {
			if e.Kind != api.EvTurn || e.Ret.Err == api.ErrFull {
				continue
			}
			c := scripts[e.Client][e.N]
			if ret := m.Do(c); ret != e.Ret {
				t.Fatalf("%v: got %v, want %v", c, e.Ret, ret)
			}
			if message, e := f.Admit(c); e == api.OK {
				for _, part := range msg.Targets(message, parts) {
					want[part] = append(want[part], message)
				}
			}
		}
		if m.Counts() != s.Counts.Sum() || m.Mark() != s.Front.Mark() || s.Lock.Who() != api.Nobody {
			t.Fatalf("got %v, want %v", s.Counts.Sum(), m.Counts())
		}
		for part := range parts {
			if !slices.EqualFunc(got[part], want[part], msg.Same) {
				t.Fatalf("part %d: got %v, want %v", part, got[part], want[part])
			}
		}
	}
}

func TestOfNone(t *testing.T) {
	s := shared(1, 1, 1)
	var none *client.Client
	for _, c := range []*client.Client{none, {}, client.New(0, nil), client.New(5, []api.Call{})} {
		check(t, c, 0, false, true)
		stuck(t, c, s)
		if c.Can(nil) || c.Step(nil) || c.Steps() != 0 {
			t.Error("it can do a step of nothing")
		}
	}
	c := client.New(0, []api.Call{advance(5)})
	if c.Can(nil) || c.Step(nil) || c.Busy() {
		t.Error("it can do a step of nothing")
	}
}

// TestNothingShared holds that where something is missing no call panics: it waits, or is refused.
func TestNothingShared(t *testing.T) {
	empty, s := &client.Shared{}, shared(0, 1, 1)
	for _, c := range []api.Call{advance(5), try("A", "k", 5), publish("A", "k", 5), stats(), {}} {
		for _, l := range []*client.Shared{empty, s} {
			x := client.New(0, []api.Call{c})
			for range 9 {
				x.Step(l)
			}
		}
	}
	s = shared(0, 1, 1)
	s.Queues = append(s.Queues, nil)
	x := client.New(0, []api.Call{try("A", "k", 5), publish("A", "k", 5)})
	steps(t, x, s, 5)
	stuck(t, x, s)
	noted(t, s, call(0, 0), turn(0, 0, api.ErrFull, 0), reply(0, 0, api.ErrFull, 0), call(0, 1), turn(0, 1, api.OK, 1))
}

// TestWho holds that who is below 0 is 0, and that who has no place among those who count still does calls.
func TestWho(t *testing.T) {
	for who, want := range map[int]int{math.MinInt: 0, -1: 0, 0: 0, 7: 7, math.MaxInt: math.MaxInt} {
		s := shared(1, 1, 1)
		c := client.New(who, []api.Call{advance(5)})
		steps(t, c, s, 4)
		noted(t, s, call(want, 0), turn(want, 0, api.OK, 1), reply(want, 0, api.OK, 1))
		if (s.Counts.Sum() == count.Shard{}) != (want > 0) {
			t.Errorf("%d: got %v", who, s.Counts.Sum())
		}
	}
}

func TestIsTheCallers(t *testing.T) {
	s, l := shared(2, 9, 1), []api.Call{publish("A", "k", 5), register("p", "SEQ(A a) WITHIN 9")}
	c := client.New(0, l)
	l[0].E.Vals[0] = value.Num(77)
	l[1].Text = ""
	steps(t, c, s, 4)
	part := hash.Part("k", 2)
	if m, _ := s.Queues[part].Take(); !event.Same(m.E, sample.Event("A", "k", 5, 1, 7)) {
		t.Errorf("got %v", m)
	}
	steps(t, c, s, 5)
	a, _ := s.Queues[0].Take()
	a.Q.Elems[0].Types[0] = "Z"
	if b, _ := s.Queues[1].Take(); b.Q.Elems[0].Types[0] != "A" {
		t.Errorf("two parts have one message: %v", b)
	}
}
