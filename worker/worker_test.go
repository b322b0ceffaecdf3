package worker_test

import (
	"math"
	"slices"
	"testing"

	"lamplighter/api"
	"lamplighter/emit"
	"lamplighter/engine"
	"lamplighter/queue"
	"lamplighter/sample"
	"lamplighter/value"
	"lamplighter/worker"
)

// part is a worker with its queues.
type part struct {
	*worker.Worker
	in  *queue.Queue[api.Msg]
	out *queue.Queue[api.Batch]
}

// with is a worker of a part, with room for so many batches.
func with(number, room int) part {
	in, out := queue.New[api.Msg](100), queue.New[api.Batch](room)
	return part{worker.New(sample.Schema(), number, in, out), in, out}
}

// The messages.
func put(kind, key string, time, seq int64) api.Msg {
	return api.Msg{Kind: api.MsgEvent, Ticket: seq, E: sample.Event(kind, key, time, seq, 7)}
}

func advance(time int64) api.Msg { return api.Msg{Kind: api.MsgAdvance, T: time} }

func register(ticket int64, id, text string) api.Msg {
	return api.Msg{Kind: api.MsgRegister, Ticket: ticket, Id: id, Q: sample.Query(text)}
}

func end() api.Msg { return api.Msg{Kind: api.MsgClose} }

// steps lets it do so many, each of which it can do.
func (p part) steps(t *testing.T, many int) {
	t.Helper()
	for i := range many {
		if !p.Can() || !p.Step() {
			t.Fatalf("it can't do step %d", i)
		}
	}
}

// stuck holds that it can do nothing, and that nothing changes by asking it to.
func (p part) stuck(t *testing.T) {
	t.Helper()
	taken, kept, done := p.Taken(), p.Kept(), p.Done()
	if p.Can() || p.Step() || p.Taken() != taken || p.Kept() != kept || p.Done() != done {
		t.Error("it can do a step")
	}
}

func (p part) check(t *testing.T, taken, kept int, mark int64, done bool) {
	t.Helper()
	if p.Taken() != taken || p.Kept() != kept || p.Mark() != mark || p.Done() != done || !p.Within() {
		t.Errorf("got %d, %d, %d, %v, %v, want %d, %d, %d, %v", p.Taken(), p.Kept(), p.Mark(), p.Done(), p.Within(), taken, kept, mark, done)
	}
}

// batch takes what was told, and holds it.
func (p part) batch(t *testing.T, time int64, last bool, want ...string) {
	t.Helper()
	b, e := p.out.Take()
	var got []string
	for _, o := range b.Outs {
		got = append(got, emit.Show(o))
	}
	if e != api.OK || b.Time != time || b.Last != last || !slices.Equal(got, want) {
		t.Errorf("got %d, %+v, want %d, %v, %v", e, b, time, last, want)
	}
}

func TestExample(t *testing.T) {
	p := with(3, 1)
	p.in.Put(advance(5))
	p.stuckAfter(t, 2)
	b, _ := p.out.Take()
	if b.Part != 3 || b.Time != 5 || b.Last || len(b.Outs) != 0 {
		t.Errorf("got %+v", b)
	}
}

// stuckAfter holds that it can do so many steps, and no more.
func (p part) stuckAfter(t *testing.T, many int) {
	t.Helper()
	p.steps(t, many)
	p.stuck(t)
}

func TestSteps(t *testing.T) {
	p := with(1, 1)
	p.stuck(t)
	p.check(t, 0, 0, -1, false)
	p.in.Put(register(1, "p", "SEQ(A a) WITHIN 9"))
	p.in.Put(put("A", "k", 4, 2))
	p.in.Put(put("A", "k", 3, 3))
	p.in.Put(put("A", "k", 6, 4))
	p.steps(t, 3)
	p.check(t, 3, 2, -1, false)
	p.stuckAfter(t, 1)
	p.check(t, 4, 3, -1, false)
	p.in.Put(advance(4))
	p.steps(t, 1)
	p.check(t, 5, 1, 4, false)
	if p.out.Len() != 0 {
		t.Error("it told with the step that took")
	}
	p.stuckAfter(t, 1)
	p.check(t, 5, 1, 4, false)
	p.batch(t, 4, false, "p 'k' 3/3 0:3", "p 'k' 4/2 0:2")
}

// TestRoom holds that it takes nothing while what it has to tell finds no room.
func TestRoom(t *testing.T) {
	p := with(0, 1)
	p.in.Put(advance(4))
	p.in.Put(advance(5))
	p.in.Put(put("A", "k", 9, 3))
	p.stuckAfter(t, 3)
	p.check(t, 2, 0, 5, false)
	p.batch(t, 4, false)
	p.stuckAfter(t, 2)
	p.check(t, 3, 1, 5, false)
	p.batch(t, 5, false)
	p.stuck(t)
	p.in.Put(advance(6))
	p.steps(t, 1)
	p.out.Close()
	p.stuck(t)
}

func TestClose(t *testing.T) {
	p := with(2, 1)
	p.in.Put(advance(4))
	p.in.Put(put("A", "k", 9, 2))
	p.in.Put(end())
	p.in.Put(advance(9))
	p.steps(t, 3)
	p.stuckAfter(t, 1)
	p.check(t, 3, 1, 4, false)
	p.batch(t, 4, false)
	p.steps(t, 1)
	p.check(t, 3, 1, 4, true)
	p.stuck(t)
	b, _ := p.out.Take()
	if b.Part != 2 || b.Time != 4 || !b.Last || len(b.Outs) != 0 {
		t.Errorf("got %+v", b)
	}
	p.stuck(t)
	if p.in.Len() != 1 {
		t.Error("it took what stood behind the end")
	}
	// Of one that knows nothing the last batch is at -1.
	p = with(0, 1)
	p.in.Put(end())
	p.stuckAfter(t, 2)
	p.check(t, 1, 0, -1, true)
	p.batch(t, -1, true)
}

// TestRefused holds that what the engine refuses is taken all the same, and that there is a batch of each advance.
func TestRefused(t *testing.T) {
	p := with(0, 9)
	p.in.Put(advance(4))
	p.in.Put(put("A", "k", 4, 2))
	p.in.Put(api.Msg{Kind: 6, T: 9})
	p.in.Put(api.Msg{})
	p.in.Put(api.Msg{Kind: api.MsgUnregister, Ticket: 3, Id: "p"})
	p.stuckAfter(t, 6)
	p.check(t, 5, 0, 4, false)
	p.batch(t, 4, false)
	for _, time := range []int64{4, 3, -1, math.MinInt64, math.MaxInt64} {
		p.in.Put(advance(time))
		p.stuckAfter(t, 2)
		p.batch(t, time, false)
	}
	p.check(t, 10, 0, 4, false)
}

// TestLost holds that what is told of lost runs stands in its place.
func TestLost(t *testing.T) {
	p := with(0, 1)
	p.in.Put(register(1, "p", "SEQ(A a, B b) WITHIN 9 CAP 1"))
	p.in.Put(put("A", "k", 1, 2))
	p.in.Put(put("A", "k", 2, 3))
	p.in.Put(put("B", "k", 3, 4))
	p.in.Put(advance(3))
	p.stuckAfter(t, 6)
	p.batch(t, 3, false, "p 'k' 2/3 lost", "p 'k' 3/4 0:2 1:4")
	p.check(t, 5, 0, 3, false)
}

// TestAsTheEngine holds that it tells what an engine tells, message by message, in as many steps.
func TestAsTheEngine(t *testing.T) {
	d := sample.Dice(1)
	for range 50 {
		p, x := with(7, 1), engine.New(sample.Schema())
		for ticket := range int64(40) {
			m := put(d.Pick("A", "B", "C"), d.Pick("k", "l"), ticket+int64(d.Below(9))-2, ticket+1)
			switch d.Below(6) {
			case 0:
				m = register(ticket+1, d.Pick("p", "q"), d.Query(5))
			case 1:
				m = advance(ticket + int64(d.Below(4)) - 1)
			}
			p.in.Put(m)
			want, _ := x.Take(m)
			p.steps(t, 1)
			if m.Kind == api.MsgAdvance {
				p.steps(t, 1)
				if b, _ := p.out.Take(); b.Part != 7 || b.Time != m.T || !emit.SameAll(b.Outs, want) {
					t.Fatalf("got %+v, want %v", b, want)
				}
			}
			p.check(t, int(ticket)+1, x.Kept(), x.Mark().At(), false)
			p.stuck(t)
		}
	}
}

func TestOfNone(t *testing.T) {
	part{}.check(t, 0, 0, -1, true)
	part{}.stuck(t)
	part{Worker: &worker.Worker{}}.check(t, 0, 0, -1, false)
	part{Worker: &worker.Worker{}}.stuck(t)
	part{Worker: worker.New(nil, -1, nil, nil)}.stuck(t)
	// One that nothing can be told to waits for ever.
	in := queue.New[api.Msg](1)
	in.Put(advance(5))
	p := part{Worker: worker.New(nil, math.MaxInt, in, nil)}
	p.stuckAfter(t, 1)
	p.check(t, 1, 0, 5, false)
}

func TestIsTheCallers(t *testing.T) {
	p := with(0, 1)
	r, a := register(1, "p", "SEQ(A a, B b) WHERE b: b.x = a.x WITHIN 9"), put("A", "k", 1, 2)
	p.in.Put(r)
	p.in.Put(a)
	p.steps(t, 2)
	r.Q.Elems[0].Types[0], r.Q.Elems[1].Pred[0] = "Z", api.Node{}
	a.E.Vals[0] = value.Num(77)
	p.in.Put(put("B", "k", 2, 3))
	p.in.Put(advance(2))
	p.steps(t, 3)
	b, _ := p.out.Take()
	b.Outs[0].Pairs[0].Seq = 77
	p.in.Put(put("B", "k", 3, 5))
	p.in.Put(advance(3))
	p.steps(t, 3)
	p.batch(t, 3, false, "p 'k' 3/5 0:2 1:5")
}
