package merge_test

import (
	"math"
	"slices"
	"testing"

	"lamplighter/api"
	"lamplighter/emit"
	"lamplighter/merge"
	"lamplighter/queue"
	"lamplighter/sample"
)

// middle is a merger with its queues.
type middle struct {
	*merge.Merger
	in  *queue.Queue[api.Batch]
	out *queue.Queue[api.Out]
}

// of is a merger of so many parts, with room for so many things.
func of(parts, room int) middle {
	in, out := queue.New[api.Batch](1000), queue.New[api.Out](room)
	return middle{merge.New(parts, in, out), in, out}
}

// thing is a match of a key, by the event of a time and a number.
func thing(key string, time, seq int64) api.Out {
	return api.Out{Kind: api.OutMatch, Query: "p", Key: key, Time: time, Seq: seq, Pairs: sample.Pairs(0, seq)}
}

// batch puts what a part tells.
func (m middle) batch(part int, time int64, l ...api.Out) {
	m.in.Put(api.Batch{Part: part, Time: time, Outs: l})
}

func (m middle) last(part int, time int64, l ...api.Out) {
	m.in.Put(api.Batch{Part: part, Time: time, Outs: l, Last: true})
}

// steps holds that it can do so many, and no more.
func (m middle) steps(t *testing.T, many int) {
	t.Helper()
	for i := range many {
		if !m.Can() || !m.Step() {
			t.Fatalf("it can't do step %d", i)
		}
	}
	at, kept, taken, done := m.At(), m.Kept(), m.Taken(), m.Done()
	if m.Can() || m.Step() || m.At() != at || m.Kept() != kept || m.Taken() != taken || m.Done() != done {
		t.Error("it can do a step more")
	}
}

func (m middle) check(t *testing.T, at int64, kept, taken int, done bool) {
	t.Helper()
	if m.At() != at || m.Kept() != kept || m.Taken() != taken || m.Done() != done {
		t.Errorf("got %d, %d, %d, %v, want %d, %d, %d, %v", m.At(), m.Kept(), m.Taken(), m.Done(), at, kept, taken, done)
	}
}

// told takes all that was told on.
func (m middle) told() []api.Out {
	var l []api.Out
	for o, e := m.out.Take(); e == api.OK; o, e = m.out.Take() {
		l = append(l, o)
	}
	return l
}

func (m middle) tells(t *testing.T, want ...api.Out) {
	t.Helper()
	if got := m.told(); !emit.SameAll(got, want) {
		t.Errorf("got %v, want %v", got, want)
	}
}

func TestExample(t *testing.T) {
	m := of(2, 9)
	m.batch(0, 5, thing("k", 3, 1))
	m.steps(t, 1)
	m.check(t, -1, 1, 1, false)
	m.tells(t)
	m.batch(1, 5)
	m.steps(t, 2)
	m.check(t, 5, 0, 2, false)
	m.tells(t, thing("k", 3, 1))
}

// TestUpto holds that what is told by events up to when all parts know all is told on, in order, and nothing else.
func TestUpto(t *testing.T) {
	m := of(3, 9)
	m.batch(0, 9, thing("a", 3, 8), thing("a", 4, 1), thing("a", 9, 2))
	m.batch(1, 4, thing("b", 3, 4), thing("b", 4, 3))
	m.steps(t, 2)
	m.check(t, -1, 5, 2, false)
	m.batch(2, 3, thing("c", 3, 6))
	m.steps(t, 4)
	m.check(t, 3, 3, 3, false)
	m.tells(t, thing("b", 3, 4), thing("c", 3, 6), thing("a", 3, 8))
	m.batch(2, 20, thing("c", 20, 9))
	m.steps(t, 3)
	m.check(t, 4, 2, 4, false)
	m.tells(t, thing("a", 4, 1), thing("b", 4, 3))
	m.batch(1, 30)
	m.batch(0, 31)
	m.steps(t, 4)
	m.check(t, 20, 0, 6, false)
	m.tells(t, thing("a", 9, 2), thing("c", 20, 9))
}

// TestRoom holds that what is ready goes ahead of the next batch, one thing a step, as there is room.
func TestRoom(t *testing.T) {
	m := of(1, 1)
	m.batch(0, 5, thing("k", 1, 1), thing("k", 1, 2), thing("k", 2, 3))
	m.batch(0, 6, thing("k", 6, 4))
	m.steps(t, 2)
	m.check(t, 5, 2, 1, false)
	m.tells(t, thing("k", 1, 1))
	m.steps(t, 1)
	m.tells(t, thing("k", 1, 2))
	m.check(t, 5, 1, 1, false)
	m.steps(t, 2)
	m.check(t, 6, 1, 2, false)
	m.tells(t, thing("k", 2, 3))
	// Nothing is ready: a batch is taken, though there is no room.
	m = of(1, 1)
	m.batch(0, 5, thing("k", 1, 1))
	m.batch(0, 6, thing("k", 6, 2))
	m.batch(0, 7)
	m.steps(t, 3)
	m.check(t, 6, 1, 2, false)
	m.out.Close()
	m.steps(t, 0)
	m.tells(t, thing("k", 1, 1))
	m.steps(t, 0)
}

// TestPassedOver holds what is done with batches that may not be: of those of no part not even the number is known.
func TestPassedOver(t *testing.T) {
	m := of(2, 9)
	for _, part := range []int{-1, 2, math.MinInt, math.MaxInt} {
		m.batch(part, 5, thing("k", 1, 1))
		m.last(part, 5)
	}
	m.steps(t, 8)
	m.check(t, -1, 0, 0, false)
	m.batch(0, 5)
	m.batch(1, 5)
	m.steps(t, 2)
	m.check(t, 5, 0, 2, false)
	for _, time := range []int64{5, 4, -1, math.MinInt64, api.MaxTime + 1} {
		m.batch(0, time, thing("k", 1, 1))
	}
	m.steps(t, 5)
	m.check(t, 5, 0, 7, false)
	m.last(0, 5, thing("k", 1, 1))
	m.steps(t, 1)
	m.check(t, 5, 0, 8, false)
	m.batch(0, 9, thing("k", 1, 1))
	m.last(0, 9)
	m.batch(1, 9)
	m.steps(t, 3)
	m.check(t, 5, 0, 9, false)
	m.tells(t)
}

// TestEnd holds that where all parts have ended, and what is ready was told on, nothing comes any more.
func TestEnd(t *testing.T) {
	m := of(2, 1)
	m.batch(0, 5, thing("k", 3, 1), thing("k", 4, 2))
	m.last(0, 5)
	m.batch(1, 5)
	m.last(1, 5)
	m.steps(t, 4)
	m.check(t, 5, 1, 3, false)
	m.tells(t, thing("k", 3, 1))
	// What is ready, the last batch, then the end, one a step.
	for i, taken := range []int{3, 4, 4} {
		if m.out.Closed() || !m.Step() {
			t.Errorf("step %d: got %v", i, m.out.Closed())
		}
		m.check(t, 5, 0, taken, i == 2)
	}
	m.tells(t, thing("k", 4, 2))
	m.steps(t, 0)
	if !m.out.Done() {
		t.Error("it is not closed")
	}
	m.batch(0, 9)
	m.steps(t, 0)
	// The end comes ahead of batches, and of room, that there are.
	m = of(1, 1)
	m.last(0, -1)
	m.batch(0, 5, thing("k", 3, 1))
	m.out.Put(thing("k", 3, 1))
	m.steps(t, 2)
	m.check(t, -1, 0, 1, true)
	if m.in.Len() != 1 || !m.out.Closed() {
		t.Errorf("got %d", m.in.Len())
	}
}

// TestKeptAtTheEnd holds that what not all parts came to know is not told on.
func TestKeptAtTheEnd(t *testing.T) {
	m := of(2, 9)
	m.batch(0, 5, thing("k", 3, 1))
	m.last(0, 5)
	m.last(1, -1)
	m.steps(t, 4)
	m.check(t, -1, 1, 3, true)
	m.tells(t)
}

// TestInNoOrder holds that what is due does not wait for what is not, though a part told it behind that.
func TestInNoOrder(t *testing.T) {
	m := of(2, 9)
	m.batch(1, 9)
	m.batch(0, 5, thing("k", 9, 1), thing("k", 3, 2), thing("k", 6, 3), thing("k", 2, 4))
	m.steps(t, 4)
	m.check(t, 5, 2, 2, false)
	m.tells(t, thing("k", 3, 2), thing("k", 2, 4))
	m.batch(0, 6, thing("k", 6, 5), thing("k", 1, 6))
	m.steps(t, 4)
	m.check(t, 6, 1, 3, false)
	m.tells(t, thing("k", 6, 3), thing("k", 6, 5), thing("k", 1, 6))
	m.batch(0, 9)
	m.steps(t, 2)
	m.tells(t, thing("k", 9, 1))
}

// TestDrawn holds that all that parts tell is told on in one order, whatever parts tell first.
func TestDrawn(t *testing.T) {
	d := sample.Dice(1)
	for range 200 {
		parts := 1 + d.Below(5)
		m := of(parts, 1+d.Below(3))
		times, want := make([]int64, parts), []api.Out{}
		var seq int64
		var got []api.Out
		for range 60 {
			part := d.Below(parts)
			if times[part] >= 30 {
				continue
			}
			from := times[part]
			times[part] += int64(1 + d.Below(6))
			var l []api.Out
			for range d.Below(4) {
				seq++
				l = append(l, thing("k", from+1+int64(d.Below(int(times[part]-from))), seq))
			}
			l = emit.Sort(l)
			want = append(want, l...)
			m.batch(part, times[part], l...)
			for d.Below(4) > 0 && m.Step() {
			}
			if d.Below(2) == 0 {
				got = append(got, m.told()...)
			}
		}
		for part, time := range times {
			m.batch(part, time+99)
			m.last(part, 0)
		}
		for !m.Done() {
			for m.Step() {
			}
			got = append(got, m.told()...)
		}
		if !m.Done() || m.Kept() != 0 || !emit.SameAll(got, emit.Sort(want)) {
			t.Fatalf("%d parts: got %v, want %v", parts, got, emit.Sort(want))
		}
	}
}

func TestParts(t *testing.T) {
	for parts, want := range map[int]int{
		math.MinInt: 1, -1: 1, 0: 1, 1: 1, 2: 2, api.MaxParts: api.MaxParts, api.MaxParts + 1: api.MaxParts, math.MaxInt: api.MaxParts,
	} {
		m := of(parts, 1)
		m.last(want, 5)
		for part := range want {
			m.steps(t, m.in.Len())
			m.check(t, -1, 0, part, false)
			m.last(part, 5)
		}
		m.steps(t, 2)
		m.check(t, -1, 0, want, true)
	}
}

func TestOfNone(t *testing.T) {
	middle{}.check(t, -1, 0, 0, true)
	middle{}.steps(t, 0)
	zero := &merge.Merger{}
	zero.Step()
	middle{Merger: zero}.check(t, -1, 0, 0, true)
	middle{Merger: merge.New(1, nil, nil)}.steps(t, 0)
	in := queue.New[api.Batch](9)
	m := middle{merge.New(1, in, nil), in, nil}
	m.batch(0, 5, thing("k", 3, 1))
	m.steps(t, 1)
	m.check(t, 5, 1, 1, false)
	m = middle{merge.New(1, in, nil), in, nil}
	m.last(0, 5)
	m.steps(t, 2)
	m.check(t, -1, 0, 1, true)
}

func TestIsTheCallers(t *testing.T) {
	m := of(2, 9)
	l := []api.Out{thing("k", 3, 1), thing("k", 9, 2)}
	m.batch(0, 9, l...)
	m.steps(t, 1)
	if !slices.EqualFunc(l, []api.Out{thing("k", 3, 1), thing("k", 9, 2)}, emit.Same) {
		t.Errorf("what was handed in was changed: %v", l)
	}
	l[0], l[1].Pairs[0] = thing("z", 7, 7), api.Pair{}
	m.batch(1, 5)
	m.steps(t, 2)
	m.batch(1, 9)
	m.steps(t, 2)
	got := m.told()
	if want := []api.Out{thing("k", 3, 1), thing("k", 9, 2)}; !emit.SameAll(got, want) {
		t.Errorf("got %v, want %v", got, want)
	}
}
