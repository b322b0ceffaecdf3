package reorder_test

import (
	"math"
	"slices"
	"testing"

	"lamplighter/api"
	"lamplighter/event"
	"lamplighter/reorder"
	"lamplighter/sample"
	"lamplighter/value"
)

func at(time, seq int64) api.Event {
	return api.Event{Type: "A", Key: "k", Time: time, Seq: seq, Vals: []api.Value{value.Num(time), value.Num(seq)}}
}

func sameAll(a, b []api.Event) bool { return slices.EqualFunc(a, b, event.Same) }

// filled is a buffer of some events.
func filled(t *testing.T, l ...api.Event) *reorder.Buffer {
	t.Helper()
	b := reorder.New()
	for _, e := range l {
		if !b.Push(e) {
			t.Fatalf("there is no room for %s", event.Show(e))
		}
	}
	return b
}

// check holds all that is told of a buffer against what it should keep, in order.
func check(t *testing.T, b *reorder.Buffer, want ...api.Event) {
	t.Helper()
	if got := b.All(); !sameAll(got, want) {
		t.Errorf("All: got %v, want %v", got, want)
	}
	if b.Len() != len(want) {
		t.Errorf("Len: got %d, want %d", b.Len(), len(want))
	}
	first, ok := b.First()
	if ok != (len(want) > 0) || ok && first != want[0].Time || !ok && first != 0 {
		t.Errorf("First: got %d, %v of %v", first, ok, want)
	}
}

func TestExample(t *testing.T) {
	b := filled(t, at(5, 1), at(3, 2))
	check(t, b, at(3, 2), at(5, 1))
	if got := b.Release(4); !sameAll(got, []api.Event{at(3, 2)}) {
		t.Errorf("got %v", got)
	}
	check(t, b, at(5, 1))
}

// TestRelease holds that all up to a time go, those at it, too, by times, then numbers.
func TestRelease(t *testing.T) {
	b := filled(t, at(7, 1), at(5, 4), at(5, 2), at(9, 3), at(5, 3), at(-3, 9), at(0, 0))
	cases := []struct {
		time int64
		want []api.Event
	}{
		{math.MinInt64, nil},
		{-4, nil},
		{-1, []api.Event{at(-3, 9)}},
		{-1, nil},
		{5, []api.Event{at(0, 0), at(5, 2), at(5, 3), at(5, 4)}},
		{6, nil},
		{math.MaxInt64, []api.Event{at(7, 1), at(9, 3)}},
		{math.MaxInt64, nil},
	}
	for _, c := range cases {
		if got := b.Release(c.time); !sameAll(got, c.want) {
			t.Errorf("up to %d: got %v", c.time, got)
		}
	}
	check(t, b)
	if !b.Push(at(1, 1)) {
		t.Error("there is no room any more")
	}
	check(t, b, at(1, 1))
	ends := filled(t, at(math.MaxInt64, math.MaxInt64), at(math.MinInt64, math.MinInt64))
	if got := ends.Release(math.MinInt64); !sameAll(got, []api.Event{at(math.MinInt64, math.MinInt64)}) {
		t.Errorf("up to the least time: got %v", got)
	}
	if got := ends.Release(math.MaxInt64); !sameAll(got, []api.Event{at(math.MaxInt64, math.MaxInt64)}) {
		t.Errorf("up to the greatest time: got %v", got)
	}
}

// TestAlike holds that of alike ones none is left out.
func TestAlike(t *testing.T) {
	other := at(5, 1)
	other.Key = "l"
	b := filled(t, at(5, 1), at(5, 1), other, at(4, 1))
	got := b.Release(5)
	keys := map[string]int{}
	for _, e := range got {
		keys[e.Key]++
	}
	if len(got) != 4 || !event.Same(got[0], at(4, 1)) || keys["k"] != 3 || keys["l"] != 1 {
		t.Errorf("got %v", got)
	}
}

func TestAbove(t *testing.T) {
	b := filled(t, at(7, 1), at(5, 4), at(5, 2), at(-9, 3))
	for time, want := range map[int64]int{math.MinInt64: 4, -10: 4, -9: 3, 4: 3, 5: 1, 6: 1, 7: 0, math.MaxInt64: 0} {
		if got := b.Above(time); got != want {
			t.Errorf("above %d: got %d", time, got)
		}
	}
	b.Release(5)
	if got := b.Above(-10); got != 1 {
		t.Errorf("got %d", got)
	}
	check(t, b, at(7, 1))
}

// TestRoom holds that there is room for MaxHeap events, and again for as many as were taken.
func TestRoom(t *testing.T) {
	b := reorder.New()
	for i := range api.MaxHeap {
		if !b.Push(at(int64(i%1000), int64(i))) {
			t.Fatalf("there is no room for the one at %d", i)
		}
	}
	if b.Push(at(0, 0)) || b.Len() != api.MaxHeap || b.Above(-1) != api.MaxHeap {
		t.Errorf("there is room for more: %d", b.Len())
	}
	got := b.Release(0)
	if len(got) != 66 || !slices.IsSortedFunc(got, func(x, y api.Event) int { return int(x.Seq - y.Seq) }) {
		t.Errorf("got %d", len(got))
	}
	for i := range got {
		if !b.Push(at(5000, int64(i))) {
			t.Fatalf("there is no room for the one at %d again", i)
		}
	}
	if b.Push(at(0, 0)) || b.Len() != api.MaxHeap {
		t.Errorf("there is room for more: %d", b.Len())
	}
	if first, ok := b.First(); first != 1 || !ok {
		t.Errorf("got %d, %v", first, ok)
	}
}

// TestDrawn holds a buffer against a sorted list, whatever is put and taken.
func TestDrawn(t *testing.T) {
	d := sample.Dice(1)
	b := reorder.New()
	var kept []api.Event
	for i := range int64(3000) {
		if d.Below(3) > 0 {
			e := at(int64(d.Below(50)), i)
			kept = append(kept, e)
			b.Push(e)
			continue
		}
		kept = event.Sort(kept)
		time := int64(d.Below(50))
		cut := 0
		for cut < len(kept) && kept[cut].Time <= time {
			cut++
		}
		if got := b.Above(time); got != len(kept)-cut {
			t.Fatalf("above %d: got %d", time, got)
		}
		if got := b.Release(time); !sameAll(got, kept[:cut]) {
			t.Fatalf("up to %d: got %v, want %v", time, got, kept[:cut])
		}
		kept = kept[cut:]
		check(t, b, kept...)
	}
}

func TestOfNone(t *testing.T) {
	var none *reorder.Buffer
	if none.Push(at(1, 1)) || len(none.Release(9)) != 0 || none.Above(-1) != 0 {
		t.Error("none has something")
	}
	check(t, none)
	check(t, reorder.New())
	zero := &reorder.Buffer{}
	check(t, zero)
	if len(zero.Release(9)) != 0 || zero.Above(-1) != 0 || !zero.Push(at(1, 1)) {
		t.Error("the zero one is not empty")
	}
	check(t, zero, at(1, 1))
}

func TestIsTheCallers(t *testing.T) {
	e := at(5, 1)
	b := filled(t, e)
	if !event.Same(e, at(5, 1)) {
		t.Errorf("what was handed in was changed: %v", e)
	}
	e.Vals[0] = value.Num(77)
	b.All()[0].Vals[0] = value.Num(77)
	check(t, b, at(5, 1))
	got := b.Release(5)
	b.Push(at(6, 2))
	got[0].Vals[0] = value.Num(77)
	check(t, b, at(6, 2))
}
