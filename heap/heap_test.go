package heap_test

import (
	"iter"
	"runtime"
	"slices"
	"sort"
	"testing"
	"weak"

	"lamplighter/api"
	"lamplighter/heap"
)

// num is a number that can be ahead of another one.
type num int

func (a num) Less(b num) bool { return a < b }

// thing has a name that does not count.
type thing struct {
	rank int
	name string
}

func (a thing) Less(b thing) bool { return a.rank < b.rank }

// never is ahead of nothing; always, of all.
type never int

func (never) Less(never) bool { return false }

type always int

func (always) Less(always) bool { return true }

// filled is a heap with numbers pushed in their order.
func filled(t *testing.T, l ...num) *heap.Heap[num] {
	t.Helper()
	var h heap.Heap[num]
	for _, x := range l {
		if !h.Push(x) {
			t.Fatalf("Push %d: false", x)
		}
	}
	return &h
}

func sorted(l []num) []num {
	l = slices.Clone(l)
	slices.Sort(l)
	return l
}

// popped is all that Pop tells, until there is none.
func popped[T heap.Less[T]](h *heap.Heap[T]) []T {
	var l []T
	for x, ok := h.Pop(); ok; x, ok = h.Pop() {
		l = append(l, x)
	}
	return l
}

// some is so many things of those that are told.
func some[T any](s iter.Seq[T], most int) []T {
	var l []T
	for x := range s {
		l = append(l, x)
		if len(l) == most {
			break
		}
	}
	return l
}

func checkList(t *testing.T, what string, got, want []num) {
	t.Helper()
	if !slices.Equal(got, want) {
		t.Errorf("%s: got %v, want %v", what, got, want)
	}
}

func checkOne(t *testing.T, what string, got num, ok bool, want num, wantOK bool) {
	t.Helper()
	if got != want || ok != wantOK {
		t.Errorf("%s: got %d, %v; want %d, %v", what, got, ok, want, wantOK)
	}
}

// orders are all orders of so many numbers, of which some are alike.
func orders(l []num) [][]num {
	if len(l) < 2 {
		return [][]num{slices.Clone(l)}
	}
	var all [][]num
	for i := range l {
		for _, rest := range orders(slices.Concat(l[:i], l[i+1:])) {
			all = append(all, append([]num{l[i]}, rest...))
		}
	}
	return all
}

func TestExample(t *testing.T) {
	var h heap.Heap[api.Stamp]
	for _, time := range []int64{3, 1, 2} {
		h.Push(api.Stamp{Time: time})
	}
	if x, ok := h.Pop(); !ok || x.Time != 1 {
		t.Errorf("got %v, %v", x, ok)
	}
}

func TestPushAndPop(t *testing.T) {
	for _, l := range orders([]num{1, 2, 2, 3, 4, 4, 5}) {
		h := filled(t, l...)
		if h.Len() != len(l) {
			t.Fatalf("Len: got %d", h.Len())
		}
		for i, want := range sorted(l) {
			got, ok := h.Peek()
			checkOne(t, "Peek", got, ok, want, true)
			if h.Len() != len(l)-i {
				t.Fatalf("Len: got %d", h.Len())
			}
			got, ok = h.Pop()
			checkOne(t, "Pop", got, ok, want, true)
		}
		got, ok := h.Pop()
		checkOne(t, "Pop of nothing", got, ok, 0, false)
		if t.Failed() {
			t.Fatalf("pushed: %v", l)
		}
	}
}

// TestAgainstAList holds pushes and pops in any order against a list.
func TestAgainstAList(t *testing.T) {
	var h heap.Heap[num]
	var l []num
	drawn := uint64(7)
	for range 20000 {
		drawn = drawn*2862933555777941757 + 3037000493
		if x := num(drawn >> 33 % 500); drawn>>50%3 > 0 {
			h.Push(x)
			l = append(l, x)
		} else {
			want, wantOK := num(0), len(l) > 0
			if wantOK {
				want = slices.Min(l)
				l = slices.Delete(l, slices.Index(l, want), slices.Index(l, want)+1)
			}
			got, ok := h.Pop()
			checkOne(t, "Pop", got, ok, want, wantOK)
		}
		if h.Len() != len(l) {
			t.Fatalf("Len: got %d, want %d", h.Len(), len(l))
		}
	}
	checkList(t, "All", h.All(), sorted(l))
	checkList(t, "Pop", popped(&h), sorted(l))
}

// TestAlike holds that of alike things each is told, once.
func TestAlike(t *testing.T) {
	var h heap.Heap[thing]
	names := []string{"a", "b", "c", "d", "e", "f", "g"}
	for i, name := range names {
		h.Push(thing{i % 2, name})
	}
	var got []string
	rank := 0
	for x := range h.Drain() {
		if x.rank < rank {
			t.Errorf("%v behind one of rank %d", x, rank)
		}
		rank = x.rank
		got = append(got, x.name)
	}
	sort.Strings(got)
	if !slices.Equal(got, names) {
		t.Errorf("got %v", got)
	}
}

func TestEmpty(t *testing.T) {
	var h heap.Heap[num]
	checkNothing(t, &h)
	if !h.Push(4) {
		t.Error("Push: false")
	}
	x, ok := h.Peek()
	checkOne(t, "Peek", x, ok, 4, true)
	popped(&h)
	checkNothing(t, &h)
}

func TestOfNone(t *testing.T) {
	var h *heap.Heap[num]
	checkNothing(t, h)
	if h.Push(1) {
		t.Error("Push: true")
	}
	checkNothing(t, h)
}

func checkNothing(t *testing.T, h *heap.Heap[num]) {
	t.Helper()
	x, ok := h.Peek()
	checkOne(t, "Peek", x, ok, 0, false)
	x, ok = h.Pop()
	checkOne(t, "Pop", x, ok, 0, false)
	if h.Len() != 0 {
		t.Errorf("Len: got %d", h.Len())
	}
	checkList(t, "All", h.All(), nil)
	checkList(t, "Upto", h.Upto(5), nil)
	checkList(t, "Drain", some(h.Drain(), 9), nil)
}

func TestMost(t *testing.T) {
	var h heap.Heap[num]
	for i := range api.MaxHeap {
		if !h.Push(num(api.MaxHeap - i)) {
			t.Fatalf("Push: false at %d", i)
		}
	}
	for range 3 {
		if h.Push(-1) || h.Len() != api.MaxHeap {
			t.Fatalf("there is more than there may be: %d", h.Len())
		}
	}
	x, ok := h.Pop()
	checkOne(t, "Pop", x, ok, 1, true)
	if !h.Push(-2) || h.Push(-3) || h.Len() != api.MaxHeap {
		t.Errorf("where one has gone there is no room for just one: %d", h.Len())
	}
	all := h.All()
	if len(all) != api.MaxHeap || !slices.IsSorted(all) || all[0] != -2 {
		t.Errorf("All: got %d", len(all))
	}
	if !slices.Equal(popped(&h), all) {
		t.Error("Pop tells another thing than All")
	}
	if !h.Push(1) || h.Len() != 1 {
		t.Error("where all have gone there is no room")
	}
}

func TestDrain(t *testing.T) {
	h := filled(t, 5, 1, 4, 1, 3)
	checkList(t, "Drain", some(h.Drain(), 99), []num{1, 1, 3, 4, 5})
	checkNothing(t, h)
}

// TestDrainAsLongAsAsked holds that what is not asked for stays.
func TestDrainAsLongAsAsked(t *testing.T) {
	h := filled(t, 5, 1, 4, 1, 3)
	s := h.Drain()
	if h.Len() != 5 {
		t.Errorf("taken, though nothing was asked for: %d", h.Len())
	}
	checkList(t, "Drain of two", some(s, 2), []num{1, 1})
	checkList(t, "All", h.All(), []num{3, 4, 5})
	checkList(t, "Drain of one", some(s, 1), []num{3})
	checkList(t, "Drain of the rest", some(s, 99), []num{4, 5})
	checkList(t, "Drain of nothing", some(s, 99), nil)
	h.Push(6)
	checkList(t, "Drain of one more", some(s, 99), []num{6})
}

// TestDrainOneByOne holds that each is taken just as it is told, and that what comes in the meantime is told in its place.
func TestDrainOneByOne(t *testing.T) {
	h := filled(t, 2, 4, 6)
	var got []num
	for x := range h.Drain() {
		got = append(got, x)
		if x == 2 {
			checkList(t, "what is left", h.All(), []num{4, 6})
			h.Push(5)
			h.Push(1)
		}
		if x == 5 {
			h.Pop()
		}
	}
	checkList(t, "Drain", got, []num{2, 1, 4, 5})
}

func TestAll(t *testing.T) {
	for _, l := range orders([]num{3, 1, 2, 2, 5}) {
		h := filled(t, l...)
		checkList(t, "All", h.All(), sorted(l))
		checkList(t, "All again", h.All(), sorted(l))
		if h.Len() != len(l) {
			t.Errorf("Len: got %d", h.Len())
		}
		checkList(t, "Pop", popped(h), sorted(l))
	}
}

// TestAllIsTheCallers holds that what is done to an answer changes nothing here.
func TestAllIsTheCallers(t *testing.T) {
	h := filled(t, 3, 1, 2)
	all := h.All()
	for i := range all {
		all[i] = 100 - all[i]
	}
	_ = append(all[:0], 7, 8, 9)
	x, ok := h.Peek()
	checkOne(t, "Peek", x, ok, 1, true)
	kept := h.All()
	h.Push(0)
	h.Upto(2)
	checkList(t, "All", kept, []num{1, 2, 3})
	checkList(t, "All", h.All(), []num{3})
}

func TestUpto(t *testing.T) {
	cases := []struct {
		x          num
		took, left []num
	}{
		{0, nil, []num{1, 2, 2, 3, 5}},
		{1, []num{1}, []num{2, 2, 3, 5}},
		{2, []num{1, 2, 2}, []num{3, 5}},
		{3, []num{1, 2, 2, 3}, []num{5}},
		{4, []num{1, 2, 2, 3}, []num{5}},
		{5, []num{1, 2, 2, 3, 5}, nil},
		{99, []num{1, 2, 2, 3, 5}, nil},
	}
	for _, c := range cases {
		for _, l := range orders([]num{2, 5, 1, 3, 2}) {
			h := filled(t, l...)
			checkList(t, "Upto", h.Upto(c.x), c.took)
			if h.Len() != len(c.left) {
				t.Errorf("Len: got %d", h.Len())
			}
			checkList(t, "Upto again", h.Upto(c.x), nil)
			checkList(t, "what is left", h.All(), c.left)
		}
	}
}

// TestUptoTakesAlikeOnes holds that one that is neither ahead nor behind is taken.
func TestUptoTakesAlikeOnes(t *testing.T) {
	var h heap.Heap[thing]
	for _, x := range []thing{{2, "a"}, {1, "b"}, {2, "c"}, {3, "d"}} {
		h.Push(x)
	}
	took := h.Upto(thing{2, "z"})
	if len(took) != 3 || took[0].name != "b" || took[1].rank != 2 || took[2].rank != 2 {
		t.Errorf("got %v", took)
	}
	if x, ok := h.Pop(); !ok || x.name != "d" {
		t.Errorf("what is left: %v, %v", x, ok)
	}
}

// TestStamps holds the order of stamps: time, number, place.
func TestStamps(t *testing.T) {
	rising := []api.Stamp{{Time: -1, Seq: 9, At: 9}, {Seq: 1, At: 5}, {Seq: 2, At: -3}, {Seq: 2, At: 4}, {Time: 1}, {Time: 1, At: 1}, {Time: 2, Seq: -1}}
	for i := range rising {
		var h heap.Heap[api.Stamp]
		for _, x := range slices.Concat(rising[i:], rising[:i]) {
			h.Push(x)
		}
		if got := h.All(); !slices.Equal(got, rising) {
			t.Errorf("got %v", got)
		}
		if got := h.Upto(rising[3]); !slices.Equal(got, rising[:4]) {
			t.Errorf("Upto: got %v", got)
		}
	}
}

// TestNoOrder holds that calls end, and each thing is told once, whatever is said to be ahead.
func TestNoOrder(t *testing.T) {
	var n heap.Heap[never]
	var a heap.Heap[always]
	for i := range 100 {
		n.Push(never(i))
		a.Push(always(i))
	}
	if len(n.All()) != 100 || len(a.All()) != 100 {
		t.Errorf("All: got %d, %d", len(n.All()), len(a.All()))
	}
	if got := a.Upto(1); len(got) != 0 {
		t.Errorf("Upto of what is ahead of all: got %v", got)
	}
	if got := n.Upto(1); len(got) != 100 {
		t.Errorf("Upto of what is ahead of nothing: got %d", len(got))
	}
	got := popped(&a)
	slices.Sort(got)
	for i := range 100 {
		if got[i] != always(i) {
			t.Fatalf("got %v", got)
		}
	}
}

// TestAgain holds that the same calls answer the same, also of alike things.
func TestAgain(t *testing.T) {
	var first []thing
	for range 5 {
		var h heap.Heap[thing]
		for i := range 200 {
			h.Push(thing{i * 7 % 13, string(rune('A' + i))})
		}
		all := h.All()
		if first != nil && !slices.Equal(all, first) {
			t.Fatal("the same calls answer another thing")
		}
		first = all
	}
}

// held is a thing of which can be told whether it is still kept anywhere.
type held struct{ thing }

func (a *held) Less(b *held) bool { return a.rank < b.rank }

// TestWhatHasGone holds that what was taken is not kept.
func TestWhatHasGone(t *testing.T) {
	var h heap.Heap[*held]
	var all []weak.Pointer[held]
	for i := range 100 {
		x := &held{thing{rank: i}}
		h.Push(x)
		all = append(all, weak.Make(x))
	}
	h.Upto(&held{thing{rank: 49}})
	for range 40 {
		h.Pop()
	}
	runtime.GC()
	kept := 0
	for _, x := range all {
		if x.Value() != nil {
			kept++
		}
	}
	// One more may still be known to the caller.
	if kept > 11 || h.Len() != 10 {
		t.Errorf("%d are kept, of which %d are there", kept, h.Len())
	}
	runtime.KeepAlive(&h)
}
