package fifo_test

import (
	"math"
	"runtime"
	"slices"
	"testing"
	"weak"

	"lamplighter/api"
	"lamplighter/fifo"
)

// filled has room for so many, and some things.
func filled(t *testing.T, room int, l ...int) *fifo.Fifo[int] {
	t.Helper()
	f := fifo.New[int](room)
	for _, x := range l {
		if !f.Push(x) {
			t.Fatalf("Push %d: false", x)
		}
	}
	return f
}

// told is so many things of those that All tells.
func told(f *fifo.Fifo[int], most int) []int {
	var l []int
	for x := range f.All() {
		l = append(l, x)
		if len(l) == most {
			break
		}
	}
	return l
}

func checkOne(t *testing.T, what string, got int, ok bool, want int, wantOK bool) {
	t.Helper()
	if got != want || ok != wantOK {
		t.Errorf("%s: got %d, %v; want %d, %v", what, got, ok, want, wantOK)
	}
}

// check holds all that is told of one against what is in it.
func check(t *testing.T, f *fifo.Fifo[int], room int, want ...int) {
	t.Helper()
	count := len(want)
	if f.Len() != count || f.Room() != room || f.Full() != (count >= room) {
		t.Errorf("got %d of %d, full: %v; want %d of %d", f.Len(), f.Room(), f.Full(), count, room)
	}
	if got := told(f, math.MaxInt); !slices.Equal(got, want) {
		t.Errorf("All: got %v, want %v", got, want)
	}
	for i, x := range want {
		got, ok := f.At(i)
		checkOne(t, "At", got, ok, x, true)
	}
	for _, i := range []int{math.MinInt, -1, count, count + 1, room + count, math.MaxInt} {
		got, ok := f.At(i)
		checkOne(t, "At, where there is none", got, ok, 0, false)
	}
	first, last := 0, 0
	if count > 0 {
		first, last = want[0], want[count-1]
	}
	got, ok := f.Peek()
	checkOne(t, "Peek", got, ok, first, count > 0)
	got, ok = f.Last()
	checkOne(t, "Last", got, ok, last, count > 0)
}

func TestExample(t *testing.T) {
	f := fifo.New[string](1)
	if !f.Push("a") || f.Push("b") {
		t.Error("of room 1 the first Push is not true, or the second one not false")
	}
	if x, ok := f.Pop(); x != "a" || !ok {
		t.Errorf("Pop: got %q, %v", x, ok)
	}
}

func TestRoom(t *testing.T) {
	cases := []struct{ room, want int }{
		{1, 1}, {2, 2}, {7, 7}, {api.MaxFifo - 1, api.MaxFifo - 1}, {api.MaxFifo, api.MaxFifo},
		{0, 1}, {-1, 1}, {math.MinInt, 1},
		{api.MaxFifo + 1, api.MaxFifo}, {math.MaxInt, api.MaxFifo},
	}
	for _, c := range cases {
		f := fifo.New[int](c.room)
		check(t, f, c.want)
		for i := range c.want {
			if f.Full() || !f.Push(i) {
				t.Fatalf("room %d: no room at %d", c.room, i)
			}
		}
		if !f.Full() || f.Push(-1) || f.Len() != c.want {
			t.Errorf("room %d: got %d", c.room, f.Len())
		}
	}
}

func TestPushAndPop(t *testing.T) {
	f := filled(t, 3, 5, 6)
	check(t, f, 3, 5, 6)
	f.Push(7)
	check(t, f, 3, 5, 6, 7)
	if f.Push(8) {
		t.Error("Push: true, without room")
	}
	check(t, f, 3, 5, 6, 7)
	x, ok := f.Pop()
	checkOne(t, "Pop", x, ok, 5, true)
	check(t, f, 3, 6, 7)
	if !f.Push(9) || f.Push(10) {
		t.Error("where one has gone there is no room for just one")
	}
	check(t, f, 3, 6, 7, 9)
	for _, want := range []int{6, 7, 9} {
		x, ok = f.Pop()
		checkOne(t, "Pop", x, ok, want, true)
	}
	check(t, f, 3)
	x, ok = f.Pop()
	checkOne(t, "Pop of nothing", x, ok, 0, false)
	check(t, f, 3)
}

// TestAgainstAList holds calls in any order against a list.
func TestAgainstAList(t *testing.T) {
	for _, room := range []int{1, 2, 5, 16} {
		f := fifo.New[int](room)
		var l []int
		drawn := uint64(room)
		for i := range 5000 {
			drawn = drawn*2862933555777941757 + 3037000493
			switch drawn >> 40 % 20 {
			case 0:
				if got := f.Clear(); got != len(l) {
					t.Fatalf("Clear: got %d, want %d", got, len(l))
				}
				l = nil
			case 1, 2, 3, 4, 5, 6, 7, 8:
				x, ok := f.Pop()
				if ok != (len(l) > 0) || ok && x != l[0] {
					t.Fatalf("Pop: got %d, %v of %v", x, ok, l)
				}
				l = l[min(1, len(l)):]
			default:
				ok := f.Push(i)
				if ok != (len(l) < room) {
					t.Fatalf("Push: got %v at %v", ok, l)
				}
				if ok {
					l = append(l, i)
				}
			}
			check(t, f, room, l...)
			if t.Failed() {
				t.FailNow()
			}
		}
	}
}

func TestClear(t *testing.T) {
	f := filled(t, 3, 1, 2, 3)
	if got := f.Clear(); got != 3 {
		t.Errorf("Clear: got %d", got)
	}
	check(t, f, 3)
	if got := f.Clear(); got != 0 {
		t.Errorf("Clear again: got %d", got)
	}
	for i := range 3 {
		if !f.Push(10 + i) {
			t.Errorf("Push %d: false", i)
		}
	}
	check(t, f, 3, 10, 11, 12)
	if f.Push(13) {
		t.Error("there is more room than there was")
	}
}

func TestAll(t *testing.T) {
	f := filled(t, 5, 1, 2, 3, 4)
	f.Pop()
	for most := range 3 {
		if got := told(f, most+1); !slices.Equal(got, []int{2, 3, 4}[:most+1]) {
			t.Errorf("the first %d: got %v", most+1, got)
		}
	}
	check(t, f, 5, 2, 3, 4)
	s := f.All()
	f.Push(5)
	for range 2 {
		var got []int
		for x := range s {
			got = append(got, x)
		}
		if !slices.Equal(got, []int{2, 3, 4, 5}) {
			t.Errorf("All: got %v", got)
		}
	}
}

// TestAllMeanwhile holds that each thing is told once, and an end comes, whatever is put and taken while they are told.
func TestAllMeanwhile(t *testing.T) {
	ways := map[string]func(f *fifo.Fifo[int]){
		"Pop":          func(f *fifo.Fifo[int]) { f.Pop() },
		"Clear":        func(f *fifo.Fifo[int]) { f.Clear() },
		"Push":         func(f *fifo.Fifo[int]) { f.Push(9) },
		"Pop and Push": func(f *fifo.Fifo[int]) { f.Pop(); f.Push(9) },
	}
	for name, way := range ways {
		f := filled(t, 3, 1, 2, 3)
		var got []int
		for x := range f.All() {
			way(f)
			got = append(got, x)
		}
		if !slices.Equal(got, []int{1, 2, 3}) {
			t.Errorf("%s: got %v", name, got)
		}
	}
}

func checkNoRoom(t *testing.T, f *fifo.Fifo[int]) {
	t.Helper()
	check(t, f, 0)
	if f.Push(1) || !f.Full() {
		t.Error("there is room")
	}
	x, ok := f.Pop()
	checkOne(t, "Pop", x, ok, 0, false)
	if got := f.Clear(); got != 0 {
		t.Errorf("Clear: got %d", got)
	}
	check(t, f, 0)
}

func TestOfNone(t *testing.T) {
	checkNoRoom(t, nil)
	checkNoRoom(t, &fifo.Fifo[int]{})
}

// TestAnyType holds that things of any type come back as they are.
func TestAnyType(t *testing.T) {
	f := fifo.New[api.Event](2)
	e := api.Event{Type: "A", Key: "k", Time: 5, Vals: []api.Value{{Kind: api.Int, I: 1}}}
	f.Push(e)
	if got, ok := f.Pop(); !ok || got.Type != "A" || got.Vals[0] != e.Vals[0] {
		t.Errorf("got %v, %v", got, ok)
	}
	g := fifo.New[func() int](2)
	g.Push(func() int { return 7 })
	g.Push(nil)
	if got, ok := g.Pop(); !ok || got() != 7 {
		t.Error("a function does not come back")
	}
	if got, ok := g.Pop(); !ok || got != nil {
		t.Error("a thing that is nothing is there, too")
	}
}

// TestLongUse holds that what has gone long ago leaves no trace.
func TestLongUse(t *testing.T) {
	f := fifo.New[int](3)
	for i := range 200000 {
		f.Push(i)
		f.Push(i)
		if x, ok := f.Pop(); !ok || x < i-3 {
			t.Fatalf("at %d: got %d, %v", i, x, ok)
		}
		if i%3 == 0 {
			f.Pop()
		}
	}
	if f.Clear() > 3 || f.Len() != 0 {
		t.Errorf("there were more than there may be")
	}
}

// TestWhatHasGone holds that what was taken is not kept.
func TestWhatHasGone(t *testing.T) {
	f := fifo.New[*[16]int](100)
	var all []weak.Pointer[[16]int]
	for i := range 100 {
		x := &[16]int{i}
		f.Push(x)
		all = append(all, weak.Make(x))
	}
	for range 90 {
		f.Pop()
	}
	runtime.GC()
	kept := 0
	for _, x := range all {
		if x.Value() != nil {
			kept++
		}
	}
	// One more may still be known to the caller.
	if kept > 11 || f.Len() != 10 {
		t.Errorf("%d are kept, of which %d are there", kept, f.Len())
	}
	runtime.KeepAlive(f)
}
