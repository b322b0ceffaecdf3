package omap_test

import (
	"cmp"
	"iter"
	"maps"
	"math"
	"slices"
	"strconv"
	"testing"

	"lamplighter/omap"
)

// entry is a key and its thing.
type entry struct {
	key   int
	thing string
}

// told is so many of the keys that are told, with their things, where the loop breaks.
func told(s iter.Seq2[int, string], most int) []entry {
	var l []entry
	for k, v := range s {
		l = append(l, entry{k, v})
		if len(l) == most {
			break
		}
	}
	return l
}

func all(s iter.Seq2[int, string]) []entry { return told(s, math.MaxInt) }

// entries are the keys and things of a map, rising, that are not below a key, but below another one.
func entries(m map[int]string, from, to int) []entry {
	var l []entry
	for _, k := range slices.Sorted(maps.Keys(m)) {
		if k >= from && k < to {
			l = append(l, entry{k, m[k]})
		}
	}
	return l
}

// filled is a map with keys put in their order.
func filled(keys ...int) *omap.Map[int, string] {
	var m omap.Map[int, string]
	for _, k := range keys {
		m.Put(k, name(k))
	}
	return &m
}

func name(k int) string { return "of " + strconv.Itoa(k) }

func checkList[T comparable](t *testing.T, what string, got, want []T) {
	t.Helper()
	if !slices.Equal(got, want) {
		t.Errorf("%s: got %v, want %v", what, got, want)
	}
}

func checkEnd(t *testing.T, what string, k int, v string, ok bool, want []entry, at int) {
	t.Helper()
	if len(want) == 0 {
		if ok || k != 0 || v != "" {
			t.Errorf("%s of nothing: got %d, %q, %v", what, k, v, ok)
		}
	} else if !ok || (entry{k, v}) != want[at] {
		t.Errorf("%s: got %d, %q, %v", what, k, v, ok)
	}
}

// check holds all that is told of a map against what is in it, at some keys and beside them.
func check(t *testing.T, m *omap.Map[int, string], want map[int]string, at ...int) {
	t.Helper()
	list := entries(want, math.MinInt, math.MaxInt)
	if m.Len() != len(want) {
		t.Errorf("Len: got %d, want %d", m.Len(), len(want))
	}
	checkList(t, "Keys", m.Keys(), slices.Sorted(maps.Keys(want)))
	checkList(t, "All", all(m.All()), list)
	k, v, ok := m.First()
	checkEnd(t, "First", k, v, ok, list, 0)
	k, v, ok = m.Last()
	checkEnd(t, "Last", k, v, ok, list, len(list)-1)
	for _, k := range at {
		thing, had := want[k]
		if got, ok := m.Get(k); got != thing || ok != had {
			t.Errorf("Get %d: got %q, %v", k, got, ok)
		}
		checkList(t, "From "+strconv.Itoa(k), all(m.From(k)), entries(want, k, math.MaxInt))
		if got := m.Below(k); got != len(entries(want, math.MinInt, k)) {
			t.Errorf("Below %d: got %d", k, got)
		}
		for _, to := range at {
			checkList(t, "Range "+strconv.Itoa(k)+" "+strconv.Itoa(to), all(m.Range(k, to)), entries(want, k, to))
		}
	}
}

func TestExample(t *testing.T) {
	checkList(t, "Keys", filled(2, 1).Keys(), []int{1, 2})
}

func TestPut(t *testing.T) {
	var m omap.Map[int, string]
	want := map[int]string{}
	for i, k := range []int{5, 1, 9, 5, 0, -3, 1, 5} {
		_, had := want[k]
		v := strconv.Itoa(i)
		want[k] = v
		if got := m.Put(k, v); got == had {
			t.Errorf("Put %d: got %v", k, got)
		}
		check(t, &m, want, -4, -3, 0, 1, 2, 5, 8, 9, 10)
	}
	// A thing that is nothing is one, too.
	want[7] = ""
	if !m.Put(7, "") || m.Put(7, "") {
		t.Error("Put of an empty thing")
	}
	check(t, &m, want, 6, 7, 8)
}

func TestDrop(t *testing.T) {
	m := filled(5, 1, 9, 7, 3)
	want := map[int]string{5: name(5), 1: name(1), 9: name(9), 7: name(7), 3: name(3)}
	for _, k := range []int{4, 5, 5, 10, 1, 9, 0, 3, 7, 7, 5} {
		_, had := want[k]
		delete(want, k)
		if got := m.Drop(k); got != had {
			t.Errorf("Drop %d: got %v", k, got)
		}
		check(t, m, want, 0, 1, 2, 3, 4, 5, 6, 7, 8, 9, 10)
	}
	if !m.Put(5, "again") || m.Len() != 1 {
		t.Error("Put of a key that was dropped")
	}
	check(t, m, map[int]string{5: "again"}, 4, 5, 6)
}

// TestAgainstAMap holds calls in any order against a map.
func TestAgainstAMap(t *testing.T) {
	for _, keys := range []uint64{8, 60} {
		var m omap.Map[int, string]
		want := map[int]string{}
		drawn := keys
		for i := range 3000 {
			drawn = drawn*2862933555777941757 + 3037000493
			k := int(drawn>>33%keys) - 5
			_, had := want[k]
			if drawn>>50%5 < 2 {
				delete(want, k)
				if got := m.Drop(k); got != had {
					t.Fatalf("Drop %d: got %v", k, got)
				}
			} else {
				want[k] = strconv.Itoa(i)
				if got := m.Put(k, want[k]); got == had {
					t.Fatalf("Put %d: got %v", k, got)
				}
			}
			check(t, &m, want, k-1, k, k+1, int(keys)/2)
			if t.Failed() {
				t.FailNow()
			}
		}
	}
}

// TestEdges holds the least and the greatest keys.
func TestEdges(t *testing.T) {
	m := filled(math.MaxInt, 0, math.MinInt)
	checkList(t, "Keys", m.Keys(), []int{math.MinInt, 0, math.MaxInt})
	least, middle, most := entry{math.MinInt, name(math.MinInt)}, entry{0, name(0)}, entry{math.MaxInt, name(math.MaxInt)}
	checkList(t, "From the least", all(m.From(math.MinInt)), []entry{least, middle, most})
	checkList(t, "From the greatest", all(m.From(math.MaxInt)), []entry{most})
	checkList(t, "Range of all but the greatest", all(m.Range(math.MinInt, math.MaxInt)), []entry{least, middle})
	checkList(t, "Range of nothing", all(m.Range(0, 0)), nil)
	checkList(t, "Range that goes back", all(m.Range(math.MaxInt, math.MinInt)), nil)
	if m.Below(math.MinInt) != 0 || m.Below(0) != 1 || m.Below(math.MaxInt) != 2 {
		t.Error("Below")
	}
}

func TestEmpty(t *testing.T) {
	var m omap.Map[int, string]
	at := []int{math.MinInt, -1, 0, 1, math.MaxInt}
	check(t, &m, nil, at...)
	if m.Drop(0) {
		t.Error("Drop: true")
	}
	m.Put(0, "x")
	check(t, &m, map[int]string{0: "x"}, -1, 0, 1)
	m.Drop(0)
	check(t, &m, nil, at...)
}

func TestOfNone(t *testing.T) {
	var m *omap.Map[int, string]
	at := []int{math.MinInt, -1, 0, 1, math.MaxInt}
	check(t, m, nil, at...)
	if m.Put(0, "x") || m.Drop(0) {
		t.Error("Put, or Drop: true")
	}
	check(t, m, nil, at...)
}

// TestAsLongAsAsked holds that no more is told than is asked for, and that it can be asked for again.
func TestAsLongAsAsked(t *testing.T) {
	m := filled(1, 2, 3, 4, 5, 6, 7, 8, 9)
	list := all(m.All())
	for most := 1; most <= 5; most++ {
		checkList(t, "All", told(m.All(), most), list[:most])
		checkList(t, "From", told(m.From(4), most), list[3:3+most])
		checkList(t, "Range", told(m.Range(4, 7), most), list[3:3+min(most, 3)])
	}
	s := m.Range(2, 5)
	checkList(t, "Range", all(s), list[1:4])
	checkList(t, "Range again", all(s), list[1:4])
	m.Drop(3)
	checkList(t, "Range, where one was dropped", all(s), []entry{list[1], list[3]})
}

// TestMeanwhile holds that what is put and dropped while keys are told takes nothing away from what is told.
func TestMeanwhile(t *testing.T) {
	keys := []int{1, 2, 3, 4, 5, 6, 7, 8, 9}
	ways := map[string]func(m *omap.Map[int, string], k int){
		"Drop of it":         func(m *omap.Map[int, string], k int) { m.Drop(k) },
		"Drop of the next":   func(m *omap.Map[int, string], k int) { m.Drop(k + 1) },
		"Drop of all":        func(m *omap.Map[int, string], k int) { drop(m, keys...) },
		"Put of greater":     func(m *omap.Map[int, string], k int) { m.Put(k+100, "") },
		"Put of lesser":      func(m *omap.Map[int, string], k int) { m.Put(k-100, "") },
		"Put of other ones":  func(m *omap.Map[int, string], k int) { m.Put(k+1, "other") },
		"Drop, and Put back": func(m *omap.Map[int, string], k int) { m.Drop(k); m.Put(k, "other") },
	}
	for what, way := range ways {
		m := filled(keys...)
		var got []int
		for k, v := range m.All() {
			way(m, k)
			got = append(got, k)
			if v != name(k) {
				t.Errorf("%s: got %q of %d", what, v, k)
			}
		}
		checkList(t, what, got, keys)
	}
	m := filled(keys...)
	for k := range m.All() {
		m.Drop(k)
	}
	check(t, m, nil, keys...)
}

func drop(m *omap.Map[int, string], keys ...int) {
	for _, k := range keys {
		m.Drop(k)
	}
}

// TestKeysAreTheCallers holds that what is done to an answer changes nothing here.
func TestKeysAreTheCallers(t *testing.T) {
	m := filled(1, 2, 3)
	keys := m.Keys()
	keys[0] = 9
	_ = append(keys[:1], 8, 7)
	checkList(t, "Keys", m.Keys(), []int{1, 2, 3})
	kept := m.Keys()
	m.Drop(2)
	m.Put(0, "")
	checkList(t, "Keys that were told ahead", kept, []int{1, 2, 3})
}

// checkOrder holds that keys of any type, put in any order, are told in that of the language.
func checkOrder[K cmp.Ordered](t *testing.T, rising ...K) {
	t.Helper()
	for first := range rising {
		var m omap.Map[K, int]
		for i := range rising {
			at := (first + i*3) % len(rising)
			if len(rising)%3 == 0 {
				at = (first + i) % len(rising)
			}
			if !m.Put(rising[at], at) || m.Put(rising[at], at) {
				t.Fatalf("Put %v", rising[at])
			}
		}
		i := 0
		for k, v := range m.All() {
			if v != i || cmp.Compare(k, rising[i]) != 0 || m.Below(k) != i {
				t.Fatalf("at %d: got %v, %d", i, k, v)
			}
			if got, ok := m.Get(k); got != i || !ok {
				t.Fatalf("Get %v: got %d, %v", k, got, ok)
			}
			i++
		}
		for _, k := range rising {
			if !m.Drop(k) || m.Drop(k) {
				t.Fatalf("Drop %v", k)
			}
		}
		if m.Len() != 0 {
			t.Fatalf("Len: got %d", m.Len())
		}
	}
}

func TestAnyType(t *testing.T) {
	checkOrder(t, "", "\x00", "A", "B", "a", "aa", "b", "\u00e9", "\xff")
	checkOrder(t, int8(-128), -1, 0, 1, 127)
	checkOrder(t, uint64(0), 1, 1<<63, math.MaxUint64)
	// Also where one is none of the numbers: it has its place ahead of them, as in all of the library.
	checkOrder(t, math.NaN(), math.Inf(-1), -1, 0, math.SmallestNonzeroFloat64, 1, math.Inf(1))
	var m omap.Map[string, func() int]
	m.Put("f", func() int { return 7 })
	m.Put("nil", nil)
	if f, ok := m.Get("f"); !ok || f() != 7 {
		t.Error("a function does not come back")
	}
	if f, ok := m.Get("nil"); !ok || f != nil {
		t.Error("a thing that is nothing is there, too")
	}
}

// TestMany holds that many keys are not too many, in whatever order they come.
func TestMany(t *testing.T) {
	const many = 1 << 17
	orders := map[string]func(i int) int{
		"rising":  func(i int) int { return i },
		"falling": func(i int) int { return many - 1 - i },
		"mixed":   func(i int) int { return i * 40503 % many },
	}
	for what, order := range orders {
		var m omap.Map[int, int]
		for i := range many {
			m.Put(order(i), i)
		}
		keys := m.Keys()
		if m.Len() != many || len(keys) != many || !slices.IsSorted(keys) {
			t.Errorf("%s: got %d, %d", what, m.Len(), len(keys))
		}
		for i := range many {
			if i%4 > 0 && !m.Drop(order(i)) {
				t.Fatalf("%s: Drop %d: false", what, order(i))
			}
		}
		if m.Len() != many/4 || m.Below(many) != many/4 {
			t.Errorf("%s: got %d, %d", what, m.Len(), m.Below(many))
		}
	}
}
