package emit_test

import (
	"math"
	"slices"
	"strings"
	"testing"

	"lamplighter/api"
	"lamplighter/emit"
	"lamplighter/sample"
)

func pairs(l ...int64) []api.Pair {
	var m []api.Pair
	for i := 0; i+1 < len(l); i += 2 {
		m = append(m, api.Pair{Elem: int(l[i]), Seq: l[i+1]})
	}
	return m
}

// match is a match of p; lost, that runs of it were lost.
func match(time, seq int64, place int, l ...int64) api.Out {
	return api.Out{Kind: api.OutMatch, Query: "p", Place: place, Key: "k", Time: time, Seq: seq, Pairs: pairs(l...)}
}

func lost(time, seq int64, place int) api.Out {
	return api.Out{Kind: api.OutLost, Query: "p", Place: place, Key: "k", Time: time, Seq: seq}
}

// named is a match with another query's name, which does not count in the order.
func named(o api.Out, query string) api.Out {
	o.Query = query
	return o
}

// rising is things in their order.
func rising() []api.Out {
	return []api.Out{
		match(-1, 9, 9),
		match(1, 2, 5, 0, 1),
		match(1, 3, 0, 0, 1),
		match(1, 3, 0, 0, 1, 0, 2),
		match(1, 3, 0, 0, 1, 1, 0),
		match(1, 3, 0, 0, 2),
		match(1, 3, 0, 1, 0),
		lost(1, 3, 0),
		match(1, 3, 1, 0, 1),
		lost(1, 3, 1),
		match(1, 4, 0, 0, 1),
		match(2, 1, 0, 0, 1),
		match(2, 1, 0, 0, 1, 1, 5),
	}
}

func TestSame(t *testing.T) {
	l := rising()
	l = append(l, named(l[0], "q"), api.Out{}, api.Out{Kind: api.OutMatch, Query: "p", Key: "l", Time: 1, Seq: 2, Place: 5, Pairs: pairs(0, 1)})
	for i, a := range l {
		for j, b := range l {
			b.Pairs = slices.Clone(b.Pairs)
			if got := emit.Same(a, b); got != (i == j) {
				t.Errorf("%v, %v: got %v", a, b, got)
			}
			two := emit.SameAll([]api.Out{l[1], a}, []api.Out{l[1], b})
			if other := emit.SameAll([]api.Out{a, l[1]}, []api.Out{b, l[1]}); two != (i == j) || other != two {
				t.Errorf("%v, %v: got %v, %v", a, b, two, other)
			}
		}
	}
	a := match(1, 2, 3)
	b := a
	b.Pairs = []api.Pair{}
	if !emit.Same(a, b) || !emit.SameAll(nil, []api.Out{}) || emit.SameAll(l[:2], l[:3]) || emit.SameAll(l[:3], l[:2]) || emit.SameAll(nil, l[:1]) {
		t.Error("lists are not held by what is in them")
	}
}

func TestBegins(t *testing.T) {
	l := rising()
	for n := range len(l) + 1 {
		for m := range len(l) + 1 {
			if got := emit.Begins(l[:n], slices.Clone(l[:m])); got != (m <= n) {
				t.Errorf("%d, %d: got %v", n, m, got)
			}
		}
	}
	other := rising()
	other[3] = named(other[3], "q")
	if emit.Begins(l, other) || emit.Begins(l, other[:4]) || !emit.Begins(l, other[:3]) || emit.Begins(l, l[1:2]) {
		t.Error("one that is unlike begins it")
	}
	if !emit.Begins(nil, nil) || !emit.Begins(nil, []api.Out{}) || emit.Begins(nil, l[:1]) || !emit.Begins(l, nil) {
		t.Error("nothing does not begin all")
	}
}

func TestExample(t *testing.T) {
	a, b := match(1, 3, 2, 0, 1), match(1, 3, 1, 7, 9)
	if got := emit.Sort([]api.Out{a, b}); !emit.SameAll(got, []api.Out{b, a}) {
		t.Errorf("got %v", got)
	}
}

// TestSort holds that things come in their order from any other, and alike ones in theirs.
func TestSort(t *testing.T) {
	want := rising()
	for step := 1; step < len(want); step++ {
		// The list's length is a prime: each step goes through all of it.
		var l []api.Out
		for i := range want {
			l = append(l, want[i*step%len(want)])
		}
		if got := emit.Sort(l); !emit.SameAll(got, want) {
			t.Errorf("by steps of %d: got %v", step, got)
		}
	}
	var alike, back []api.Out
	for _, name := range strings.Split("q r a s b", " ") {
		alike = append(alike, named(match(1, 2, 3, 0, 1), name))
		back = append(back, named(match(1, 2, 2, 0, 1), name))
	}
	if got := emit.Sort(append(slices.Clone(alike), back...)); !emit.SameAll(got, append(slices.Clone(back), alike...)) {
		t.Errorf("got %v", got)
	}
	if len(emit.Sort(nil)) != 0 {
		t.Error("nothing becomes something")
	}
}

func TestMerge(t *testing.T) {
	want := rising()
	for many := 1; many < 6; many++ {
		lists := make([][]api.Out, many)
		for i, o := range want {
			lists[i*i%many] = append(lists[i*i%many], o)
		}
		if got := emit.Merge(lists...); !emit.SameAll(got, want) {
			t.Errorf("of %d: got %v", many, got)
		}
	}
	// Of alike ones that of the list ahead.
	a, b := match(1, 2, 3, 0, 1), match(1, 2, 3, 0, 1)
	q, r := named(a, "q"), named(b, "r")
	if got := emit.Merge([]api.Out{r}, nil, []api.Out{q, q}); !emit.SameAll(got, []api.Out{r, q, q}) {
		t.Errorf("got %v", got)
	}
	// Of lists that do not rise the least of their first things, again and again.
	if got := emit.Merge([]api.Out{want[5], want[1]}, []api.Out{want[3]}); !emit.SameAll(got, []api.Out{want[3], want[5], want[1]}) {
		t.Errorf("got %v", got)
	}
	if len(emit.Merge()) != 0 || len(emit.Merge(nil, []api.Out{})) != 0 {
		t.Error("nothing becomes something")
	}
}

func TestStrict(t *testing.T) {
	l := rising()
	if !emit.Strict(l) || !emit.Strict(nil) || !emit.Strict(l[3:4]) {
		t.Error("what rises is not strict")
	}
	for i := range l {
		twice := slices.Insert(slices.Clone(l), i, named(l[i], "q"))
		if emit.Strict(twice) {
			t.Errorf("with the one at %d twice it is strict", i)
		}
		if i > 0 {
			fallen := slices.Clone(l)
			fallen[i-1], fallen[i] = l[i], l[i-1]
			if emit.Strict(fallen) {
				t.Errorf("with the one at %d ahead it is strict", i)
			}
		}
	}
}

func TestUpto(t *testing.T) {
	l := []api.Out{match(-2, 1, 0), match(1, 1, 0), match(1, 2, 0), lost(4, 1, 0), match(2, 1, 0), match(9, 1, 0)}
	for time, want := range map[int64]int{math.MinInt64: 0, -3: 0, -2: 1, 0: 1, 1: 3, 3: 3, 4: 5, 8: 5, 9: 6, math.MaxInt64: 6} {
		if got := emit.Upto(l, time); got != want {
			t.Errorf("up to %d: got %d", time, got)
		}
	}
	if emit.Upto(nil, 5) != 0 {
		t.Error("nothing has something")
	}
}

// texts is things, without places, by their texts.
func texts() map[string]api.Out {
	odd := match(math.MinInt64, math.MaxInt64, 0, -1, math.MinInt64, math.MaxInt, math.MaxInt64)
	odd.Query, odd.Key = "", ""
	marks := match(7, 3, 0, 0, 1)
	marks.Key = "it's 'k' 7/3 0:1''"
	long := lost(7, 3, 0)
	long.Key = strings.Repeat("' ", 100)
	spaced := match(7, 3, 0)
	spaced.Query = "a 'b' 7/3 0:1 c "
	return map[string]api.Out{
		"p 'k' 7/3 0:1 1:3": match(7, 3, 0, 0, 1, 1, 3),
		"p 'k' 7/3 lost":    lost(7, 3, 0),
		"p 'k' 7/3":         match(7, 3, 0),
		"p 'k' -7/-3 0:0":   match(-7, -3, 0, 0, 0),
		" '' -9223372036854775808/9223372036854775807 -1:-9223372036854775808 9223372036854775807:9223372036854775807": odd,
		"p 'it''s ''k'' 7/3 0:1''''' 7/3 0:1":             marks,
		"p '" + strings.Repeat("'' ", 100) + "' 7/3 lost": long,
		"a 'b' 7/3 0:1 c  'k' 7/3":                        spaced,
	}
}

func TestShowAndRead(t *testing.T) {
	for text, want := range texts() {
		if got := emit.Show(want); got != text {
			t.Errorf("Show %v: got %s", want, got)
		}
		if got, ok := emit.Read(text); !emit.Same(got, want) || !ok {
			t.Errorf("Read %s: got %v, %v", text, got, ok)
		}
	}
}

// TestShowOthers holds that the place is not told, nor pairs where runs were lost, and that all but those are matches.
func TestShowOthers(t *testing.T) {
	placed := lost(7, 3, 9)
	placed.Pairs = pairs(0, 1)
	if got := emit.Show(placed); got != "p 'k' 7/3 lost" {
		t.Errorf("got %s", got)
	}
	for _, kind := range []int{0, 3, -1, math.MaxInt} {
		o := match(7, 3, 9, 0, 1)
		o.Kind = kind
		if got := emit.Show(o); got != "p 'k' 7/3 0:1" {
			t.Errorf("of kind %d: got %s", kind, got)
		}
	}
	if got := emit.Show(api.Out{}); got != " '' 0/0" {
		t.Errorf("of nothing: got %s", got)
	}
}

func TestReadNone(t *testing.T) {
	for _, text := range []string{
		"", " ", "p", "p ", "p 'k'", "p 'k' ", "p 'k' 7", "p 'k' 7/", "p 'k' /3", "p 'k' 7/3 ", "p 'k' 7/3/1", "p 'k' 7:3",
		"p k 7/3", "p 'k 7/3", "p k' 7/3", "p 'k''s 7/3", "p 'k's' 7/3", "p 'k'7/3", "p'k' 7/3", "p 'k'  7/3", "p 'k' 7/3  0:1", "'k' 7/3",
		"p 'k' 07/3", "p 'k' 7/03", "p 'k' -0/3", "p 'k' +7/3", "p 'k' 7 /3", "p 'k' 9223372036854775808/3", "p 'k' 7/9223372036854775808",
		"p 'k' 7/3 0", "p 'k' 7/3 0:", "p 'k' 7/3 :1", "p 'k' 7/3 0:1:2", "p 'k' 7/3 0/1", "p 'k' 7/3 00:1", "p 'k' 7/3 0:1 ", "p 'k' 7/3 0:1 x",
		"p 'k' 7/3 lost ", "p 'k' 7/3 lost 0:1", "p 'k' 7/3 0:1 lost", "p 'k' 7/3 Lost", "p 'k' 7/3 los", "p 'k' 7/3 lost lost",
		"p\t'k' 7/3", "p 'k'\t7/3", "p 'k' 7/3\n", "p 'k' 7/3 9223372036854775808:1",
	} {
		if got, ok := emit.Read(text); !emit.Same(got, api.Out{}) || ok {
			t.Errorf("%q: got %v, %v", text, got, ok)
		}
	}
}

// TestReadIsShow holds that what is read of any text has just that text.
func TestReadIsShow(t *testing.T) {
	d := sample.Dice(1)
	parts := []string{"p", " ", "'", "k", "7/3", "0:1", "lost", "''", " ", "' ", "/", ":", "1", "-", "0"}
	read := 0
	for range 200000 {
		text := "p '"
		for range d.Below(9) {
			text += d.Pick(parts...)
		}
		if o, ok := emit.Read(text); ok {
			read++
			if emit.Show(o) != text || o.Place != 0 {
				t.Fatalf("%q: got %v", text, o)
			}
		}
	}
	if read < 100 {
		t.Errorf("only %d were read", read)
	}
}

// TestLong holds that texts that are none's come to an end soon, however long they are.
func TestLong(t *testing.T) {
	for _, part := range []string{" ", " '", "'", " ''", " '''", " 'k' 7/3", " 'k' 7/3 0:1", " 'k' 7/3 lost", " 'a", " ''a"} {
		if _, ok := emit.Read(strings.Repeat(part, 200000) + " x"); ok {
			t.Errorf("%q again and again is something's text", part)
		}
	}
}

func TestIsTheCallers(t *testing.T) {
	l := rising()
	spoil := func(l []api.Out) {
		for i := range l {
			for j := range l[i].Pairs {
				l[i].Pairs[j] = api.Pair{Elem: 77, Seq: 77}
			}
			l[i] = api.Out{}
		}
	}
	slices.Reverse(l)
	spoil(emit.Sort(l))
	spoil(emit.Merge(l))
	spoil(emit.Merge(l[:3], l[3:]))
	slices.Reverse(l)
	if !emit.SameAll(l, rising()) {
		t.Errorf("what was handed in was changed: %v", l)
	}
	sorted, one, two := emit.Sort(l), emit.Merge(l), emit.Merge(l[:3], l[3:])
	spoil(l)
	for _, got := range [][]api.Out{sorted, one, two} {
		if !emit.SameAll(got, rising()) {
			t.Errorf("what was told was changed: %v", got)
		}
	}
}
