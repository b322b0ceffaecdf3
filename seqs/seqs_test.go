package seqs_test

import (
	"iter"
	"math"
	"slices"
	"strconv"
	"strings"
	"testing"

	"lamplighter/api"
	"lamplighter/seqs"
)

// asked tells 0, 1, 2, .. without an end, and notes how many were asked for.
func asked(count *int) iter.Seq[int] {
	return func(yield func(int) bool) {
		for i := 0; ; i++ {
			*count++
			if !yield(i) {
				return
			}
		}
	}
}

// stubborn goes on, though no more is asked for.
func stubborn(l ...int) iter.Seq[int] {
	return func(yield func(int) bool) {
		for _, x := range l {
			yield(x)
		}
	}
}

// all is all that comes.
func all[T any](s iter.Seq[T]) []T { return firstOf(s, math.MaxInt) }

// firstOf is so many of those that come, where the loop breaks.
func firstOf[T any](s iter.Seq[T], most int) []T {
	var l []T
	for x := range s {
		l = append(l, x)
		if len(l) == most {
			break
		}
	}
	return l
}

// pairs is the texts of so many of the pairs that come, where the loop breaks.
func pairs(s iter.Seq2[int, int], most int) []string {
	var l []string
	for a, b := range s {
		l = append(l, strconv.Itoa(a)+"-"+strconv.Itoa(b))
		if len(l) == most {
			break
		}
	}
	return l
}

func checkList[T comparable](t *testing.T, what string, got, want []T) {
	t.Helper()
	if !slices.Equal(got, want) {
		t.Errorf("%s: got %v, want %v", what, got, want)
	}
}

// checkSeq holds what comes, that it comes again, and that it stops wherever no more is asked for.
func checkSeq(t *testing.T, what string, s iter.Seq[int], want ...int) {
	t.Helper()
	for range 2 {
		checkList(t, what, all(s), want)
	}
	for i := range want {
		checkList(t, what+", first ones", firstOf(s, i+1), want[:i+1])
	}
}

// counts are numbers of things to be asked for, at and beyond all edges.
var counts = []int{math.MinInt, -1, 0, 1, 2, 3, 4, 5, 6, 7, 100, math.MaxInt}

func upto(n int) []int {
	var l []int
	for i := range n {
		l = append(l, i)
	}
	return l
}

func TestExample(t *testing.T) {
	checkList(t, "Some", seqs.Some(seqs.Of(1, 2, 3), 2), []int{1, 2})
}

func TestOf(t *testing.T) {
	checkSeq(t, "Of nothing", seqs.Of[int]())
	checkSeq(t, "Of none", seqs.Of([]int(nil)...))
	checkSeq(t, "Of", seqs.Of(3, 1, 3), 3, 1, 3)
	l := []int{1, 2, 3}
	s := seqs.Of(l...)
	l[0], l[2] = 9, 9
	checkSeq(t, "Of a list that was changed later", s, 1, 2, 3)
	for range s {
		l[1] = 7
	}
	checkList(t, "the list", l, []int{9, 7, 9})
}

func TestSome(t *testing.T) {
	for long := range 6 {
		for _, n := range counts {
			want := upto(min(long, max(n, 0)))
			checkList(t, "Some", seqs.Some(seqs.Of(upto(long)...), n), want)
			checkSeq(t, "Take", seqs.Take(seqs.Of(upto(long)...), n), want...)
			checkSeq(t, "Skip", seqs.Skip(seqs.Of(upto(long)...), n), upto(long)[len(want):]...)
		}
	}
}

// TestNoMoreIsAskedFor holds that no thing is asked for that is not told.
func TestNoMoreIsAskedFor(t *testing.T) {
	for _, n := range []int{math.MinInt, -1, 0, 1, 2, 5, 100} {
		some, take := 0, 0
		got := seqs.Some(asked(&some), n)
		checkList(t, "Some", got, upto(n))
		checkList(t, "Take", all(seqs.Take(asked(&take), n)), upto(n))
		if want := max(n, 0); some != want || take != want {
			t.Errorf("of %d Some asked for %d, Take for %d", n, some, take)
		}
	}
	count := 0
	checkList(t, "Take, where less is asked for", firstOf(seqs.Take(asked(&count), 10), 3), upto(3))
	if count != 3 {
		t.Errorf("Take asked for %d", count)
	}
	ways := map[string]struct {
		way  func(s iter.Seq[int]) int
		want int
	}{
		"Skip":     {func(s iter.Seq[int]) int { return len(firstOf(seqs.Skip(s, 4), 3)) }, 7},
		"Both":     {func(s iter.Seq[int]) int { return len(firstOf(seqs.Both(s, s), 3)) }, 3},
		"Numbered": {func(s iter.Seq[int]) int { return len(pairs(seqs.Numbered(s), 3)) }, 3},
		"Chunks":   {func(s iter.Seq[int]) int { return len(firstOf(seqs.Chunks(s, 4), 3)) }, 12},
		"Steps":    {func(s iter.Seq[int]) int { return len(pairs(seqs.Steps(s), 3)) }, 4},
		"Once":     {func(s iter.Seq[int]) int { return len(firstOf(seqs.Once(s), 3)) }, 3},
	}
	for name, x := range ways {
		count := 0
		if got := x.way(asked(&count)); got != 3 || count != x.want {
			t.Errorf("%s: told %d, and asked for %d, want %d", name, got, count, x.want)
		}
	}
}

// TestNothingIsAskedAhead holds that nothing is asked for before it is wanted.
func TestNothingIsAskedAhead(t *testing.T) {
	count := 0
	s := asked(&count)
	seqs.Take(s, 3)
	seqs.Skip(s, 3)
	seqs.Both(s, s)
	seqs.Numbered(s)
	seqs.Chunks(s, 3)
	seqs.Steps(s)
	seqs.Once(s)
	if count != 0 {
		t.Errorf("asked for %d", count)
	}
}

func TestBoth(t *testing.T) {
	checkSeq(t, "Both", seqs.Both(seqs.Of(1, 2), seqs.Of(3, 1)), 1, 2, 3, 1)
	checkSeq(t, "Both, first nothing", seqs.Both(seqs.Of[int](), seqs.Of(3)), 3)
	checkSeq(t, "Both, then nothing", seqs.Both(seqs.Of(1), seqs.Of[int]()), 1)
	checkSeq(t, "Both of nothing", seqs.Both(seqs.Of[int](), seqs.Of[int]()))
	one, other := 0, 0
	checkList(t, "Both without an end", firstOf(seqs.Both(asked(&one), asked(&other)), 4), upto(4))
	if one != 4 || other != 0 {
		t.Errorf("asked for %d, and %d", one, other)
	}
}

func TestCount(t *testing.T) {
	for long := range 6 {
		if got := seqs.Count(seqs.Of(upto(long)...)); got != long {
			t.Errorf("Count of %d: got %d", long, got)
		}
	}
	if got := seqs.Count(seqs.Of[any](nil, nil)); got != 2 {
		t.Errorf("Count: got %d", got)
	}
}

func TestNumbered(t *testing.T) {
	s := seqs.Numbered(seqs.Of(7, 5, 7))
	for range 2 {
		checkList(t, "Numbered", pairs(s, 99), []string{"0-7", "1-5", "2-7"})
	}
	checkList(t, "Numbered, first ones", pairs(s, 2), []string{"0-7", "1-5"})
	checkList(t, "Numbered, of nothing", pairs(seqs.Numbered(seqs.Of[int]()), 99), nil)
}

func TestSteps(t *testing.T) {
	s := seqs.Steps(seqs.Of(7, 5, 7, 7))
	for range 2 {
		checkList(t, "Steps", pairs(s, 99), []string{"7-5", "5-7", "7-7"})
	}
	checkList(t, "Steps, first one", pairs(s, 1), []string{"7-5"})
	checkList(t, "Steps of two", pairs(seqs.Steps(seqs.Of(0, 0)), 99), []string{"0-0"})
	checkList(t, "Steps of one", pairs(seqs.Steps(seqs.Of(7)), 99), nil)
	checkList(t, "Steps of nothing", pairs(seqs.Steps(seqs.Of[int]()), 99), nil)
}

func TestChunks(t *testing.T) {
	for long := range 8 {
		for _, n := range counts {
			s := seqs.Chunks(seqs.Of(upto(long)...), n)
			for range 2 {
				var joined []int
				for _, l := range all(s) {
					joined = append(joined, l...)
					if size := max(n, 1); len(l) != size && (len(l) > size || len(joined) != long || len(l) == 0) {
						t.Errorf("Chunks of %d by %d: got one of %d", long, n, len(l))
					}
				}
				checkList(t, "Chunks", joined, upto(long))
			}
		}
	}
}

// TestChunksAreTheCallers holds that what is done to a list changes no other one, and not what is to come.
func TestChunksAreTheCallers(t *testing.T) {
	var lists [][]int
	for l := range seqs.Chunks(seqs.Of(1, 2, 3, 4, 5), 2) {
		lists = append(lists, l)
		_ = append(l[:1:cap(l)], 90, 91)
		l[0] += 10
	}
	if len(lists) != 3 || lists[0][0] != 11 || lists[1][0] != 13 || !slices.Equal(lists[2], []int{15}) {
		t.Errorf("got %v", lists)
	}
	lists[0] = append(lists[0], 70, 71, 72)
	lists[0][1] = 80
	if lists[1][0] != 13 || lists[2][0] != 15 {
		t.Errorf("got %v", lists)
	}
}

func TestOnce(t *testing.T) {
	checkSeq(t, "Once", seqs.Once(seqs.Of(3, 1, 3, 2, 1, 1, 4)), 3, 1, 2, 4)
	checkSeq(t, "Once, all alike", seqs.Once(seqs.Of(0, 0, 0)), 0)
	checkSeq(t, "Once, none alike", seqs.Once(seqs.Of(1, 2, 3)), 1, 2, 3)
	checkSeq(t, "Once, of nothing", seqs.Once(seqs.Of[int]()))
	checkList(t, "Once of texts", all(seqs.Once(seqs.Of("b", "", "b", "", "a"))), []string{"b", "", "a"})
	a, b := api.Pair{Elem: 1, Seq: 2}, api.Pair{Elem: 2, Seq: 1}
	checkList(t, "Once of structs", all(seqs.Once(seqs.Of(b, a, b, a))), []api.Pair{b, a})
}

// TestOnceOfAll holds that there is no panic, of whatever kinds things are: what is like nothing comes first each time.
func TestOnceOfAll(t *testing.T) {
	list := []int{1}
	got := all(seqs.Once(seqs.Of[any](list, 1, list, "1", 1, nil, nil, [1]any{list}, int64(1), [1]any{1}, [1]any{1})))
	if len(got) != 8 {
		t.Errorf("got %v", got)
	}
	nan := math.NaN()
	if got := all(seqs.Once(seqs.Of(nan, 1, nan, 1))); len(got) != 3 {
		t.Errorf("got %v", got)
	}
}

func TestOfNone(t *testing.T) {
	var none iter.Seq[int]
	checkList(t, "Some", seqs.Some(none, 3), nil)
	checkSeq(t, "Take", seqs.Take(none, 3))
	checkSeq(t, "Skip", seqs.Skip(none, 0))
	checkSeq(t, "Both", seqs.Both(none, none))
	checkSeq(t, "Both, first none", seqs.Both(none, seqs.Of(1, 2)), 1, 2)
	checkSeq(t, "Both, then none", seqs.Both(seqs.Of(1, 2), none), 1, 2)
	checkSeq(t, "Once", seqs.Once(none))
	checkList(t, "Numbered", pairs(seqs.Numbered(none), 99), nil)
	checkList(t, "Steps", pairs(seqs.Steps(none), 99), nil)
	if got := seqs.Count(none); got != 0 {
		t.Errorf("Count: got %d", got)
	}
	if got := all(seqs.Chunks(none, 2)); len(got) != 0 {
		t.Errorf("Chunks: got %v", got)
	}
}

// TestStubborn holds that what goes on, though no more is asked for, is not told on, and does no harm.
func TestStubborn(t *testing.T) {
	s := stubborn(1, 1, 2, 3, 4, 5)
	checkList(t, "Some", seqs.Some(s, 2), []int{1, 1})
	checkSeq(t, "Take", seqs.Take(s, 3), 1, 1, 2)
	checkSeq(t, "Skip", seqs.Skip(s, 3), 3, 4, 5)
	checkSeq(t, "Both", seqs.Both(s, s), 1, 1, 2, 3, 4, 5, 1, 1, 2, 3, 4, 5)
	checkSeq(t, "Once", seqs.Once(s), 1, 2, 3, 4, 5)
	checkList(t, "Numbered", pairs(seqs.Numbered(s), 2), []string{"0-1", "1-1"})
	checkList(t, "Steps", pairs(seqs.Steps(s), 2), []string{"1-1", "1-2"})
	if got := firstOf(seqs.Chunks(s, 4), 1); len(got) != 1 || !slices.Equal(got[0], []int{1, 1, 2, 3}) {
		t.Errorf("Chunks: got %v", got)
	}
	if got := seqs.Count(s); got != 6 {
		t.Errorf("Count: got %d", got)
	}
}

// thing has a name that does not count.
type thing struct {
	rank int
	name string
}

func (a thing) Less(b thing) bool { return a.rank < b.rank }

// drawn are lists of things with names of their own, of few ranks.
func drawn(seed uint64, lists, most, ranks int, rise bool) [][]thing {
	next := func(n int) int {
		seed = seed*2862933555777941757 + 3037000493
		return int(seed >> 35 % uint64(n))
	}
	all := make([][]thing, lists)
	for i := range all {
		for j := range next(most + 1) {
			all[i] = append(all[i], thing{next(ranks), strconv.Itoa(i) + "." + strconv.Itoa(j)})
		}
		if rise {
			slices.SortStableFunc(all[i], func(a, b thing) int { return a.rank - b.rank })
		}
	}
	return all
}

// scanned is what Merge is said to be: the least of the first things, again and again.
func scanned(l [][]thing) []thing {
	left := slices.Clone(l)
	var merged []thing
	for {
		best := -1
		for i, x := range left {
			if len(x) > 0 && (best < 0 || x[0].Less(left[best][0])) {
				best = i
			}
		}
		if best < 0 {
			return merged
		}
		merged = append(merged, left[best][0])
		left[best] = left[best][1:]
	}
}

func TestMerge(t *testing.T) {
	cases := []struct{ l, want []string }{
		{nil, nil},
		{[]string{""}, nil},
		{[]string{"", "", ""}, nil},
		{[]string{"123"}, []string{"1a", "2a", "3a"}},
		{[]string{"13", "24"}, []string{"1a", "2b", "3a", "4b"}},
		{[]string{"24", "13"}, []string{"1b", "2a", "3b", "4a"}},
		{[]string{"11", "11"}, []string{"1a", "1a", "1b", "1b"}},
		{[]string{"12", "1", "012"}, []string{"0c", "1a", "1b", "1c", "2a", "2c"}},
		{[]string{"", "5", "", "4"}, []string{"4d", "5b"}},
		{[]string{"31", "2"}, []string{"2b", "3a", "1a"}},
		{[]string{"2", "31"}, []string{"2a", "3b", "1b"}},
		{[]string{"321"}, []string{"3a", "2a", "1a"}},
		{[]string{"31", "21", "2"}, []string{"2b", "1b", "2c", "3a", "1a"}},
	}
	for _, c := range cases {
		var lists [][]thing
		for i, digits := range c.l {
			var l []thing
			for _, d := range digits {
				l = append(l, thing{int(d - '0'), string(rune('a' + i))})
			}
			lists = append(lists, l)
		}
		var got []string
		for _, x := range seqs.Merge(lists...) {
			got = append(got, strconv.Itoa(x.rank)+x.name)
		}
		checkList(t, "Merge of "+strings.Join(c.l, " "), got, c.want)
	}
}

// TestMergeOfMany holds long lists, and many, that rise, and that do not, against the least of the first things.
func TestMergeOfMany(t *testing.T) {
	for seed := range uint64(400) {
		l := drawn(seed, int(seed%12), 9, 1+int(seed%7), seed%3 > 0)
		got := seqs.Merge(l...)
		checkList(t, "Merge", got, scanned(l))
		if seed%3 > 0 && !seqs.Rises(got) {
			t.Errorf("what is merged does not rise: %v", got)
		}
		if t.Failed() {
			t.Fatalf("of %v", l)
		}
	}
}

// TestMergeOfVeryMany holds that there may be more lists than a heap has room for.
func TestMergeOfVeryMany(t *testing.T) {
	l := make([][]thing, api.MaxHeap+10)
	for i := range l {
		l[i] = []thing{{len(l) - i, ""}, {len(l) - i + 5, ""}}
	}
	if got := seqs.Merge(l...); len(got) != 2*len(l) || !seqs.Rises(got) {
		t.Errorf("got %d", len(got))
	}
}

// TestMergeIsTheCallers holds that lists are not changed, and share nothing with the answer.
func TestMergeIsTheCallers(t *testing.T) {
	lists := func() [][]thing {
		return [][]thing{{{1, "a"}, {3, "a"}}, {}, {{2, "c"}, {4, "c"}, {5, "c"}}}
	}
	for many := 1; many <= 3; many++ {
		l := lists()[:many]
		got := seqs.Merge(l...)
		want := slices.Clone(got)
		for i := range got {
			got[i] = thing{-1, "changed"}
		}
		_ = append(got[:0], thing{-2, "changed"})
		for i := range l {
			checkList(t, "what was handed in", l[i], lists()[i])
		}
		got = seqs.Merge(l...)
		for i := range l {
			clear(l[i])
		}
		checkList(t, "what was answered", got, want)
	}
}

func TestRises(t *testing.T) {
	cases := []struct {
		ranks []int
		want  bool
	}{
		{nil, true}, {[]int{1}, true}, {[]int{1, 1}, true}, {[]int{1, 2}, true}, {[]int{2, 1}, false},
		{[]int{1, 2, 2, 3}, true}, {[]int{1, 2, 3, 2}, false}, {[]int{3, 1, 2}, false}, {[]int{1, 3, 2, 4}, false}, {[]int{-1, 0, 1}, true},
	}
	for _, c := range cases {
		var l []thing
		for i, rank := range c.ranks {
			l = append(l, thing{rank, strconv.Itoa(i)})
		}
		was := slices.Clone(l)
		if got := seqs.Rises(l); got != c.want {
			t.Errorf("Rises %v: got %v", c.ranks, got)
		}
		checkList(t, "what was handed in", l, was)
	}
}

// TestMergeOfStamps holds a type of another package.
func TestMergeOfStamps(t *testing.T) {
	a := []api.Stamp{{Time: 1, Seq: 4}, {Time: 3, Seq: 1}}
	b := []api.Stamp{{Time: 1, Seq: 2}, {Time: 1, Seq: 4, At: 1}, {Time: 2}}
	checkList(t, "Merge", seqs.Merge(a, b), []api.Stamp{b[0], a[0], b[1], b[2], a[1]})
}
