package count_test

import (
	"math"
	"testing"

	"lamplighter/api"
	"lamplighter/count"
)

// check holds all that is told of what each counts.
func check(t *testing.T, c *count.Counts, want ...count.Shard) {
	t.Helper()
	if c.Len() != len(want) {
		t.Errorf("Len: got %d, want %d", c.Len(), len(want))
	}
	var sum count.Shard
	for who, w := range want {
		if got := c.Of(who); got != w {
			t.Errorf("of %d: got %v, want %v", who, got, w)
		}
		for i := range sum {
			sum[i] += w[i]
		}
	}
	if got := c.Sum(); got != sum {
		t.Errorf("Sum: got %v, want %v", got, sum)
	}
	for _, who := range []int{math.MinInt, -1, len(want), math.MaxInt} {
		if got := c.Of(who); got != (count.Shard{}) {
			t.Errorf("of %d: got %v", who, got)
		}
	}
}

func TestExample(t *testing.T) {
	c := count.New(1)
	if !c.Add(0, 1) || c.Sum()[1] != 1 {
		t.Errorf("got %v", c.Sum())
	}
}

func TestAdd(t *testing.T) {
	c := count.New(2)
	check(t, c, count.Shard{}, count.Shard{})
	for kind := range api.Counters {
		for range kind + 1 {
			if !c.Add(1, kind) {
				t.Errorf("there is no kind %d", kind)
			}
		}
	}
	c.Add(0, 0)
	c.Add(0, api.Counters-1)
	want := []count.Shard{{1, 0, 0, 0, 0, 1}, {1, 2, 3, 4, 5, 6}}
	check(t, c, want...)
	for _, x := range [][2]int{{-1, 0}, {2, 0}, {0, -1}, {0, api.Counters}, {math.MinInt, math.MinInt}, {math.MaxInt, 0}, {0, math.MaxInt}, {-1, -1}} {
		if c.Add(x[0], x[1]) {
			t.Errorf("%d counts %d", x[0], x[1])
		}
	}
	check(t, c, want...)
}

func TestMany(t *testing.T) {
	for many, want := range map[int]int{
		math.MinInt: 1, -1: 1, 0: 1, 1: 1, 5: 5, api.MaxParts: api.MaxParts, api.MaxParts + 1: api.MaxParts, math.MaxInt: api.MaxParts,
	} {
		c := count.New(many)
		if c.Len() != want || !c.Add(want-1, 0) || c.Add(want, 0) {
			t.Errorf("%d: got %d", many, c.Len())
		}
	}
}

func TestPlus(t *testing.T) {
	a, b := count.Shard{1, 2, 3, -4, 5, 6}, count.Shard{10, 0, -3, 4, 50, 60}
	want := count.Shard{11, 2, 0, 0, 55, 66}
	if got := count.Plus(a, b); got != want || count.Plus(b, a) != want || count.Plus(a, count.Shard{}) != a {
		t.Errorf("got %v", got)
	}
	if a != (count.Shard{1, 2, 3, -4, 5, 6}) || b != (count.Shard{10, 0, -3, 4, 50, 60}) {
		t.Errorf("what was handed in was changed: %v, %v", a, b)
	}
}

func TestBelow(t *testing.T) {
	a := count.Shard{1, 2, 3, 4, 5, 6}
	if !count.Below(a, a) || !count.Below(count.Shard{}, a) || count.Below(a, count.Shard{}) || !count.Below(count.Shard{}, count.Shard{}) {
		t.Error("counts are above themselves, or below nothing")
	}
	for i := range a {
		b := a
		b[i]++
		if !count.Below(a, b) || count.Below(b, a) {
			t.Errorf("at %d: got %v, %v", i, count.Below(a, b), count.Below(b, a))
		}
		// One that is above is not made up for by others that are below.
		b = count.Shard{9, 9, 9, 9, 9, 9}
		b[i] = a[i] - 1
		if count.Below(a, b) {
			t.Errorf("at %d it is above", i)
		}
	}
}

// TestRead holds that a reader reads one step by step, each as it counts then.
func TestRead(t *testing.T) {
	c := count.New(3)
	for who := range 3 {
		c.Add(who, 0)
	}
	r := c.Read()
	if r.Sum() != (count.Shard{}) {
		t.Errorf("at first: got %v", r.Sum())
	}
	for i, want := range []count.Shard{{1}, {2, 1}, {3, 2}, {3, 2}, {3, 2}} {
		if all := r.Step(); all != (i >= 2) || r.Sum() != want {
			t.Errorf("step %d: got %v, %v", i, all, r.Sum())
		}
		// Who was read counts for nothing more, the others do.
		c.Add(0, 5)
		c.Add(min(i+1, 2), 1)
	}
	other := c.Read()
	for i := range 3 {
		if all := other.Step(); all != (i == 2) {
			t.Errorf("step %d: got %v", i, all)
		}
	}
	if other.Sum() != c.Sum() || r.Sum() == c.Sum() {
		t.Errorf("got %v, and %v of %v", other.Sum(), r.Sum(), c.Sum())
	}
	if one := count.New(1).Read(); !one.Step() {
		t.Error("of one it is not all")
	}
}

func TestOfNone(t *testing.T) {
	for _, c := range []*count.Counts{nil, {}} {
		check(t, c)
		if c.Add(0, 0) {
			t.Error("somebody counts")
		}
		r := c.Read()
		if !r.Step() || !r.Step() || r.Sum() != (count.Shard{}) {
			t.Errorf("got %v", r.Sum())
		}
	}
	for _, r := range []*count.Reader{nil, {}} {
		if !r.Step() || r.Sum() != (count.Shard{}) {
			t.Errorf("got %v", r.Sum())
		}
	}
}

func TestIsTheCallers(t *testing.T) {
	c := count.New(2)
	c.Add(1, 2)
	of, sum := c.Of(1), c.Sum()
	of[2], sum[2] = 77, 77
	check(t, c, count.Shard{}, count.Shard{0, 0, 1})
}
