package pers_test

import (
	"math"
	"slices"
	"testing"

	"lamplighter/pers"
)

// told is so many things of those that Back tells.
func told(c *pers.Chain[int], most int) []int {
	var l []int
	for x := range c.Back() {
		l = append(l, x)
		if len(l) == most {
			break
		}
	}
	return l
}

// check holds all that is told of a chain against what is in it, the oldest first.
func check(t *testing.T, c *pers.Chain[int], want ...int) {
	t.Helper()
	if c.Len() != len(want) {
		t.Errorf("Len: got %d, want %d", c.Len(), len(want))
	}
	if got := c.List(); !slices.Equal(got, want) {
		t.Errorf("List: got %v, want %v", got, want)
	}
	back := slices.Clone(want)
	slices.Reverse(back)
	if got := told(c, math.MaxInt); !slices.Equal(got, back) {
		t.Errorf("Back: got %v, want %v", got, back)
	}
	newest, ok := c.Newest()
	if ok != (len(want) > 0) || ok && newest != back[0] || !ok && newest != 0 {
		t.Errorf("Newest: got %d, %v of %v", newest, ok, want)
	}
}

func TestExample(t *testing.T) {
	if x, ok := pers.Of(1, 2).Newest(); x != 2 || !ok {
		t.Errorf("got %d, %v", x, ok)
	}
}

func TestOf(t *testing.T) {
	check(t, pers.Of[int]())
	check(t, pers.Of(7), 7)
	check(t, pers.Of(0), 0)
	check(t, pers.Of(1, 2), 1, 2)
	check(t, pers.Of(3, 1, 3, 2), 3, 1, 3, 2)
	check(t, pers.Of([]int{}...))
	check(t, pers.Of([]int(nil)...))
}

// TestOfIsHandedIn holds that a list that was handed in may be changed later.
func TestOfIsHandedIn(t *testing.T) {
	l := []int{1, 2, 3}
	c := pers.Of(l...)
	l[0], l[2] = 9, 9
	check(t, c, 1, 2, 3)
}

func TestWith(t *testing.T) {
	var none *pers.Chain[int]
	one := none.With(1)
	two := one.With(2)
	other := one.With(3)
	again := two.With(2)
	check(t, none)
	check(t, one, 1)
	check(t, two, 1, 2)
	check(t, other, 1, 3)
	check(t, again, 1, 2, 2)
}

func TestRest(t *testing.T) {
	c := pers.Of(1, 2, 3)
	check(t, c.Rest(), 1, 2)
	check(t, c.Rest().Rest(), 1)
	check(t, c, 1, 2, 3)
	check(t, c.Rest().With(9), 1, 2, 9)
	check(t, c.Rest(), 1, 2)
	check(t, c.With(4).Rest(), 1, 2, 3)
	if c.Rest().Rest().Rest() != nil {
		t.Error("Rest of one thing is a chain")
	}
	check(t, c.Rest().Rest().Rest().With(5), 5)
}

func TestOfNone(t *testing.T) {
	for _, c := range []*pers.Chain[int]{nil, {}, pers.Of[int](), pers.Of(1).Rest()} {
		check(t, c)
		if c.Rest() != nil {
			t.Error("Rest of none is a chain")
		}
		check(t, c.Rest().Rest())
		check(t, c.With(4), 4)
		check(t, c.With(4).With(5), 4, 5)
		if c.With(4).Rest() != nil {
			t.Error("Rest of one thing is a chain")
		}
		check(t, c)
	}
}

func TestBack(t *testing.T) {
	c := pers.Of(1, 2, 3, 4)
	for most := range 4 {
		if got := told(c, most+1); !slices.Equal(got, []int{4, 3, 2, 1}[:most+1]) {
			t.Errorf("the newest %d: got %v", most+1, got)
		}
	}
	s := c.Back()
	for range 2 {
		var got []int
		for x := range s {
			got = append(got, x)
			c.With(x)
		}
		if !slices.Equal(got, []int{4, 3, 2, 1}) {
			t.Errorf("Back: got %v", got)
		}
	}
	check(t, c, 1, 2, 3, 4)
}

// TestListIsTheCallers holds that what is done to a list changes no chain, and no other list.
func TestListIsTheCallers(t *testing.T) {
	c := pers.Of(1, 2, 3)
	first, second := c.List(), c.List()
	first[0] = 9
	_ = append(first[:1], 8, 8)
	if !slices.Equal(second, []int{1, 2, 3}) {
		t.Errorf("another list was changed: %v", second)
	}
	check(t, c, 1, 2, 3)
	if l := append(c.Rest().List(), 7); !slices.Equal(l, []int{1, 2, 7}) {
		t.Errorf("got %v", l)
	}
	check(t, c, 1, 2, 3)
}

// TestMany holds that of chains with one beginning each stays as it is.
func TestMany(t *testing.T) {
	chains := []*pers.Chain[int]{nil}
	lists := [][]int{nil}
	drawn := uint64(3)
	for i := range 2000 {
		drawn = drawn*2862933555777941757 + 3037000493
		from := int(drawn >> 33 % uint64(len(chains)))
		if drawn>>60%4 == 0 {
			chains = append(chains, chains[from].Rest())
			lists = append(lists, lists[from][:max(0, len(lists[from])-1)])
		} else {
			chains = append(chains, chains[from].With(i))
			lists = append(lists, append(slices.Clone(lists[from]), i))
		}
	}
	for i, c := range chains {
		check(t, c, lists[i]...)
	}
}

// TestLong holds that calls on a long chain come to an end, without much room.
func TestLong(t *testing.T) {
	var c *pers.Chain[int]
	for i := range 1 << 20 {
		c = c.With(i)
	}
	l := c.List()
	if c.Len() != 1<<20 || len(l) != 1<<20 || l[0] != 0 || l[len(l)-1] != 1<<20-1 || !slices.IsSorted(l) {
		t.Errorf("got %d, %d", c.Len(), len(l))
	}
	if got := told(c, 2); !slices.Equal(got, []int{1<<20 - 1, 1<<20 - 2}) {
		t.Errorf("Back: got %v", got)
	}
}

func TestAnyType(t *testing.T) {
	c := pers.Of("a", "").With("c")
	if !slices.Equal(c.List(), []string{"a", "", "c"}) {
		t.Errorf("got %q", c.List())
	}
	if x, ok := c.Rest().Newest(); x != "" || !ok {
		t.Errorf("Newest: got %q, %v", x, ok)
	}
	f := pers.Of[func() int](nil, func() int { return 7 })
	if x, ok := f.Newest(); !ok || x() != 7 {
		t.Error("a function does not come back")
	}
	if x, ok := f.Rest().Newest(); !ok || x != nil {
		t.Error("a thing that is nothing is there, too")
	}
}
