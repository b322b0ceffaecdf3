package align_test

import (
	"math"
	"slices"
	"testing"

	"lamplighter/align"
	"lamplighter/api"
)

// check holds all that is told of parts against up to when each knows all.
func check(t *testing.T, a *align.Align, want ...int64) {
	t.Helper()
	at := int64(-1)
	if len(want) > 0 {
		at = slices.Min(want)
	}
	if a.Parts() != len(want) || a.At() != at {
		t.Errorf("got %d parts, at %d, want %v", a.Parts(), a.At(), want)
	}
	var behind []int
	for part, time := range want {
		if got := a.Of(part); got != time {
			t.Errorf("of %d: got %d, want %d", part, got, time)
		}
		if time == at {
			behind = append(behind, part)
		}
	}
	if got := a.Behind(); !slices.Equal(got, behind) {
		t.Errorf("behind: got %v, want %v", got, behind)
	}
	for _, part := range []int{math.MinInt, -1, len(want), math.MaxInt} {
		if got := a.Of(part); got != -1 {
			t.Errorf("of %d: got %d", part, got)
		}
		to(t, a, part, 5, api.ErrInput)
		to(t, a, part, -1, api.ErrInput)
	}
}

func to(t *testing.T, a *align.Align, part int, time int64, want api.Errno) {
	t.Helper()
	if got := a.To(part, time); got != want {
		t.Errorf("%d to %d: got %d, want %d", part, time, got, want)
	}
}

func TestExample(t *testing.T) {
	a := align.New(2)
	to(t, a, 1, 5, api.OK)
	check(t, a, -1, 5)
}

func TestTo(t *testing.T) {
	a := align.New(3)
	check(t, a, -1, -1, -1)
	to(t, a, 0, 0, api.OK)
	to(t, a, 2, 7, api.OK)
	check(t, a, 0, -1, 7)
	to(t, a, 1, 7, api.OK)
	check(t, a, 0, 7, 7)
	to(t, a, 0, api.MaxTime, api.OK)
	check(t, a, api.MaxTime, 7, 7)
	to(t, a, 1, 8, api.OK)
	to(t, a, 2, 8, api.OK)
	check(t, a, api.MaxTime, 8, 8)
}

// TestErrors holds that nothing changes with an error.
func TestErrors(t *testing.T) {
	a := align.New(2)
	to(t, a, 0, 5, api.OK)
	for time, want := range map[int64]api.Errno{
		5: api.ErrOrder, 4: api.ErrOrder, 0: api.ErrOrder, -1: api.ErrTime, api.MaxTime + 1: api.ErrTime, math.MinInt64: api.ErrTime, math.MaxInt64: api.ErrTime,
	} {
		to(t, a, 0, time, want)
		check(t, a, 5, -1)
	}
	to(t, a, 1, -1, api.ErrTime)
	check(t, a, 5, -1)
	to(t, a, 0, 6, api.OK)
	check(t, a, 6, -1)
}

func TestParts(t *testing.T) {
	for parts, want := range map[int]int{
		math.MinInt: 1, -1: 1, 0: 1, 1: 1, 2: 2, api.MaxParts: api.MaxParts, api.MaxParts + 1: api.MaxParts, math.MaxInt: api.MaxParts,
	} {
		times := make([]int64, want)
		for i := range times {
			times[i] = -1
		}
		a := align.New(parts)
		check(t, a, times...)
		times[want-1] = 3
		to(t, a, want-1, 3, api.OK)
		check(t, a, times...)
	}
}

func TestOfNone(t *testing.T) {
	check(t, nil)
	check(t, &align.Align{})
	to(t, nil, 0, 5, api.ErrInput)
}

func TestIsTheCallers(t *testing.T) {
	a := align.New(2)
	a.Behind()[1] = 77
	check(t, a, -1, -1)
}
