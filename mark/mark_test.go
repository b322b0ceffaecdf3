package mark_test

import (
	"math"
	"testing"

	"lamplighter/api"
	"lamplighter/mark"
)

// to is a mark at a time, from the zero one on.
func to(t *testing.T, time int64) mark.Mark {
	t.Helper()
	m, e := mark.Mark{}.To(time)
	if e != api.OK || m.At() != time {
		t.Fatalf("to %d: got %d, %d", time, m.At(), e)
	}
	return m
}

func TestExample(t *testing.T) {
	m := to(t, 5)
	if again, e := m.To(5); e != api.ErrOrder || again != m {
		t.Errorf("got %d, %d", again.At(), e)
	}
}

func TestTo(t *testing.T) {
	cases := []struct {
		from, time int64
		e          api.Errno
	}{
		{-1, 0, api.OK}, {-1, 1, api.OK}, {-1, api.MaxTime, api.OK},
		{-1, -1, api.ErrTime}, {-1, -2, api.ErrTime}, {-1, api.MaxTime + 1, api.ErrTime},
		{-1, math.MinInt64, api.ErrTime}, {-1, math.MaxInt64, api.ErrTime},
		{0, 0, api.ErrOrder}, {0, 1, api.OK}, {0, -1, api.ErrTime},
		{5, 4, api.ErrOrder}, {5, 0, api.ErrOrder}, {5, 6, api.OK}, {5, -1, api.ErrTime}, {5, math.MaxInt64, api.ErrTime},
		{api.MaxTime, api.MaxTime, api.ErrOrder}, {api.MaxTime, api.MaxTime + 1, api.ErrTime}, {api.MaxTime, 0, api.ErrOrder},
	}
	for _, c := range cases {
		var from mark.Mark
		if c.from >= 0 {
			from = to(t, c.from)
		}
		want := c.time
		if c.e != api.OK {
			want = c.from
		}
		got, e := from.To(c.time)
		if e != c.e || got.At() != want || from.At() != c.from {
			t.Errorf("from %d to %d: got %d, %d", c.from, c.time, got.At(), e)
		}
	}
}

func TestLate(t *testing.T) {
	zero := mark.Mark{}
	five := to(t, 5)
	last := to(t, api.MaxTime)
	cases := []struct {
		m    mark.Mark
		time int64
		want bool
	}{
		{zero, 0, false}, {zero, -1, true}, {zero, math.MinInt64, true}, {zero, math.MaxInt64, false},
		{five, 4, true}, {five, 5, true}, {five, 6, false}, {five, -1, true}, {five, math.MinInt64, true}, {five, math.MaxInt64, false},
		{last, api.MaxTime, true}, {last, api.MaxTime + 1, false},
	}
	for _, c := range cases {
		if got := c.m.Late(c.time); got != c.want {
			t.Errorf("%d at %d: got %v", c.time, c.m.At(), got)
		}
	}
	if zero.At() != -1 {
		t.Errorf("the zero one is at %d", zero.At())
	}
}

func TestLeast(t *testing.T) {
	zero, three, five := mark.Mark{}, to(t, 3), to(t, 5)
	cases := []struct {
		l    []mark.Mark
		want int64
	}{
		{nil, -1}, {[]mark.Mark{}, -1}, {[]mark.Mark{five}, 5}, {[]mark.Mark{five, three}, 3}, {[]mark.Mark{three, five}, 3},
		{[]mark.Mark{five, zero, three}, -1}, {[]mark.Mark{zero}, -1}, {[]mark.Mark{five, five, to(t, 0)}, 0},
		{[]mark.Mark{to(t, api.MaxTime), five}, 5},
	}
	for _, c := range cases {
		if got := mark.Least(c.l...); got.At() != c.want {
			t.Errorf("of %v: got %d", c.l, got.At())
		}
	}
}

// TestAlike holds that two marks are alike just if they are at the same, in whatever way they came there.
func TestAlike(t *testing.T) {
	again, _ := to(t, 3).To(5)
	if again != to(t, 5) || mark.Least(to(t, 7), again) != again || to(t, 3) == again || to(t, 0) == (mark.Mark{}) {
		t.Error("marks at the same are unlike, or others alike")
	}
	if m, _ := (mark.Mark{}).To(-1); m != mark.Least() || m != (mark.Mark{}) {
		t.Errorf("got %v", m)
	}
}
