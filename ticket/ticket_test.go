package ticket_test

import (
	"math"
	"slices"
	"testing"

	"lamplighter/api"
	"lamplighter/ticket"
)

// check holds all that is told of a lock: who has it, then who waits, and how often it was had.
func check(t *testing.T, l *ticket.Lock, times int, line ...int) {
	t.Helper()
	who, waiting := api.Nobody, line
	if len(line) > 0 {
		who, waiting = line[0], line[1:]
	}
	if l.Who() != who || l.Waiting() != len(waiting) || l.Times() != times {
		t.Errorf("got %d, %d waiting, %d times; want %v, %d", l.Who(), l.Waiting(), l.Times(), line, times)
	}
	for _, x := range []int{math.MinInt, -1, 0, 1, 2, 3, 9, math.MaxInt} {
		if got := l.Waits(x); got != slices.Contains(waiting, x) {
			t.Errorf("waits %d: got %v", x, got)
		}
	}
}

func ask(t *testing.T, l *ticket.Lock, who int, want api.Errno) {
	t.Helper()
	if got := l.Ask(who); got != want {
		t.Errorf("%d asks: got %d, want %d", who, got, want)
	}
}

func give(t *testing.T, l *ticket.Lock, who int, want api.Errno) {
	t.Helper()
	if got := l.Give(who); got != want {
		t.Errorf("%d gives: got %d, want %d", who, got, want)
	}
}

func TestExample(t *testing.T) {
	l := ticket.New()
	ask(t, l, 0, api.OK)
	ask(t, l, 1, api.ErrBlocked)
	give(t, l, 0, api.OK)
	check(t, l, 2, 1)
}

// TestInTheirOrder holds that those who wait get it as they came.
func TestInTheirOrder(t *testing.T) {
	l := ticket.New()
	check(t, l, 0)
	ask(t, l, 2, api.OK)
	check(t, l, 1, 2)
	ask(t, l, math.MaxInt, api.ErrBlocked)
	ask(t, l, 0, api.ErrBlocked)
	ask(t, l, 3, api.ErrBlocked)
	check(t, l, 1, 2, math.MaxInt, 0, 3)
	give(t, l, 2, api.OK)
	check(t, l, 2, math.MaxInt, 0, 3)
	ask(t, l, 2, api.ErrBlocked)
	check(t, l, 2, math.MaxInt, 0, 3, 2)
	give(t, l, math.MaxInt, api.OK)
	give(t, l, 0, api.OK)
	check(t, l, 4, 3, 2)
	give(t, l, 3, api.OK)
	give(t, l, 2, api.OK)
	check(t, l, 5)
	ask(t, l, 2, api.OK)
	check(t, l, 6, 2)
	give(t, l, 2, api.OK)
	check(t, l, 6)
}

// TestErrors holds that nothing changes with an error.
func TestErrors(t *testing.T) {
	l := ticket.New()
	for _, who := range []int{-1, -2, math.MinInt} {
		ask(t, l, who, api.ErrInput)
		give(t, l, who, api.ErrNone)
	}
	give(t, l, 0, api.ErrNone)
	check(t, l, 0)
	ask(t, l, 0, api.OK)
	ask(t, l, 0, api.ErrTwice)
	ask(t, l, 1, api.ErrBlocked)
	ask(t, l, 1, api.ErrTwice)
	ask(t, l, 0, api.ErrTwice)
	ask(t, l, -1, api.ErrInput)
	give(t, l, 1, api.ErrNone)
	give(t, l, 2, api.ErrNone)
	give(t, l, -1, api.ErrNone)
	check(t, l, 1, 0, 1)
	give(t, l, 0, api.OK)
	give(t, l, 0, api.ErrNone)
	check(t, l, 2, 1)
}

func TestOfNone(t *testing.T) {
	var none *ticket.Lock
	for _, who := range []int{-1, 0, 1} {
		ask(t, none, who, api.ErrInput)
		give(t, none, who, api.ErrNone)
	}
	check(t, none, 0)
	zero := &ticket.Lock{}
	check(t, zero, 0)
	give(t, zero, 0, api.ErrNone)
	ask(t, zero, 0, api.OK)
	check(t, zero, 1, 0)
}
