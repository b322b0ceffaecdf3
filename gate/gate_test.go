package gate_test

import (
	"math"
	"testing"

	"lamplighter/api"
	"lamplighter/gate"
)

// check holds how many are there, and whether all is done.
func check(t *testing.T, g *gate.Gate, many int, done bool) {
	t.Helper()
	if g.Len() != many || g.Done() != done {
		t.Errorf("got %d, %v, want %d, %v", g.Len(), g.Done(), many, done)
	}
}

func enter(t *testing.T, g *gate.Gate, who int, want api.Errno) {
	t.Helper()
	if got := g.Enter(who); got != want {
		t.Errorf("%d enters: got %d, want %d", who, got, want)
	}
}

func leave(t *testing.T, g *gate.Gate, who int, want api.Errno) {
	t.Helper()
	if got := g.Leave(who); got != want {
		t.Errorf("%d leaves: got %d, want %d", who, got, want)
	}
}

func TestExample(t *testing.T) {
	g := gate.New()
	enter(t, g, 1, api.OK)
	g.Close()
	check(t, g, 1, false)
	leave(t, g, 1, api.OK)
	check(t, g, 0, true)
}

func TestEnterAndLeave(t *testing.T) {
	g := gate.New()
	check(t, g, 0, false)
	for i, who := range []int{0, 5, math.MaxInt} {
		leave(t, g, who, api.ErrNone)
		enter(t, g, who, api.OK)
		enter(t, g, who, api.ErrTwice)
		check(t, g, i+1, false)
	}
	leave(t, g, 5, api.OK)
	leave(t, g, 5, api.ErrNone)
	check(t, g, 2, false)
	enter(t, g, 5, api.OK)
	check(t, g, 3, false)
	for _, who := range []int{5, 0, math.MaxInt} {
		leave(t, g, who, api.OK)
	}
	check(t, g, 0, false)
}

func TestClose(t *testing.T) {
	g := gate.New()
	enter(t, g, 1, api.OK)
	enter(t, g, 2, api.OK)
	g.Close()
	enter(t, g, 3, api.ErrClosed)
	enter(t, g, 1, api.ErrClosed)
	enter(t, g, -1, api.ErrInput)
	leave(t, g, 3, api.ErrNone)
	check(t, g, 2, false)
	leave(t, g, 1, api.OK)
	enter(t, g, 1, api.ErrClosed)
	g.Close()
	check(t, g, 1, false)
	leave(t, g, 2, api.OK)
	check(t, g, 0, true)
	leave(t, g, 2, api.ErrNone)
	enter(t, g, 2, api.ErrClosed)
	check(t, g, 0, true)
	empty := gate.New()
	empty.Close()
	check(t, empty, 0, true)
}

func TestBelowNought(t *testing.T) {
	g := gate.New()
	for _, who := range []int{-1, -2, math.MinInt} {
		enter(t, g, who, api.ErrInput)
		leave(t, g, who, api.ErrNone)
	}
	check(t, g, 0, false)
}

// TestOfNone holds that nobody gets into a gate that New did not give.
func TestOfNone(t *testing.T) {
	var none *gate.Gate
	for _, who := range []int{-1, 0, 1} {
		enter(t, none, who, api.ErrInput)
		leave(t, none, who, api.ErrNone)
	}
	none.Close()
	check(t, none, 0, true)
	zero := &gate.Gate{}
	enter(t, zero, 1, api.ErrInput)
	leave(t, zero, 1, api.ErrNone)
	check(t, zero, 0, false)
	zero.Close()
	enter(t, zero, 1, api.ErrInput)
	check(t, zero, 0, true)
}
