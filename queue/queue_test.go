package queue_test

import (
	"math"
	"slices"
	"testing"

	"lamplighter/api"
	"lamplighter/queue"
	"lamplighter/sample"
)

// state is all that is told of a queue.
type state struct {
	len, room, most  int
	canPut, canTake  bool
	closed, done     bool
	put, taken, full int
}

func told[T any](q *queue.Queue[T]) state {
	put, taken, full := q.Counts()
	return state{q.Len(), q.Room(), q.Most(), q.CanPut(), q.CanTake(), q.Closed(), q.Done(), put, taken, full}
}

func check[T any](t *testing.T, q *queue.Queue[T], want state) {
	t.Helper()
	if got := told(q); got != want {
		t.Errorf("got %+v, want %+v", got, want)
	}
}

func put(t *testing.T, q *queue.Queue[string], x string, want api.Errno) {
	t.Helper()
	if got := q.Put(x); got != want {
		t.Errorf("put %s: got %d, want %d", x, got, want)
	}
}

func take(t *testing.T, q *queue.Queue[string], want string, e api.Errno) {
	t.Helper()
	if got, err := q.Take(); got != want || err != e {
		t.Errorf("got %s, %d, want %s, %d", got, err, want, e)
	}
}

func TestExample(t *testing.T) {
	q := queue.New[string](1)
	put(t, q, "a", api.OK)
	put(t, q, "b", api.ErrFull)
}

func TestPutAndTake(t *testing.T) {
	q := queue.New[string](2)
	check(t, q, state{room: 2, canPut: true})
	take(t, q, "", api.ErrBlocked)
	put(t, q, "a", api.OK)
	check(t, q, state{len: 1, room: 2, most: 1, canPut: true, canTake: true, put: 1})
	put(t, q, "b", api.OK)
	check(t, q, state{len: 2, room: 2, most: 2, canTake: true, put: 2})
	put(t, q, "c", api.ErrFull)
	put(t, q, "d", api.ErrFull)
	check(t, q, state{len: 2, room: 2, most: 2, canTake: true, put: 2, full: 2})
	take(t, q, "a", api.OK)
	check(t, q, state{len: 1, room: 2, most: 2, canPut: true, canTake: true, put: 2, taken: 1, full: 2})
	put(t, q, "e", api.OK)
	take(t, q, "b", api.OK)
	take(t, q, "e", api.OK)
	take(t, q, "", api.ErrBlocked)
	take(t, q, "", api.ErrBlocked)
	check(t, q, state{room: 2, most: 2, canPut: true, put: 3, taken: 3, full: 2})
}

// TestClose holds that what is there can be taken, but nothing put any more, whether there is room or not.
func TestClose(t *testing.T) {
	q := queue.New[string](2)
	put(t, q, "a", api.OK)
	put(t, q, "b", api.OK)
	put(t, q, "c", api.ErrFull)
	q.Close()
	check(t, q, state{len: 2, room: 2, most: 2, canTake: true, closed: true, put: 2, full: 1})
	put(t, q, "d", api.ErrClosed)
	take(t, q, "a", api.OK)
	put(t, q, "e", api.ErrClosed)
	q.Close()
	check(t, q, state{len: 1, room: 2, most: 2, canTake: true, closed: true, put: 2, taken: 1, full: 1})
	take(t, q, "b", api.OK)
	check(t, q, state{room: 2, most: 2, closed: true, done: true, put: 2, taken: 2, full: 1})
	take(t, q, "", api.ErrClosed)
	put(t, q, "f", api.ErrClosed)
	check(t, q, state{room: 2, most: 2, closed: true, done: true, put: 2, taken: 2, full: 1})
	empty := queue.New[string](1)
	empty.Close()
	take(t, empty, "", api.ErrClosed)
	check(t, empty, state{room: 1, closed: true, done: true})
}

func TestRoom(t *testing.T) {
	for room, want := range map[int]int{
		math.MinInt: 1, -1: 1, 0: 1, 1: 1, 2: 2, 7: 7, api.MaxRoom: api.MaxRoom, api.MaxRoom + 1: api.MaxRoom, math.MaxInt: api.MaxRoom,
	} {
		q := queue.New[int](room)
		for i := range want {
			if e := q.Put(i); e != api.OK {
				t.Fatalf("room %d: there is none at %d: %d", room, i, e)
			}
		}
		if e := q.Put(want); e != api.ErrFull || q.Room() != want || q.Len() != want || q.Most() != want {
			t.Errorf("room %d: got %d, %d, %d, %d", room, e, q.Room(), q.Len(), q.Most())
		}
		for i := range want {
			if x, e := q.Take(); x != i || e != api.OK {
				t.Fatalf("room %d: got %d, %d at %d", room, x, e, i)
			}
		}
	}
}

// TestAnyType holds that a queue is of any type.
func TestAnyType(t *testing.T) {
	l := queue.New[[]int](3)
	l.Put([]int{1, 2})
	l.Put(nil)
	if x, e := l.Take(); !slices.Equal(x, []int{1, 2}) || e != api.OK {
		t.Errorf("got %v, %d", x, e)
	}
	if x, e := l.Take(); x != nil || e != api.OK {
		t.Errorf("got %v, %d", x, e)
	}
	f := queue.New[func() int](1)
	f.Put(func() int { return 7 })
	if x, e := f.Take(); e != api.OK || x() != 7 {
		t.Errorf("got %d", e)
	}
	if x, e := f.Take(); e != api.ErrBlocked || x != nil {
		t.Errorf("got %d", e)
	}
}

// TestDrawn holds a queue against a list, whatever is put and taken.
func TestDrawn(t *testing.T) {
	d := sample.Dice(1)
	for room := 1; room < 5; room++ {
		q, want := queue.New[int](room), state{room: room, canPut: true}
		var l []int
		for i := range 500 {
			if d.Below(2) == 0 {
				e := q.Put(i)
				if (e == api.OK) != want.canPut {
					t.Fatalf("put: got %d", e)
				}
				if want.canPut {
					l = append(l, i)
					want.put++
				} else {
					want.full++
				}
			} else if x, e := q.Take(); (e == api.OK) != want.canTake || want.canTake && x != l[0] {
				t.Fatalf("take: got %d, %d", x, e)
			} else if want.canTake {
				l = l[1:]
				want.taken++
			}
			want.len, want.most, want.canPut, want.canTake = len(l), max(want.most, len(l)), len(l) < room, len(l) > 0
			check(t, q, want)
		}
	}
}

func TestOfNone(t *testing.T) {
	var none *queue.Queue[string]
	put(t, none, "a", api.ErrClosed)
	take(t, none, "", api.ErrClosed)
	none.Close()
	check(t, none, state{closed: true, done: true})
	zero := &queue.Queue[string]{}
	take(t, zero, "", api.ErrBlocked)
	put(t, zero, "a", api.ErrFull)
	check(t, zero, state{full: 1})
	zero.Close()
	check(t, zero, state{closed: true, done: true, full: 1})
}
