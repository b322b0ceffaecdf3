package system

import (
	"slices"

	"lamplighter/api"
	"lamplighter/queue"
)

// Steps is how many steps were done; Events, what happened; Log, what was told; At, up to when all parts know all.
func (x *System) Steps() int { return x.own().steps }

func (x *System) Events() []api.Ev { return slices.Clone(x.own().shared.Events) }

func (x *System) Log() []api.Out { return x.own().sink.Log() }

func (x *System) At() int64 { return x.own().merger.At() }

// Counts is what was counted; Mark, up to when calls are refused as late.
func (x *System) Counts() [api.Counters]int64 { return x.own().shared.Counts.Sum() }

func (x *System) Mark() int64 { return x.own().shared.Front.Mark() }

// Parts is how many parts there are; Clients, how many clients.
func (x *System) Parts() int { return len(x.own().workers) }

func (x *System) Clients() int { return len(x.own().callers) }

// Fill is how many messages a part's queue has, how many there may be, and how many there were at most.
func (x *System) Fill(part int) (int, int, int) {
	if part < 0 || part >= x.Parts() {
		return 0, 0, 0
	}
	return fill(x.shared.Queues[part])
}

// Middle and Tail are so of the queue of what parts tell, and of what is told on.
func (x *System) Middle() (int, int, int) { return fill(x.own().batches) }

func (x *System) Tail() (int, int, int) { return fill(x.own().told) }

// Kept is how many events parts keep; Within, whether no part keeps too many runs, or events whose time has passed.
func (x *System) Kept() int {
	count := 0
	for _, w := range x.own().workers {
		count += w.Kept()
	}
	return count
}

func (x *System) Within() bool {
	for _, w := range x.own().workers {
		if !w.Within() {
			return false
		}
	}
	return true
}

// Waiting is how many clients wait for the lock; Owner, who has it.
func (x *System) Waiting() int { return x.own().shared.Lock.Waiting() }

func (x *System) Owner() int { return x.own().shared.Lock.Who() }

// Calls is how many calls a client has done; Busy, whether one is under way.
func (x *System) Calls(who int) int { return x.caller(who).Calls() }

func (x *System) Busy(who int) bool { return x.caller(who).Busy() }

// caller is a client; of one that there is not, none.
func (x *System) caller(who int) caller {
	if who < 0 || who >= x.Clients() {
		return caller{}
	}
	return x.callers[who]
}

// fill is how many things a queue has, how many there may be, and how many there were at most.
func fill[T any](q *queue.Queue[T]) (int, int, int) { return q.Len(), q.Room(), q.Most() }
