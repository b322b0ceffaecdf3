package system_test

import (
	"strconv"
	"testing"

	"lamplighter/api"
	"lamplighter/emit"
	"lamplighter/machine"
	"lamplighter/sample"
)

// query draws a call that registers one.
func query(d *sample.Dice) api.Call {
	return register(d.Pick("p", "q"), "SEQ("+d.Pick("A", "(A|B)")+" a, "+d.Pick("A", "B")+" b"+d.Pick("", "{1,2}")+") WITHIN "+strconv.Itoa(1+d.Below(9))+d.Pick("", "", " CAP 1"))
}

// drawn draws a call, around a time.
func drawn(d *sample.Dice, time int64) api.Call {
	switch d.Below(8) {
	case 0:
		return advance(time + int64(d.Below(4)) - 2)
	case 1:
		return query(d)
	case 2:
		return api.Call{Kind: api.CallUnregister, Id: d.Pick("p", "q")}
	case 3:
		return stats()
	case 4:
		return try(d.Pick("A", "B"), d.Pick("k", "l", "m", "n"), time+int64(d.Below(9))-3)
	}
	return publish(d.Pick("A", "B"), d.Pick("k", "l", "m", "n", ""), time+int64(d.Below(9))-3)
}

// TestAsTheMachine holds that what is told at every step is what a machine tells first that does the calls in the order in which they were done, and in the end all of it.
func TestAsTheMachine(t *testing.T) {
	d := sample.Dice(1)
	things := 0
	for range 300 {
		scripts := make([][]api.Call, 1+d.Below(4))
		scripts[0] = []api.Call{query(&d)}
		for who := range scripts {
			for i := range int64(15) {
				scripts[who] = append(scripts[who], drawn(&d, i))
			}
		}
		closed := d.Below(2) == 0
		if closed {
			scripts[0] = append(scripts[0], advance(50), end())
		}
		x := of(t, 1+d.Below(4), 1+d.Below(3), scripts...)
		m := machine.New(sample.Schema())
		done := 0
		for l := x.Enabled(); len(l) > 0; l = x.Enabled() {
			if !x.Step(l[d.Below(len(l))]) || !x.Within() || x.At() > x.Mark() {
				t.Fatalf("%v", x.Enabled())
			}
			events := x.Events()
			for _, e := range events[done:] {
				if e.Kind == api.EvTurn && e.Ret.Err != api.ErrFull {
					if ret := m.Do(scripts[e.Client][e.N]); ret != e.Ret {
						t.Fatalf("got %v, want %v", e.Ret, ret)
					}
				}
			}
			done = len(events)
			if !emit.Begins(m.Log(), x.Log()) || m.Counts() != x.Counts() || m.Mark() != x.Mark() {
				t.Fatalf("got %v, %v, want %v, %v", x.Log(), x.Counts(), m.Log(), m.Counts())
			}
		}
		if !emit.SameAll(m.Log(), x.Log()) || x.At() != x.Mark() || x.Ended() != closed || x.Waiting() != 0 || x.Owner() != api.Nobody {
			t.Fatalf("got %v, want %v", x.Log(), m.Log())
		}
		for who, l := range scripts {
			if x.Calls(who) != len(l) || x.Busy(who) {
				t.Fatalf("client %d: got %d, want %d", who, x.Calls(who), len(l))
			}
		}
		things += len(x.Log())
	}
	if things < 500 {
		t.Errorf("only %d things were told", things)
	}
}
