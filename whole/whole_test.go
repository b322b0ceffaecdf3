// Package whole holds what all layers together promise: T1 to T5 of the document.
package whole

import (
	"slices"
	"testing"

	"lamplighter/api"
	"lamplighter/audit"
	"lamplighter/count"
	"lamplighter/drill"
	"lamplighter/emit"
	"lamplighter/front"
	"lamplighter/hash"
	"lamplighter/hist"
	"lamplighter/judge"
	"lamplighter/machine"
	"lamplighter/sched"
	"lamplighter/system"
	"lamplighter/table"
	"lamplighter/truth"
)

// setting is a system that is drawn: its parts, queues' room, and clients' calls.
type setting struct {
	parts, room int
	scripts     [][]api.Call
	closed      bool
}

func draw(d *drill.Dice) setting {
	closed := d.Below(2) == 0
	return setting{1 + d.Below(5), 1 + d.Below(4), d.Scripts(1+d.Below(4), 4+d.Below(20), closed), closed}
}

func (x setting) system(t *testing.T) *system.System {
	t.Helper()
	y, e := system.New(drill.Schema(), x.parts, x.room, x.scripts)
	if e != api.OK {
		t.Fatalf("got %d", e)
	}
	return y
}

func (x setting) calls() int {
	count := 0
	for _, l := range x.scripts {
		count += len(l)
	}
	return count
}

// wishes draws some.
func wishes(d *drill.Dice, many int) []int {
	var l []int
	for range many {
		l = append(l, d.Below(1000))
	}
	return l
}

// TestOneBehindTheOther holds T1, T2 and T5 at every step, as the judge tells them, and as is told here.
func TestOneBehindTheOther(t *testing.T) {
	d := drill.New(1)
	for range 40 {
		x := draw(d)
		y := x.system(t)
		for next := y.Enabled(); len(next) > 0; next = y.Enabled() {
			y.Step(sched.Pick(next, d.Below(1000)))
			if bad := judge.Judge(drill.Schema(), x.scripts, y.Events(), y.Log(), y.Quiet()); bad != 0 {
				t.Fatalf("step %d: got %d", y.Steps(), bad)
			}
			if bad := audit.Check(y); bad != 0 {
				t.Fatalf("step %d: got %d", y.Steps(), bad)
			}
		}
		spans, _ := hist.Spans(y.Events())
		done := hist.Order(spans)
		m, counts, bad := judge.Replay(drill.Schema(), x.scripts, done)
		if bad != 0 || !hist.Respects(done) || !hist.Rising(hist.Tickets(done)) || counts[len(done)] != y.Counts() || m.Counts() != y.Counts() {
			t.Fatalf("got %d, %v, want %v", bad, y.Counts(), counts[len(done)])
		}
		if !emit.SameAll(m.Log(), y.Log()) || m.Mark() != y.Mark() || y.At() != y.Mark() || y.Ended() != x.closed {
			t.Fatalf("got %v, want %v", y.Log(), m.Log())
		}
	}
}

// taken is the events that were taken, and the queries, as calls were done.
func taken(m *front.Front, scripts [][]api.Call, done []api.Span) ([]api.Event, []api.Entry, int64) {
	var events []api.Event
	queries := table.New()
	mark := int64(-1)
	for _, x := range done {
		if x.Ret.Err == api.ErrFull {
			continue
		}
		switch msg, _ := m.Admit(scripts[x.Client][x.N]); msg.Kind {
		case api.MsgEvent:
			events = append(events, msg.E)
		case api.MsgRegister:
			queries.Register(msg.Id, msg.Q, msg.Ticket)
		case api.MsgUnregister:
			queries.Unregister(msg.Id, msg.Ticket)
		case api.MsgAdvance:
			mark = msg.T
		}
	}
	return events, queries.All(), mark
}

// matches is all that should be told of a query in a key's events up to a time, if no runs were lost; false: there are too many events to tell.
func matches(place int, q api.Entry, key string, events []api.Event, mark int64) ([]api.Out, bool) {
	var seen []api.Event
	for _, e := range events {
		if e.Key == key && e.Time <= mark && table.Sees(q, e.Seq) {
			seen = append(seen, e)
		}
	}
	if len(seen) > api.MaxTruth {
		return nil, false
	}
	var l []api.Out
	for _, pairs := range truth.All(drill.Schema(), q.Q, seen) {
		last := pairs[len(pairs)-1].Seq
		at := slices.IndexFunc(seen, func(e api.Event) bool { return e.Seq == last })
		l = append(l, api.Out{Kind: api.OutMatch, Query: q.Id, Place: place, Key: key, Time: seen[at].Time, Seq: last, Pairs: pairs})
	}
	return emit.Sort(l), true
}

// TestWhatIsTold holds T2 against what matches are: each that is told is one, none twice, in one order; and all are told of queries and keys of which no runs are lost.
func TestWhatIsTold(t *testing.T) {
	d := drill.New(2)
	all, lossy := 0, 0
	for range 1600 {
		x := draw(d)
		y := x.system(t)
		sched.Drive(y, d.Below(20), wishes(d, 50))
		spans, _ := hist.Spans(y.Events())
		events, queries, mark := taken(front.New(drill.Schema()), x.scripts, hist.Order(spans))
		log := y.Log()
		if !emit.Strict(log) {
			t.Fatalf("it does not rise: %v", log)
		}
		for place, q := range queries {
			for _, key := range []string{"k", "l", "m", "n"} {
				want, ok := matches(place, q, key, events, mark)
				if !ok {
					continue
				}
				got, lost := []api.Out{}, false
				for _, o := range log {
					if o.Place != place || o.Key != key {
						continue
					}
					if o.Kind == api.OutLost {
						lost = true
					} else {
						got = append(got, o)
					}
				}
				all += len(got)
				if lost {
					lossy++
				} else if !emit.SameAll(got, want) {
					t.Fatalf("%s of %s: got %v, want %v", q.Id, key, got, want)
				}
				for _, o := range got {
					if !slices.ContainsFunc(want, func(w api.Out) bool { return emit.Same(o, w) }) {
						t.Fatalf("%v is no match", o)
					}
				}
			}
		}
	}
	if all < 1000 || lossy < 10 {
		t.Errorf("only %d things were told; %d times runs were lost", all, lossy)
	}
}

// TestByWhateverParts holds that two ways with the same order of calls tell the same, as far as they went, whatever parts and room there are.
func TestByWhateverParts(t *testing.T) {
	d := drill.New(3)
	for range 100 {
		// One client's calls have one order; calls that would hang on room are made to wait.
		script := d.Scripts(1, 40, true)[0]
		for i, c := range script {
			if c.Kind == api.CallTry {
				script[i].Kind = api.CallPublish
			}
		}
		m := machine.New(drill.Schema())
		for _, c := range script {
			m.Do(c)
		}
		for range 4 {
			x := setting{1 + d.Below(api.MaxParts), 1 + d.Below(9), [][]api.Call{script}, true}
			y := x.system(t)
			sched.Run(y, wishes(d, d.Below(400)))
			if !emit.Begins(m.Log(), y.Log()) {
				t.Fatalf("%d parts: got %v, want %v", x.parts, y.Log(), m.Log())
			}
			sched.Drive(y, 0, nil)
			if !emit.SameAll(m.Log(), y.Log()) || !y.Ended() {
				t.Fatalf("%d parts: got %v, want %v", x.parts, y.Log(), m.Log())
			}
		}
	}
}

// TestItEnds holds T3: whoever does steps, so that nobody is left out.
func TestItEnds(t *testing.T) {
	d := drill.New(4)
	for range 200 {
		x := draw(d)
		y := x.system(t)
		steps, quiet := sched.Drive(y, d.Below(50), wishes(d, d.Below(30)))
		most := sched.Bound(x.calls(), x.parts, len(x.scripts), len(y.Log()))
		if !quiet || steps > most || y.Waiting() != 0 || y.Owner() != api.Nobody || y.Ended() != x.closed {
			t.Fatalf("%d steps of %d, %v, %v", steps, most, quiet, y.Ended())
		}
		for who, l := range x.scripts {
			if y.Busy(who) || y.Calls(who) != len(l) {
				t.Fatalf("client %d waits", who)
			}
		}
		// All that the machine tells is told.
		if bad := judge.Judge(drill.Schema(), x.scripts, y.Events(), y.Log(), true); bad != 0 {
			t.Fatalf("got %d", bad)
		}
	}
}

// TestRefused holds T4: what is refused leaves all as it was, but what is counted; and no room is found only where there is none.
func TestRefused(t *testing.T) {
	d := drill.New(5)
	refused, full := 0, 0
	for range 200 {
		x := draw(d)
		for _, l := range x.scripts {
			for i, c := range l {
				if c.Kind == api.CallPublish && d.Below(2) == 0 {
					l[i].Kind = api.CallTry
				}
			}
		}
		y := x.system(t)
		for next := y.Enabled(); len(next) > 0; next = y.Enabled() {
			events, mark, counts, kept := len(y.Events()), y.Mark(), y.Counts(), y.Kept()
			// Clients, who stand first, do more than parts: so queues fill.
			y.Step(next[d.Below(1+d.Below(len(next)))])
			l := y.Events()
			if len(l) == events || l[events].Kind != api.EvTurn || l[events].Ret.Err == api.OK {
				continue
			}
			e := l[events]
			refused++
			if y.Mark() != mark || y.Kept() != kept || !count.Below(counts, y.Counts()) {
				t.Fatalf("%v changed something", e)
			}
			if e.Ret.Err != api.ErrFull {
				continue
			}
			full++
			c := x.scripts[e.Client][e.N]
			if has, room, _ := y.Fill(hash.Part(c.E.Key, x.parts)); c.Kind != api.CallTry || has < room || y.Counts() != counts {
				t.Fatalf("%v: there is room: %d of %d", c, has, room)
			}
		}
	}
	if refused < 500 || full < 50 {
		t.Errorf("only %d were refused, %d found no room", refused, full)
	}
}

// TestBounds holds T5: no more than there may be, at any time, and the counts that are told.
func TestBounds(t *testing.T) {
	d := drill.New(6)
	told := 0
	for range 100 {
		x := draw(d)
		y := x.system(t)
		if steps, sum := audit.Steps(y, wishes(d, 20000)); sum != 0 || steps != y.Steps() || !y.Quiet() {
			t.Fatalf("got %d, %d", steps, sum)
		}
		last := map[int]count.Shard{}
		for _, e := range y.Events() {
			if e.Kind != api.EvReply || x.scripts[e.Client][e.N].Kind != api.CallStats {
				continue
			}
			told++
			if !count.Below(last[e.Client], e.Ret.N) || !count.Below(e.Ret.N, y.Counts()) {
				t.Fatalf("%v is less than %v, or more than %v", e.Ret.N, last[e.Client], y.Counts())
			}
			last[e.Client] = e.Ret.N
		}
	}
	if told < 100 {
		t.Errorf("only %d told what is counted", told)
	}
}
