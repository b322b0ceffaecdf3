package judge_test

import (
	"math"
	"slices"
	"strconv"
	"testing"

	"lamplighter/api"
	"lamplighter/count"
	"lamplighter/emit"
	"lamplighter/hist"
	"lamplighter/judge"
	"lamplighter/sample"
	"lamplighter/sched"
	"lamplighter/system"
)

// The calls.
func publish(kind, key string, time int64) api.Call {
	return api.Call{Kind: api.CallPublish, E: sample.Event(kind, key, time, 0, 7)}
}

func try(kind, key string, time int64) api.Call {
	c := publish(kind, key, time)
	c.Kind = api.CallTry
	return c
}

func advance(time int64) api.Call { return api.Call{Kind: api.CallAdvance, T: time} }

func register(id, text string) api.Call {
	return api.Call{Kind: api.CallRegister, Id: id, Text: text}
}

func stats() api.Call { return api.Call{Kind: api.CallStats} }

func end() api.Call { return api.Call{Kind: api.CallClose} }

// What calls tell.
func number(ticket int64) api.Ret { return api.Ret{Ticket: ticket} }

func err(e api.Errno) api.Ret { return api.Ret{Err: e} }

func counted(n ...int64) api.Ret {
	var r api.Ret
	copy(r.N[:], n)
	return r
}

// What happened.
func begin(client, n int) api.Ev { return api.Ev{Kind: api.EvCall, Client: client, N: n} }

func turn(client, n int, ret api.Ret) api.Ev {
	return api.Ev{Kind: api.EvTurn, Client: client, N: n, Ret: ret}
}

func reply(client, n int, ret api.Ret) api.Ev {
	return api.Ev{Kind: api.EvReply, Client: client, N: n, Ret: ret}
}

// whole is a call that begins, is done and tells, with nothing between.
func whole(client, n int, ret api.Ret) []api.Ev {
	return []api.Ev{begin(client, n), turn(client, n, ret), reply(client, n, ret)}
}

// scripts is two clients' calls; log, what a machine tells that does the first one's.
func scripts() [][]api.Call {
	return [][]api.Call{
		{register("p", "SEQ(A a) WITHIN 5"), publish("A", "k", 3), publish("A", "k", 4), advance(4)},
		{try("A", "k", 2), stats(), stats(), advance(9)},
	}
}

func log() []api.Out {
	return []api.Out{
		{Kind: api.OutMatch, Query: "p", Key: "k", Time: 3, Seq: 2, Pairs: sample.Pairs(0, 2)},
		{Kind: api.OutMatch, Query: "p", Key: "k", Time: 4, Seq: 3, Pairs: sample.Pairs(0, 3)},
	}
}

// first is the history of the first client's calls, one behind the other.
func first() []api.Ev {
	return slices.Concat(whole(0, 0, number(1)), whole(0, 1, number(2)), whole(0, 2, number(3)), whole(0, 3, number(4)))
}

// judged holds what is wrong first.
func judged(t *testing.T, name string, h []api.Ev, log []api.Out, ended bool, want int) {
	t.Helper()
	if got := judge.Judge(sample.Schema(), scripts(), h, log, ended); got != want {
		t.Errorf("%s: got %d, want %d", name, got, want)
	}
}

func TestExample(t *testing.T) {
	for _, ended := range []bool{false, true} {
		judged(t, "of nothing", nil, nil, ended, 0)
		if got := judge.Judge(nil, nil, nil, nil, ended); got != 0 {
			t.Errorf("got %d", got)
		}
	}
}

func TestRight(t *testing.T) {
	judged(t, "all of it", first(), log(), true, 0)
	judged(t, "not told on yet", first(), log()[:1], false, 0)
	judged(t, "nothing told on yet", first(), nil, false, 0)
	judged(t, "not told yet", first()[:11], log(), true, 0)
	judged(t, "not done yet", first()[:10], nil, true, 0)
	judged(t, "not begun yet", first()[:9], nil, true, 0)
	judged(t, "a late one", append(first(), whole(1, 0, err(api.ErrLate))...), log(), true, 0)
	judged(t, "no room", append(first(), whole(1, 0, err(api.ErrFull))...), log(), true, 0)
	judged(t, "no room in between", slices.Concat(first()[:6], whole(1, 0, err(api.ErrFull)), first()[6:]), log(), true, 0)
}

func TestBadHistory(t *testing.T) {
	judged(t, "none", []api.Ev{{}}, nil, false, api.BadHistory)
	judged(t, "begun twice", append(first(), begin(0, 3)), log(), true, api.BadHistory)
	judged(t, "told twice", append(first(), reply(0, 3, number(4))), log(), true, api.BadHistory)
	judged(t, "tells another thing than was done", append(first()[:11], reply(0, 3, number(5))), log(), true, api.BadHistory)
	judged(t, "no such call", append(first(), whole(0, 4, number(5))...), log(), true, api.BadHistory)
	judged(t, "no such client", append(first(), whole(2, 0, number(5))...), log(), true, api.BadHistory)
	judged(t, "a client below 0", append(first(), whole(-1, 0, number(5))...), log(), true, api.BadHistory)
	judged(t, "a client far below 0", append(first(), whole(math.MinInt, 0, number(5))...), log(), true, api.BadHistory)
	judged(t, "no such call that found no room", append(first(), whole(0, 4, err(api.ErrFull))...), log(), true, api.BadHistory)
}

// TestOrder holds that the order in which calls are done is respected by whatever is a history: a call is done between its beginning and what it tells, so that none that told ahead of another one's beginning is done behind it.
func TestOrder(t *testing.T) {
	d := sample.Dice(3)
	for range 500 {
		var h []api.Ev
		for range 12 {
			h = append(h, api.Ev{Kind: 1 + d.Below(3), Client: d.Below(3), N: d.Below(2)})
			if _, ok := hist.Spans(h); !ok {
				h = h[:len(h)-1]
			}
		}
		if spans, ok := hist.Spans(h); !ok || !hist.Respects(hist.Order(spans)) {
			t.Fatalf("%v is not respected", h)
		}
	}
}

func TestBadTicket(t *testing.T) {
	judged(t, "from 2 on", whole(0, 0, number(2)), nil, false, api.BadTicket)
	judged(t, "one left out", append(first()[:9], whole(0, 3, number(5))...), nil, false, api.BadTicket)
	judged(t, "one twice", append(first()[:9], whole(0, 3, number(3))...), nil, false, api.BadTicket)
	judged(t, "of a call that there is not", append(first(), whole(9, 0, number(9))...), nil, false, api.BadTicket)
	judged(t, "of one that found no room", whole(0, 0, api.Ret{Err: api.ErrFull, Ticket: 2}), nil, false, api.BadTicket)
	// The order is that in which calls are done, not that in which they begin or tell.
	h := []api.Ev{begin(1, 0), begin(0, 0), turn(0, 0, number(1)), turn(1, 0, number(2)), reply(1, 0, number(2)), reply(0, 0, number(1))}
	judged(t, "in another order", h, nil, false, 0)
	h[2], h[3] = h[3], h[2]
	judged(t, "as they begin", h, nil, false, api.BadTicket)
}

func TestBadRet(t *testing.T) {
	judged(t, "an error where there is none", whole(0, 0, err(api.ErrTwice)), nil, false, api.BadRet)
	judged(t, "no number", whole(0, 0, api.Ret{}), nil, false, api.BadRet)
	judged(t, "a number below 0", whole(0, 0, number(-1)), nil, false, api.BadRet)
	judged(t, "a count", whole(0, 0, api.Ret{Ticket: 1, N: counted(1).N}), nil, false, api.BadRet)
	judged(t, "an error beside a number", whole(0, 0, api.Ret{Ticket: 1, Err: api.ErrForm}), nil, false, api.BadRet)
	judged(t, "a number where there is an error", append(first(), whole(1, 0, number(5))...), log(), false, api.BadRet)
	judged(t, "another error", append(first(), whole(1, 0, err(api.ErrOrder))...), log(), false, api.BadRet)
	judged(t, "not told yet", append(first(), begin(1, 0), turn(1, 0, number(5))), log(), false, api.BadRet)
	judged(t, "a count beside no room", append(first(), whole(1, 0, api.Ret{Err: api.ErrFull, N: counted(1).N})...), log(), false, api.BadRet)
	judged(t, "a number beside no room", append(first(), whole(1, 0, api.Ret{Err: api.ErrFull, Ticket: 5})...), log(), false, api.BadRet)
}

func TestBadFull(t *testing.T) {
	for n := range 4 {
		judged(t, "a call that waits", append(first()[:3*n], whole(0, n, err(api.ErrFull))...), nil, false, api.BadFull)
	}
	l := [][]api.Call{{stats(), end(), {}, {Kind: api.CallUnregister, Id: "p"}, {Kind: 99}}}
	for n := range 5 {
		var h []api.Ev
		for i := range n {
			h = append(h, begin(0, i), reply(0, i, api.Ret{}))
		}
		if got := judge.Judge(nil, l, append(h, whole(0, n, err(api.ErrFull))...), nil, false); got != api.BadFull {
			t.Errorf("%d: got %d", n, got)
		}
	}
}

func TestBadStats(t *testing.T) {
	from, behind := slices.Concat(first()[:6], whole(1, 0, err(api.ErrFull))), first()[6:]
	// Ahead of it a query and an event were taken; while it reads, another event and an advance are.
	during := func(ret api.Ret) []api.Ev {
		return slices.Concat(from, []api.Ev{begin(1, 1)}, behind, []api.Ev{reply(1, 1, ret)})
	}
	for _, n := range [][]int64{{1, 0, 0, 0, 1}, {2, 0, 0, 0, 1}, {1, 0, 0, 1, 1}, {2, 0, 0, 1, 1}} {
		judged(t, "between", during(counted(n...)), log(), true, 0)
	}
	for _, n := range [][]int64{{}, {0, 0, 0, 0, 1}, {2, 0, 0, 1, 0}, {3, 0, 0, 1, 1}, {2, 0, 0, 2, 1}, {2, 1, 0, 1, 1}, {2, 0, 1, 1, 1}, {2, 0, 0, 1, 2}, {2, 0, 0, 1, 1, 1}, {1, 0, 0, 0, 1, -1}} {
		judged(t, "beyond", during(counted(n...)), log(), true, api.BadStats)
	}
	// What was done when it began, and what was not when it told, counts from the turn on.
	h := slices.Concat(from, []api.Ev{begin(0, 2), turn(0, 2, number(3)), begin(1, 1), reply(1, 1, counted(1, 0, 0, 0, 1))})
	judged(t, "less than what was done, and not told", h, nil, false, api.BadStats)
	h = slices.Concat(from, []api.Ev{begin(0, 2), begin(1, 1), reply(1, 1, counted(2, 0, 0, 0, 1)), turn(0, 2, number(3))})
	judged(t, "more than what was begun, and not done", h, nil, false, api.BadStats)
	h = slices.Concat(from, []api.Ev{begin(0, 2), begin(1, 1), turn(0, 2, number(3)), reply(1, 1, counted(2, 0, 0, 0, 1))})
	judged(t, "what was done ahead of its end", h, nil, false, 0)
	// No less than was told to its client.
	h = slices.Concat(from, []api.Ev{begin(1, 1)}, first()[6:8], []api.Ev{reply(1, 1, counted(2, 0, 0, 0, 1)), begin(1, 2), reply(1, 2, counted(1, 0, 0, 0, 1))})
	judged(t, "less than to its client", h, nil, false, api.BadStats)
	judged(t, "less than to its client, one ahead", h[:len(h)-1], nil, false, 0)
	h = slices.Concat(from, []api.Ev{begin(1, 1)}, first()[6:8], []api.Ev{reply(1, 1, counted(1, 0, 0, 0, 1)), begin(1, 2), reply(1, 2, counted(1, 0, 0, 0, 1))})
	judged(t, "less than was counted", h, nil, false, api.BadStats)
	// What has not told yet is not asked.
	judged(t, "under way", append(from, begin(1, 1)), nil, false, 0)
	// What tells of a late event, and what is not counted.
	h = slices.Concat(first(), whole(1, 0, err(api.ErrLate)), []api.Ev{begin(1, 1), reply(1, 1, counted(2, 1, 0, 1, 1))})
	judged(t, "a late one", h, log(), true, 0)
}

// TestLessThanToItsClient holds what can't be told by what was done ahead: two that read while much is done.
func TestLessThanToItsClient(t *testing.T) {
	l := [][]api.Call{{publish("A", "k", 1), publish("A", "k", 2)}, {stats(), stats()}, {stats(), stats()}}
	h := func(a, b, c, d int64) []api.Ev {
		return slices.Concat([]api.Ev{begin(1, 0), begin(2, 0), begin(0, 0), turn(0, 0, number(1)), reply(1, 0, counted(a)), begin(1, 1)},
			[]api.Ev{reply(0, 0, number(1)), begin(0, 1), turn(0, 1, number(2)), reply(2, 0, counted(b)), begin(2, 1), reply(1, 1, counted(c)), reply(2, 1, counted(d))})
	}
	for _, c := range []struct {
		a, b, c, d int64
		want       int
	}{{0, 0, 1, 2, 0}, {1, 2, 2, 2, 0}, {1, 0, 1, 2, 0}, {0, 1, 0, 2, api.BadStats}, {2, 1, 2, 2, api.BadStats}, {0, 3, 2, 3, api.BadStats}, {0, 1, 2, 1, api.BadStats}, {1, 1, 0, 2, api.BadStats}} {
		if got := judge.Judge(sample.Schema(), l, h(c.a, c.b, c.c, c.d), nil, false); got != c.want {
			t.Errorf("%v: got %d", c, got)
		}
	}
}

func TestBadLogAndEnd(t *testing.T) {
	judged(t, "in another order", first(), []api.Out{log()[1], log()[0]}, false, api.BadLog)
	judged(t, "one left out", first(), log()[1:], false, api.BadLog)
	judged(t, "twice", first(), append(log()[:1], log()[0]), false, api.BadLog)
	judged(t, "more", first(), append(log(), log()[1]), false, api.BadLog)
	judged(t, "of nothing", nil, log()[:1], false, api.BadLog)
	judged(t, "ahead of the advance", first()[:10], log()[:1], false, api.BadLog)
	other := log()
	other[1].Pairs[0].Seq = 2
	judged(t, "other pairs", first(), other, true, api.BadLog)
	judged(t, "one is not told", first(), log()[:1], true, api.BadEnd)
	judged(t, "nothing is told", first(), nil, true, api.BadEnd)
	judged(t, "a wrong one, and not all", first(), log()[1:], true, api.BadLog)
}

// TestFirst holds that of several things that are wrong the first one is told.
func TestFirst(t *testing.T) {
	wrong := []api.Out{{}}
	full := slices.Concat(first(), whole(1, 0, err(api.ErrFull)))
	badStats := []api.Ev{begin(1, 1), reply(1, 1, counted(9))}
	judged(t, "stats ahead of log", append(full, badStats...), wrong, true, api.BadStats)
	judged(t, "ret ahead of stats", slices.Concat(first(), whole(1, 0, err(api.ErrNone)), badStats), wrong, true, api.BadRet)
	judged(t, "the call that is first", slices.Concat(whole(0, 0, err(api.ErrFull)), whole(1, 0, err(api.ErrNone))), wrong, true, api.BadFull)
	judged(t, "the call that is first", slices.Concat(whole(1, 0, err(api.ErrNone)), whole(0, 0, err(api.ErrFull))), wrong, true, api.BadRet)
	judged(t, "ticket ahead of ret", slices.Concat(whole(1, 0, err(api.ErrNone)), whole(0, 0, number(2))), wrong, true, api.BadTicket)
	judged(t, "history ahead of ticket", slices.Concat(whole(0, 0, number(2)), []api.Ev{{}}), wrong, true, api.BadHistory)
}

func TestReplay(t *testing.T) {
	s := sample.Schema()
	l := []api.Span{{Ret: number(1)}, {N: 1, Ret: number(2)}, {Client: 1, Ret: err(api.ErrFull)}, {N: 2, Ret: number(3)}, {N: 3, Ret: number(4)}, {Client: 1, N: 1, Ret: counted(2, 0, 0, 1, 1)}}
	m, counts, bad := judge.Replay(s, scripts(), l)
	want := []count.Shard{{}, {4: 1}, {0: 1, 4: 1}, {0: 1, 4: 1}, {0: 2, 4: 1}, {0: 2, 3: 1, 4: 1}, {0: 2, 3: 1, 4: 1}}
	if bad != 0 || !slices.Equal(counts, want) || !emit.SameAll(m.Log(), log()) || m.Mark() != 4 {
		t.Errorf("got %d, %v, %v", bad, counts, m.Log())
	}
	m, counts, bad = judge.Replay(s, nil, nil)
	if bad != 0 || !slices.Equal(counts, []count.Shard{{}}) || len(m.Log()) != 0 {
		t.Errorf("got %d, %v", bad, counts)
	}
	for want, x := range map[int][]api.Span{
		api.BadHistory: {l[0], {Client: 0, N: 4, Ret: number(2)}},
		api.BadFull:    {l[0], {N: 1, Ret: err(api.ErrFull)}},
		api.BadRet:     {l[0], {N: 1, Ret: number(3)}},
	} {
		if m, counts, bad := judge.Replay(s, scripts(), x); m != nil || counts != nil || bad != want {
			t.Errorf("got %v, %d, want %d", counts, bad, want)
		}
	}
	for _, x := range []api.Span{{Client: -1}, {Client: 2}, {Client: math.MaxInt}, {Client: math.MinInt}, {N: -1}, {N: 4}, {N: math.MinInt}, {N: math.MaxInt}} {
		if _, _, bad := judge.Replay(s, scripts(), []api.Span{x}); bad != api.BadHistory {
			t.Errorf("%v: got %d", x, bad)
		}
	}
}

// drawn draws a call, around a time.
func drawn(d *sample.Dice, time int64) api.Call {
	switch d.Below(7) {
	case 0:
		return advance(time + int64(d.Below(4)) - 2)
	case 1:
		return register(d.Pick("p", "q"), "SEQ("+d.Pick("A", "(A|B)")+" a, "+d.Pick("A", "B")+" b) WITHIN "+strconv.Itoa(1+d.Below(9)))
	case 2, 3:
		return stats()
	case 4:
		return try(d.Pick("A", "B"), d.Pick("k", "l"), time+int64(d.Below(9))-3)
	}
	return publish(d.Pick("A", "B"), d.Pick("k", "l", ""), time+int64(d.Below(9))-3)
}

// TestSystems holds that nothing is wrong with what systems do, at any time; and that something is, where what a call told is changed.
func TestSystems(t *testing.T) {
	d := sample.Dice(1)
	bad := map[int]int{}
	for range 60 {
		l := make([][]api.Call, 1+d.Below(4))
		for who := range l {
			for i := range int64(10) {
				l[who] = append(l[who], drawn(&d, i))
			}
		}
		x, _ := system.New(sample.Schema(), 1+d.Below(3), 1+d.Below(2), l)
		for !x.Quiet() {
			sched.Run(x, []int{d.Below(99), d.Below(99), d.Below(99)})
			if got := judge.Judge(sample.Schema(), l, x.Events(), x.Log(), x.Quiet()); got != 0 {
				t.Fatalf("got %d: %v", got, x.Events())
			}
		}
		h := x.Events()
		for range 20 {
			changed := slices.Clone(h)
			at := d.Below(len(h))
			switch d.Below(4) {
			case 0:
				changed = slices.Delete(changed, at, at+1)
			case 1:
				changed[at], changed[0] = changed[0], changed[at]
			default:
				more := d.Below(2)
				for i, e := range changed {
					if e.Client == h[at].Client && e.N == h[at].N && e.Kind != api.EvCall {
						changed[i].Ret.Ticket += int64(more)
						changed[i].Ret.Err += api.Errno(1 - more)
					}
				}
			}
			bad[judge.Judge(sample.Schema(), l, changed, x.Log(), true)]++
		}
	}
	for _, one := range []int{api.BadHistory, api.BadTicket, api.BadRet} {
		if bad[one] < 10 {
			t.Errorf("%d was found %d times only: %v", one, bad[one], bad)
		}
	}
}

func TestIsTheCallers(t *testing.T) {
	h, l, things := first(), scripts(), log()
	m, counts, _ := judge.Replay(sample.Schema(), l, hist.Order([]api.Span{{Ret: number(1)}}))
	judge.Judge(sample.Schema(), l, h, things, true)
	if !slices.Equal(h, first()) || !emit.SameAll(things, log()) || l[0][1].E.Vals[0] != scripts()[0][1].E.Vals[0] {
		t.Error("what was handed in was changed")
	}
	counts[1][4] = 77
	if m.Counts()[4] != 1 {
		t.Errorf("got %v", m.Counts())
	}
}
