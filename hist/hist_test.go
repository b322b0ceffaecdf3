package hist_test

import (
	"math"
	"slices"
	"testing"

	"lamplighter/api"
	"lamplighter/hist"
	"lamplighter/sample"
)

// What happened; a Ret is told by its number.
func call(client, n int) api.Ev { return api.Ev{Kind: api.EvCall, Client: client, N: n} }

func turn(client, n int, ticket int64) api.Ev {
	return api.Ev{Kind: api.EvTurn, Client: client, N: n, Ret: api.Ret{Ticket: ticket}}
}

func reply(client, n int, ticket int64) api.Ev {
	return api.Ev{Kind: api.EvReply, Client: client, N: n, Ret: api.Ret{Ticket: ticket}}
}

// span is a call that begins, is done and tells at such places.
func span(client, n, call, turn, reply int, ticket int64) api.Span {
	return api.Span{Client: client, N: n, Call: call, Turn: turn, Reply: reply, Ret: api.Ret{Ticket: ticket}}
}

// spans holds the calls of a history.
func spans(t *testing.T, h []api.Ev, want ...api.Span) {
	t.Helper()
	if got, ok := hist.Spans(h); !ok || !slices.Equal(got, want) {
		t.Errorf("got %v, %v, want %v", got, ok, want)
	}
}

func TestExample(t *testing.T) {
	spans(t, []api.Ev{call(0, 0), turn(0, 0, 5), reply(0, 0, 5)}, span(0, 0, 0, 1, 2, 5))
}

func TestSpans(t *testing.T) {
	spans(t, nil)
	spans(t, []api.Ev{})
	spans(t, []api.Ev{call(3, 0)}, span(3, 0, 0, -1, -1, 0))
	// What is done, and not told yet, has what will be told.
	spans(t, []api.Ev{call(3, 0), turn(3, 0, 7)}, span(3, 0, 0, 1, -1, 7))
	// What tells need not have been done.
	spans(t, []api.Ev{call(3, 0), reply(3, 0, 7)}, span(3, 0, 0, -1, 1, 7))
	spans(t, []api.Ev{
		call(1, 0), call(0, 0), turn(0, 0, 1), turn(1, 0, 2), reply(1, 0, 2), call(1, 1), call(5, 0), reply(1, 1, 0), reply(0, 0, 1), turn(5, 0, 3),
	},
		span(1, 0, 0, 3, 4, 2), span(0, 0, 1, 2, 8, 1), span(1, 1, 5, -1, 7, 0), span(5, 0, 6, 9, -1, 3))
	// What a beginning tells does not count.
	e := call(0, 0)
	e.Ret.Ticket = 77
	spans(t, []api.Ev{e}, span(0, 0, 0, -1, -1, 0))
}

func TestNoHistory(t *testing.T) {
	other := reply(0, 0, 5)
	other.Ret.N[3] = 1
	wrong := reply(0, 0, 5)
	wrong.Ret.Err = api.ErrLate
	for name, h := range map[string][]api.Ev{
		"a kind that there is not":     {{Kind: 0}},
		"one behind the last kind":     {call(0, 0), {Kind: 4}},
		"one far behind":               {call(0, 0), {Kind: math.MaxInt}},
		"one below 0":                  {call(0, 0), {Kind: -1}},
		"begins twice":                 {call(0, 0), call(0, 0)},
		"begins again":                 {call(0, 0), turn(0, 0, 5), reply(0, 0, 5), call(0, 0)},
		"below 0":                      {call(0, -1)},
		"far below 0":                  {call(0, math.MinInt)},
		"not with 0":                   {call(0, 1)},
		"ahead of its beginning":       {call(0, 1), call(0, 0)},
		"ahead of its end":             {call(0, 0), call(0, 1)},
		"ahead of its end, but done":   {call(0, 0), turn(0, 0, 5), call(0, 1)},
		"another client's end":         {call(0, 0), call(1, 0), reply(1, 0, 5), call(0, 1)},
		"one left out":                 {call(0, 0), reply(0, 0, 5), call(0, 2)},
		"done without having begun":    {turn(0, 0, 5)},
		"another one has begun":        {call(0, 0), turn(1, 0, 5)},
		"the one ahead has begun":      {call(0, 0), turn(0, 1, 5)},
		"done twice":                   {call(0, 0), turn(0, 0, 5), turn(0, 0, 5)},
		"done behind having told":      {call(0, 0), reply(0, 0, 5), turn(0, 0, 5)},
		"done again":                   {call(0, 0), turn(0, 0, 5), reply(0, 0, 5), turn(0, 0, 5)},
		"tells without having begun":   {reply(0, 0, 5)},
		"tells for another":            {call(0, 0), reply(0, 1, 5)},
		"tells twice":                  {call(0, 0), reply(0, 0, 5), reply(0, 0, 5)},
		"tells twice what was done":    {call(0, 0), turn(0, 0, 5), reply(0, 0, 5), reply(0, 0, 5)},
		"tells another number":         {call(0, 0), turn(0, 0, 5), reply(0, 0, 6)},
		"tells another count":          {call(0, 0), turn(0, 0, 5), other},
		"tells an error":               {call(0, 0), turn(0, 0, 5), wrong},
		"wrong behind much that isn't": {call(0, 0), call(1, 0), turn(1, 0, 1), reply(1, 0, 1), turn(0, 0, 2), reply(0, 0, 2), call(1, 0)},
	} {
		if got, ok := hist.Spans(h); ok || got != nil {
			t.Errorf("%s: got %v, %v", name, got, ok)
		}
	}
}

func TestOrder(t *testing.T) {
	l := []api.Span{span(0, 0, 0, 5, 9, 3), span(1, 0, 1, -1, 2, 0), span(2, 0, 2, 3, -1, 2), span(3, 0, 3, -1, -1, 0), span(4, 0, 4, 0, 8, 1)}
	was := slices.Clone(l)
	if got := hist.Order(l); !slices.Equal(got, []api.Span{l[4], l[2], l[0]}) || !slices.Equal(l, was) {
		t.Errorf("got %v", got)
	}
	if len(hist.Order(nil)) != 0 || len(hist.Order(l[1:2])) != 0 {
		t.Error("what was not done is in order")
	}
	// Alike ones in theirs.
	alike := []api.Span{span(2, 0, 0, 5, 9, 3), span(1, 0, 1, 5, 2, 0), span(3, 0, 1, 5, 2, 0)}
	if got := hist.Order(alike); !slices.Equal(got, alike) {
		t.Errorf("got %v", got)
	}
	hist.Order(alike)[0].Client = 77
	if alike[0].Client != 2 {
		t.Error("what was handed in was changed")
	}
}

func TestAhead(t *testing.T) {
	for _, c := range []struct {
		reply, call int
		want        bool
	}{{3, 4, true}, {4, 4, false}, {5, 4, false}, {-1, 4, false}, {-1, 0, false}, {0, 1, true}, {0, -1, false}, {-1, -1, false}, {0, 0, false}} {
		a, b := span(0, 0, 0, 2, c.reply, 1), span(1, 0, c.call, 7, 8, 2)
		if got := hist.Ahead(a, b); got != c.want {
			t.Errorf("%d, %d: got %v", c.reply, c.call, got)
		}
	}
}

func TestRespects(t *testing.T) {
	a, b, c := span(0, 0, 0, 1, 2, 1), span(1, 0, 3, 4, 5, 2), span(2, 0, 1, 6, -1, 3)
	for _, l := range [][]api.Span{nil, {a}, {a, b}, {a, b, c}, {c, a, b}, {a, c, b}} {
		if !hist.Respects(l) {
			t.Errorf("%v: got false", l)
		}
	}
	for _, l := range [][]api.Span{{b, a}, {b, c, a}, {c, b, a}, {b, a, c}} {
		if hist.Respects(l) {
			t.Errorf("%v: got true", l)
		}
	}
	// It is of a call and those behind it: none is held against itself.
	if odd := span(0, 0, 9, 1, 2, 1); !hist.Respects([]api.Span{odd}) || hist.Respects([]api.Span{odd, a}) {
		t.Error("a call is held against itself")
	}
}

// TestRespectsDrawn holds it against what is told of it, two by two.
func TestRespectsDrawn(t *testing.T) {
	d := sample.Dice(1)
	counts := map[bool]int{}
	for range 2000 {
		var l []api.Span
		for i := range d.Below(6) {
			l = append(l, span(i, 0, d.Below(6), i, d.Below(9)-1, 0))
		}
		want := true
		for i, x := range l {
			for _, later := range l[i+1:] {
				want = want && !hist.Ahead(later, x)
			}
		}
		counts[want]++
		if got := hist.Respects(l); got != want {
			t.Fatalf("%v: got %v", l, got)
		}
	}
	if counts[true] < 100 || counts[false] < 100 {
		t.Errorf("got %v", counts)
	}
}

func TestTickets(t *testing.T) {
	l := []api.Span{span(0, 0, 0, 1, 2, 3), span(0, 0, 0, 1, 2, 0), span(0, 0, 0, 1, 2, -4), span(0, 0, 0, 1, 2, 1), span(0, 0, -1, -1, -1, 3)}
	if got := hist.Tickets(l); !slices.Equal(got, []int64{3, 1, 3}) {
		t.Errorf("got %v", got)
	}
	if len(hist.Tickets(nil)) != 0 {
		t.Error("nothing has a number")
	}
}

func TestRising(t *testing.T) {
	for _, l := range [][]int64{nil, {}, {1}, {1, 2}, {1, 2, 3, 4, 5}} {
		if !hist.Rising(l) {
			t.Errorf("%v: got false", l)
		}
	}
	for _, l := range [][]int64{{0}, {2}, {-1}, {1, 1}, {1, 3}, {2, 1}, {1, 2, 3, 5}, {1, 2, math.MaxInt64}, {0, 1}, {2, 3}} {
		if hist.Rising(l) {
			t.Errorf("%v: got true", l)
		}
	}
}

// TestDrawn holds that histories that could be come back as the calls that they are of.
func TestDrawn(t *testing.T) {
	d := sample.Dice(2)
	for range 200 {
		type state struct{ at, n int }
		clients := make([]state, 1+d.Below(4))
		var h []api.Ev
		var want []api.Span
		for at := range 60 {
			who := d.Below(len(clients))
			c := &clients[who]
			mine := slices.IndexFunc(want, func(x api.Span) bool { return x.Client == who && x.N == c.n })
			ticket := int64(100*who + c.n)
			switch {
			case c.at == 0:
				h = append(h, call(who, c.n))
				want = append(want, span(who, c.n, at, -1, -1, 0))
				c.at = 1
			case c.at == 1 && d.Below(3) > 0:
				h = append(h, turn(who, c.n, ticket))
				want[mine].Turn, want[mine].Ret.Ticket = at, ticket
				c.at = 2
			default:
				h = append(h, reply(who, c.n, ticket))
				want[mine].Reply, want[mine].Ret.Ticket = at, ticket
				*c = state{0, c.n + 1}
			}
		}
		was := slices.Clone(h)
		spans(t, h, want...)
		if !slices.Equal(h, was) {
			t.Fatalf("what was handed in was changed: %v", h)
		}
	}
}
