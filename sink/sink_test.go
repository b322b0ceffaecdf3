package sink_test

import (
	"slices"
	"testing"

	"lamplighter/api"
	"lamplighter/emit"
	"lamplighter/queue"
	"lamplighter/sample"
	"lamplighter/sink"
)

// of is a match of a query, by the event of a number.
func of(query string, seq int64) api.Out {
	return api.Out{Kind: api.OutMatch, Query: query, Key: "k", Time: seq, Seq: seq, Pairs: sample.Pairs(0, seq)}
}

// steps holds that it can do so many, and no more.
func steps(t *testing.T, s *sink.Sink, many int) {
	t.Helper()
	for i := range many {
		if !s.Can() || !s.Step() {
			t.Fatalf("it can't do step %d", i)
		}
	}
	many = s.Len()
	if s.Can() || s.Step() || s.Len() != many {
		t.Error("it can do a step more")
	}
}

func check(t *testing.T, s *sink.Sink, done bool, want ...api.Out) {
	t.Helper()
	if got := s.Log(); !emit.SameAll(got, want) || s.Len() != len(want) || s.Done() != done {
		t.Errorf("got %v, %d, %v, want %v, %v", got, s.Len(), s.Done(), want, done)
	}
}

func TestExample(t *testing.T) {
	in := queue.New[api.Out](3)
	in.Put(of("p", 1))
	in.Put(of("q", 2))
	in.Put(of("p", 3))
	s := sink.New(in)
	s.Step()
	s.Step()
	if s.Len() != 2 {
		t.Errorf("got %d", s.Len())
	}
	check(t, s, false, of("p", 1), of("q", 2))
}

func TestSteps(t *testing.T) {
	in := queue.New[api.Out](3)
	s := sink.New(in)
	check(t, s, false)
	steps(t, s, 0)
	// It keeps what comes, in the order in which it comes.
	in.Put(of("p", 3))
	in.Put(of("p", 1))
	in.Put(api.Out{})
	steps(t, s, 3)
	check(t, s, false, of("p", 3), of("p", 1), api.Out{})
	in.Put(of("p", 3))
	in.Close()
	check(t, s, false, of("p", 3), of("p", 1), api.Out{})
	steps(t, s, 1)
	check(t, s, true, of("p", 3), of("p", 1), api.Out{}, of("p", 3))
}

func TestOf(t *testing.T) {
	in := queue.New[api.Out](9)
	s := sink.New(in)
	for i, query := range []string{"q", "p", "", "q", "pq", "q"} {
		in.Put(of(query, int64(i)))
	}
	steps(t, s, 6)
	for query, want := range map[string][]api.Out{
		"p": {of("p", 1)}, "q": {of("q", 0), of("q", 3), of("q", 5)}, "": {of("", 2)}, "pq": {of("pq", 4)}, "r": nil, "P": nil,
	} {
		if got := slices.Collect(s.Of(query)); !emit.SameAll(got, want) {
			t.Errorf("of %q: got %v, want %v", query, got, want)
		}
	}
	// It tells as many as are asked for, and what came until it begins.
	all := s.Of("q")
	in.Put(of("q", 7))
	steps(t, s, 1)
	var got []api.Out
	for o := range all {
		in.Put(of("q", 9))
		s.Step()
		got = append(got, o)
	}
	if want := []api.Out{of("q", 0), of("q", 3), of("q", 5), of("q", 7)}; !emit.SameAll(got, want) {
		t.Errorf("got %v, want %v", got, want)
	}
	for o := range all {
		if o.Seq != 0 {
			t.Errorf("got %v", o)
		}
		break
	}
}

func TestOfNone(t *testing.T) {
	var none *sink.Sink
	for _, s := range []*sink.Sink{none, {}, sink.New(nil)} {
		steps(t, s, 0)
		check(t, s, true)
		for o := range s.Of("") {
			t.Errorf("got %v", o)
		}
	}
	closed := queue.New[api.Out](1)
	closed.Close()
	check(t, sink.New(closed), true)
}

func TestIsTheCallers(t *testing.T) {
	in := queue.New[api.Out](1)
	s, o := sink.New(in), of("p", 1)
	in.Put(o)
	steps(t, s, 1)
	o.Pairs[0].Seq = 77
	check(t, s, false, of("p", 1))
	log := s.Log()
	log[0].Pairs[0].Seq, log[0].Query = 77, "z"
	for o := range s.Of("p") {
		o.Pairs[0].Seq = 77
	}
	check(t, s, false, of("p", 1))
}
