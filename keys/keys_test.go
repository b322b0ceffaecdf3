package keys_test

import (
	"slices"
	"strconv"
	"testing"

	"lamplighter/api"
	"lamplighter/event"
	"lamplighter/keys"
	"lamplighter/match"
	"lamplighter/sample"
	"lamplighter/table"
	"lamplighter/value"
)

// pairs is a list of pairs, from elements and numbers that take turns.
var pairs = sample.Pairs

// of is a table of queries' texts, by the names p, q, .., under the numbers 1, 2, ..
func of(t *testing.T, texts ...string) *table.Table {
	t.Helper()
	x := table.New()
	for i, text := range texts {
		if e := x.Register(string(rune('p'+i)), sample.Query(text), int64(i+1)); e != api.OK {
			t.Fatalf("%s: %d", text, e)
		}
	}
	return x
}

func at(kind, key string, seq int64) api.Event {
	return sample.Event(kind, key, 10*seq, seq, seq)
}

// told is what is told of a query by an event: a match, or, without pairs, that runs were lost.
func told(place int, e api.Event, m []api.Pair) api.Out {
	o := api.Out{Kind: api.OutMatch, Query: string(rune('p' + place)), Place: place, Key: e.Key, Time: e.Time, Seq: e.Seq, Pairs: m}
	if len(m) == 0 {
		o.Kind = api.OutLost
	}
	return o
}

func sameOut(a, b api.Out) bool {
	return a.Kind == b.Kind && a.Query == b.Query && a.Place == b.Place && a.Key == b.Key && a.Time == b.Time && a.Seq == b.Seq && slices.Equal(a.Pairs, b.Pairs)
}

// feed holds what is told by an event.
func feed(t *testing.T, k *keys.Keys, x *table.Table, e api.Event, want ...api.Out) {
	t.Helper()
	if got := k.Feed(x, e); !slices.EqualFunc(got, want, sameOut) {
		t.Errorf("at %s: got %v, want %v", event.Show(e), got, want)
	}
}

// live holds how many keys there are, and how many runs are kept.
func live(t *testing.T, k *keys.Keys, many, most, all int) {
	t.Helper()
	m, a := k.Live()
	if k.Len() != many || m != most || a != all {
		t.Errorf("got %d keys, %d runs of one, %d of all; want %d, %d, %d", k.Len(), m, a, many, most, all)
	}
}

func TestExample(t *testing.T) {
	k, x := keys.New(sample.Schema()), of(t, "SEQ(A a, B b) WITHIN 900")
	live(t, k, 0, 0, 0)
	feed(t, k, x, at("A", "k", 3))
	feed(t, k, x, at("A", "l", 4))
	feed(t, k, x, at("A", "l", 5))
	live(t, k, 2, 2, 3)
	b := at("B", "k", 6)
	feed(t, k, x, b, told(0, b, pairs(0, 3, 1, 6)))
	b = at("B", "l", 7)
	feed(t, k, x, b, told(0, b, pairs(0, 4, 1, 7)), told(0, b, pairs(0, 5, 1, 7)))
	feed(t, k, x, at("B", "m", 8))
	live(t, k, 3, 2, 3)
}

// TestByPlaces holds that queries are fed by their places, each of which tells its matches, then that runs were lost.
func TestByPlaces(t *testing.T) {
	k := keys.New(sample.Schema())
	x := of(t, "SEQ(A a{1,2}, A b) WITHIN 900 CAP 2", "SEQ(B b) WITHIN 900", "SEQ((A|B) c) WITHIN 900")
	a := at("A", "k", 4)
	feed(t, k, x, a, told(2, a, pairs(0, 4)))
	a = at("A", "k", 5)
	feed(t, k, x, a, told(0, a, pairs(0, 4, 1, 5)), told(0, a, nil), told(2, a, pairs(0, 5)))
	a = at("A", "k", 6)
	feed(t, k, x, a, told(0, a, pairs(0, 4, 0, 5, 1, 6)), told(0, a, pairs(0, 4, 1, 6)), told(0, a, nil), told(2, a, pairs(0, 6)))
	b := at("B", "k", 7)
	feed(t, k, x, b, told(1, b, pairs(0, 7)), told(2, b, pairs(0, 7)))
	live(t, k, 1, 2, 2)
}

// TestWhoSees holds that only queries that see an event are fed, and that a key is there when something was fed for it.
func TestWhoSees(t *testing.T) {
	k, x := keys.New(sample.Schema()), table.New()
	x.Register("p", sample.Query("SEQ(A a, B b) WITHIN 900"), 3)
	for seq := range int64(4) {
		feed(t, k, x, at("A", "k", seq))
	}
	live(t, k, 0, 0, 0)
	feed(t, k, x, at("A", "k", 4))
	live(t, k, 1, 1, 1)
	x.Unregister("p", 6)
	feed(t, k, x, at("B", "l", 6))
	feed(t, k, x, at("B", "k", 7))
	live(t, k, 1, 1, 1)
	b := at("B", "k", 5)
	feed(t, k, x, b, told(0, b, pairs(0, 4, 1, 5)))
	// Of the same name, and another place: it has seen nothing yet.
	x.Register("p", sample.Query("SEQ(A a, B b) WITHIN 900"), 8)
	feed(t, k, x, at("B", "k", 9))
	feed(t, k, x, at("A", "k", 10))
	live(t, k, 1, 1, 2)
	b = at("B", "k", 11)
	want := told(1, b, pairs(0, 10, 1, 11))
	want.Query = "p"
	feed(t, k, x, b, want)
}

// TestMaxKeys holds that where there are MaxKeys nothing is told of others.
func TestMaxKeys(t *testing.T) {
	k, x := keys.New(sample.Schema()), of(t, "SEQ(A a{1,2}) WITHIN 90000 CAP 1")
	for i := range int64(api.MaxKeys) {
		a := at("A", "k"+strconv.Itoa(int(i)), 2+i)
		feed(t, k, x, a, told(0, a, pairs(0, 2+i)))
	}
	live(t, k, api.MaxKeys, 1, api.MaxKeys)
	feed(t, k, x, at("A", "z", 5000))
	live(t, k, api.MaxKeys, 1, api.MaxKeys)
	a := at("A", "k7", 5001)
	feed(t, k, x, a, told(0, a, pairs(0, 9, 0, 5001)), told(0, a, pairs(0, 5001)), told(0, a, nil))
	slots := k.Save()
	slots = append(slots, api.Slot{Key: "zz", Runs: slots[0].Runs})
	loaded := keys.Load(sample.Schema(), x, slots)
	live(t, loaded, api.MaxKeys, 1, api.MaxKeys)
	feed(t, loaded, x, at("A", "z", 5002))
}

func TestWithin(t *testing.T) {
	k, x := keys.New(sample.Schema()), of(t, "SEQ(A a, B b) WITHIN 900 CAP 5", "SEQ(B a, B b) WITHIN 900 CAP 3")
	if !k.Within(x) || !k.Within(nil) {
		t.Error("what has no keys is not within")
	}
	for seq := range int64(3) {
		feed(t, k, x, at("A", "k", 3+seq))
	}
	few := of(t, "SEQ(A a, B b) WITHIN 900 CAP 2", "SEQ(B a, B b) WITHIN 900 CAP 3")
	just := of(t, "SEQ(A a, B b) WITHIN 900 CAP 3", "SEQ(B a, B b) WITHIN 900 CAP 1")
	one := of(t, "SEQ(A a, B b) WITHIN 900 CAP 5")
	for _, c := range []struct {
		t    *table.Table
		want bool
	}{{x, true}, {just, true}, {few, false}, {one, false}, {table.New(), false}, {nil, false}} {
		if got := k.Within(c.t); got != c.want {
			t.Errorf("got %v", got)
		}
	}
}

// begun is an a of a query with room for more, as it is kept elsewhere.
func begun(e api.Event) api.Saved {
	return api.Saved{State: 1, Pairs: pairs(0, e.Seq), Env: []api.Bound{{Var: "a", E: e}}, First: e.Time, Last: api.Stamp{Time: e.Time, Seq: e.Seq}}
}

func checkSave(t *testing.T, k *keys.Keys, want ...api.Slot) {
	t.Helper()
	if got := k.Save(); !slices.EqualFunc(got, want, sample.SameSlot) {
		t.Errorf("got %v, want %v", got, want)
	}
}

// TestSaveAndLoad holds that matchers that keep something are kept, by keys, then places, and go on as they were.
func TestSaveAndLoad(t *testing.T) {
	s := sample.Schema()
	k, x := keys.New(s), of(t, "SEQ(A a, B b) WITHIN 900", "SEQ(C a, B b) WITHIN 900", "SEQ((A|C) a, B b) WITHIN 900 CAP 1")
	checkSave(t, k)
	for i, e := range []string{"A", "C", "C", "B"} {
		k.Feed(x, at(e, "lkmn"[i:i+1], int64(4+i)))
	}
	k.Feed(x, at("A", "l", 8))
	l4, k5, m6, l8 := begun(at("A", "l", 4)), begun(at("C", "k", 5)), begun(at("C", "m", 6)), begun(at("A", "l", 8))
	want := []api.Slot{
		{Key: "k", Place: 1, Runs: []api.Saved{k5}},
		{Key: "k", Place: 2, Runs: []api.Saved{k5}},
		{Key: "l", Place: 0, Runs: []api.Saved{l4, l8}},
		{Key: "l", Place: 2, Runs: []api.Saved{l4}},
		{Key: "m", Place: 1, Runs: []api.Saved{m6}},
		{Key: "m", Place: 2, Runs: []api.Saved{m6}},
	}
	checkSave(t, k, want...)
	live(t, k, 4, 2, 7)
	loaded := keys.Load(s, x, k.Save())
	checkSave(t, loaded, want...)
	live(t, loaded, 3, 2, 7)
	for i, e := range []api.Event{at("B", "l", 9), at("B", "k", 10), at("A", "k", 11), at("B", "k", 12), at("B", "m", 200)} {
		got := k.Feed(x, e)
		if other := loaded.Feed(x, e); !slices.EqualFunc(got, other, sameOut) || (len(got) > 0) != (i < 4) {
			t.Errorf("at %s: got %v, and %v", event.Show(e), got, other)
		}
	}
	checkSave(t, loaded, k.Save()...)
}

// TestLoadOthers holds that of places that there are not nothing is loaded, and no more than Cap of others.
func TestLoadOthers(t *testing.T) {
	s, x := sample.Schema(), of(t, "SEQ(A a, B b) WITHIN 900 CAP 2")
	a := begun(at("A", "k", 5))
	for _, place := range []int{-1, 1, 16, 1 << 40} {
		k := keys.Load(s, x, []api.Slot{{Key: "k", Place: place, Runs: []api.Saved{a}}})
		live(t, k, 0, 0, 0)
		checkSave(t, k)
	}
	k := keys.Load(s, x, []api.Slot{{Key: "k", Runs: []api.Saved{a, a, a}}, {Key: "", Runs: []api.Saved{a}}})
	checkSave(t, k, api.Slot{Key: "", Runs: []api.Saved{a}}, api.Slot{Key: "k", Runs: []api.Saved{a, a}})
	if !k.Within(x) {
		t.Error("it keeps too many")
	}
	checkSave(t, keys.Load(s, nil, []api.Slot{{Key: "k", Runs: []api.Saved{a}}}))
	checkSave(t, keys.Load(nil, x, nil))
}

// TestEachOfItsOwn holds that each key and place has a matcher of its own, whatever comes between.
func TestEachOfItsOwn(t *testing.T) {
	s := sample.Schema()
	texts := []string{"SEQ(A a, B b) WITHIN 90 CAP 2", "SEQ(A a{1,3}, !C n, B b) WHERE b: b.x > 7 WITHIN 200 CAP 4", "SEQ((A|B|C) a, (B|C) c) WITHIN 40"}
	k, x := keys.New(s), of(t, texts...)
	alone := map[string][]*match.Matcher{}
	for _, key := range []string{"k", "l", "m"} {
		for _, text := range texts {
			alone[key] = append(alone[key], match.New(s, sample.Query(text)))
		}
	}
	d := sample.Dice(1)
	for seq := range int64(500) {
		e := at(d.Pick("A", "B", "C"), d.Pick("k", "l", "m"), seq+4)
		var want []api.Out
		for place, m := range alone[e.Key] {
			matches, lost := m.Feed(e)
			for _, p := range matches {
				want = append(want, told(place, e, p))
			}
			if lost {
				want = append(want, told(place, e, nil))
			}
		}
		feed(t, k, x, e, want...)
	}
}

func TestOfNone(t *testing.T) {
	var none *keys.Keys
	x := of(t, "SEQ(A a) WITHIN 9")
	feed(t, none, x, at("A", "k", 5))
	live(t, none, 0, 0, 0)
	checkSave(t, none)
	if !none.Within(x) || !none.Within(nil) {
		t.Error("none is not within")
	}
	for _, k := range []*keys.Keys{{}, keys.New(nil)} {
		feed(t, k, nil, at("A", "k", 5))
		feed(t, k, table.New(), at("A", "k", 5))
		live(t, k, 0, 0, 0)
		a := at("A", "", 5)
		feed(t, k, x, a, told(0, a, pairs(0, 5)))
		live(t, k, 1, 0, 0)
	}
}

func TestIsTheCallers(t *testing.T) {
	s, x, a := sample.Schema(), of(t, "SEQ(A a, B b) WHERE b: b.x > a.x WITHIN 900"), at("A", "k", 5)
	k := keys.New(s)
	k.Feed(x, a)
	slots := k.Save()
	loaded := keys.Load(s, x, slots)
	if !event.Same(a, at("A", "k", 5)) || !sample.SameSlot(slots[0], k.Save()[0]) {
		t.Errorf("what was handed in was changed: %v, %v", a, slots)
	}
	a.Vals[0] = value.Num(77)
	slots[0].Runs[0].Pairs[0].Seq = 77
	slots[0].Runs[0].Env[0].E.Vals[0] = value.Num(77)
	slots[0].Runs[0].State = 0
	for _, y := range []*keys.Keys{k, loaded} {
		b := at("B", "k", 6)
		got := y.Feed(x, b)
		if len(got) != 1 || !sameOut(got[0], told(0, b, pairs(0, 5, 1, 6))) {
			t.Errorf("got %v", got)
			continue
		}
		got[0].Pairs[0].Seq = 77
		checkSave(t, y, api.Slot{Key: "k", Runs: []api.Saved{begun(at("A", "k", 5))}})
	}
}
