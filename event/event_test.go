package event_test

import (
	"math"
	"slices"
	"strconv"
	"strings"
	"testing"

	"lamplighter/api"
	"lamplighter/event"
	"lamplighter/schema"
	"lamplighter/value"
)

// longest is the longest key; longText, the longest text of a value.
var (
	longest  = strings.Repeat("k", api.MaxKey)
	longText = strings.Repeat("u", api.MaxStr)
)

// types is a schema with an ordinary type, one of all kinds, and one without fields.
func types(t *testing.T) *schema.Schema {
	t.Helper()
	s, e := schema.New([]api.Type{
		{Name: "A", Fields: []api.Field{{Name: "x", Kind: api.Int}, {Name: "s", Kind: api.Str}}},
		{Name: "B", Fields: []api.Field{{Name: "b", Kind: api.Bool}, {Name: "s", Kind: api.Str}, {Name: "x", Kind: api.Int}}},
		{Name: "N"},
	})
	if e != api.OK {
		t.Fatalf("the schema: %d", e)
	}
	return s
}

// plain is an ordinary event.
func plain() api.Event {
	return api.Event{Type: "A", Key: "k", Time: 5, Seq: 3, Vals: []api.Value{value.Num(1), value.Text("u")}}
}

// but is the ordinary event with something else about it.
func but(change func(e *api.Event)) api.Event {
	e := plain()
	change(&e)
	return e
}

// at is an event of a time and a number; the key tells alike ones apart.
func at(time, seq int64, key string) api.Event {
	return api.Event{Type: "A", Key: key, Time: time, Seq: seq, Vals: []api.Value{value.Num(time), value.Text(key)}}
}

func TestKey(t *testing.T) {
	cases := []struct {
		s    string
		want bool
	}{
		{"", false},
		{"k", true},
		{" ", true},
		{"'", true},
		{"true", true},
		{"\x00", true},
		{"\xff\n", true},
		{longest[1:], true},
		{longest, true},
		{longest + "k", false},
		{strings.Repeat("\u00e9", api.MaxKey/2), true},
		{strings.Repeat("\u00e9", api.MaxKey/2) + "k", false},
		{strings.Repeat("\u00e9", api.MaxKey/2+1), false},
		{strings.Repeat("k", 1<<20), false},
	}
	for _, c := range cases {
		if got := event.Key(c.s); got != c.want {
			t.Errorf("Key of %d bytes %.40q: got %v", len(c.s), c.s, got)
		}
	}
}

func checkCheck(t *testing.T, s *schema.Schema, e api.Event, want api.Errno) {
	t.Helper()
	if got := event.Check(s, e); got != want {
		t.Errorf("Check %v: got %d, want %d", e, got, want)
	}
}

func TestCheck(t *testing.T) {
	s := types(t)
	good := []api.Event{
		plain(),
		but(func(e *api.Event) { e.Seq = 0 }),
		but(func(e *api.Event) { e.Seq = math.MaxInt64 }),
		but(func(e *api.Event) { e.Time = 0 }),
		but(func(e *api.Event) { e.Time = api.MaxTime }),
		but(func(e *api.Event) { e.Key = longest }),
		but(func(e *api.Event) { e.Vals = []api.Value{value.Num(math.MinInt64), value.Text(longText)} }),
		{Type: "B", Key: "k", Vals: []api.Value{value.Truth(false), value.Text(""), value.Num(0)}},
		{Type: "N", Key: "'"},
		{Type: "N", Key: "k", Vals: []api.Value{}},
	}
	for _, e := range good {
		checkCheck(t, s, e, api.OK)
	}
}

func TestCheckOfTypes(t *testing.T) {
	s := types(t)
	for _, name := range []string{"", "a", "C", "AB", "A ", "x", "true"} {
		checkCheck(t, s, but(func(e *api.Event) { e.Type = name }), api.ErrType)
		checkCheck(t, s, but(func(e *api.Event) { e.Type, e.Vals = name, nil }), api.ErrType)
	}
	n, u := value.Num(1), value.Text("u")
	lists := [][]api.Value{
		nil, {}, {n}, {u}, {u, n}, {n, n}, {u, u}, {n, u, n}, {n, u, u}, {n, u, {}},
		{n, {}}, {{}, u}, {n, value.Truth(true)}, {value.Truth(false), u},
		{n, value.Text(longText + "u")},
		{{Kind: api.Int, I: 1, S: "u"}, u}, {{Kind: api.Int, I: 1, B: true}, u},
		{n, {Kind: api.Str, S: "u", I: 1}}, {n, {Kind: api.Str, S: "u", B: true}},
		{{Kind: -1, I: 1}, u}, {n, {Kind: api.Bool + 1, S: "u"}},
		slices.Repeat([]api.Value{n}, 1000),
	}
	for _, l := range lists {
		checkCheck(t, s, but(func(e *api.Event) { e.Vals = l }), api.ErrType)
	}
	checkCheck(t, s, api.Event{Type: "N", Key: "k", Vals: []api.Value{{}}}, api.ErrType)
	checkCheck(t, s, but(func(e *api.Event) { e.Type = "B" }), api.ErrType)
}

func TestCheckOfKeysAndTimes(t *testing.T) {
	s := types(t)
	for _, key := range []string{"", longest + "k", strings.Repeat("k", 1<<16)} {
		checkCheck(t, s, but(func(e *api.Event) { e.Key = key }), api.ErrKey)
	}
	for _, time := range []int64{-1, math.MinInt64, api.MaxTime + 1, math.MaxInt64} {
		checkCheck(t, s, but(func(e *api.Event) { e.Time = time }), api.ErrTime)
	}
	for _, seq := range []int64{-1, math.MinInt64} {
		checkCheck(t, s, but(func(e *api.Event) { e.Seq = seq }), api.ErrTime)
	}
}

// TestCheckOfSeveral holds that of what is wrong the first is told.
func TestCheckOfSeveral(t *testing.T) {
	s := types(t)
	for i := range 16 {
		e, want := plain(), api.OK
		if i&8 != 0 {
			e.Seq, want = -1, api.ErrTime
		}
		if i&4 != 0 {
			e.Time, want = -1, api.ErrTime
		}
		if i&2 != 0 {
			e.Key, want = "", api.ErrKey
		}
		if i&1 != 0 {
			e.Vals, want = e.Vals[:1], api.ErrType
		}
		checkCheck(t, s, e, want)
	}
}

// TestOfNoSchema holds that where there are no types, no event is of one.
func TestOfNoSchema(t *testing.T) {
	empty, _ := schema.New(nil)
	for _, s := range []*schema.Schema{nil, empty, {}} {
		checkCheck(t, s, plain(), api.ErrType)
		checkCheck(t, s, api.Event{}, api.ErrType)
		if v, ok := event.Get(s, plain(), "x"); ok || v != (api.Value{}) {
			t.Errorf("Get: got %v, %v", v, ok)
		}
	}
}

func TestStamp(t *testing.T) {
	for _, n := range []int64{math.MinInt64, -1, 0, 7, math.MaxInt64} {
		for _, place := range []int{math.MinInt, -1, 0, 4, math.MaxInt} {
			if got := event.Stamp(at(n, -n, "k"), place); got != (api.Stamp{Time: n, Seq: -n, At: place}) {
				t.Errorf("Stamp: got %v", got)
			}
		}
	}
}

func TestBefore(t *testing.T) {
	rising := []api.Event{
		at(math.MinInt64, 0, "k"), at(-1, 9, "k"), at(0, 0, "k"), at(0, 1, "k"), at(0, math.MaxInt64, "k"),
		at(1, math.MinInt64, "k"), at(1, -1, "k"), at(1, 0, "k"), at(2, 0, "k"), at(api.MaxTime, 1, "k"), at(math.MaxInt64, 0, "k"),
	}
	for i, a := range rising {
		for j, b := range rising {
			if got := event.Before(a, b); got != (i < j) {
				t.Errorf("Before %v %v: got %v", a, b, got)
			}
		}
	}
	// Nothing but times and numbers counts.
	a, b := at(5, 3, "k"), api.Event{Type: "Z", Key: "z", Time: 5, Seq: 3}
	if event.Before(a, b) || event.Before(b, a) {
		t.Error("two of one time and number are ahead of one another")
	}
}

func TestSame(t *testing.T) {
	unlike := []api.Event{
		{},
		plain(),
		but(func(e *api.Event) { e.Type = "B" }),
		but(func(e *api.Event) { e.Key = "K" }),
		but(func(e *api.Event) { e.Time = 6 }),
		but(func(e *api.Event) { e.Seq = 4 }),
		but(func(e *api.Event) { e.Vals = nil }),
		but(func(e *api.Event) { e.Vals = e.Vals[:1] }),
		but(func(e *api.Event) { e.Vals = append(e.Vals, api.Value{}) }),
		but(func(e *api.Event) { e.Vals[0], e.Vals[1] = e.Vals[1], e.Vals[0] }),
		but(func(e *api.Event) { e.Vals[0].Kind = api.Str }),
		but(func(e *api.Event) { e.Vals[0].I = 2 }),
		but(func(e *api.Event) { e.Vals[0].S = "u" }),
		but(func(e *api.Event) { e.Vals[1].S = "v" }),
		but(func(e *api.Event) { e.Vals[1].B = true }),
	}
	for i, a := range unlike {
		for j, b := range unlike {
			if got := event.Same(a, event.Copy(b)); got != (i == j) {
				t.Errorf("Same %v %v: got %v", a, b, got)
			}
		}
	}
	none := but(func(e *api.Event) { e.Vals = nil })
	empty := but(func(e *api.Event) { e.Vals = []api.Value{} })
	if !event.Same(none, empty) || !event.Same(empty, none) {
		t.Error("no values and an empty list of them are unlike")
	}
}

func TestCopy(t *testing.T) {
	e := plain()
	c := event.Copy(e)
	if !event.Same(c, e) || !event.Same(e, plain()) {
		t.Errorf("Copy: got %v", c)
	}
	c.Vals[0] = value.Num(9)
	c.Vals = append(c.Vals[:1], value.Num(8))
	c.Key = "z"
	if !event.Same(e, plain()) {
		t.Errorf("the other one was changed: %v", e)
	}
	c = event.Copy(e)
	e.Vals[1] = value.Num(7)
	if !event.Same(c, plain()) {
		t.Errorf("the copy was changed: %v", c)
	}
	for _, e := range []api.Event{{}, {Type: "N", Vals: []api.Value{}}} {
		if c := event.Copy(e); !event.Same(c, e) {
			t.Errorf("Copy %v: got %v", e, c)
		}
	}
}

func TestGet(t *testing.T) {
	s := types(t)
	short := but(func(e *api.Event) { e.Vals = e.Vals[:1] })
	odd := but(func(e *api.Event) { e.Vals[0] = value.Truth(true) })
	none := but(func(e *api.Event) { e.Vals = nil })
	all := api.Event{Type: "B", Vals: []api.Value{value.Truth(true), value.Text("s"), value.Num(9)}}
	cases := []struct {
		e     api.Event
		field string
		want  api.Value
		ok    bool
	}{
		{plain(), "x", value.Num(1), true},
		{plain(), "s", value.Text("u"), true},
		{plain(), "b", api.Value{}, false},
		{plain(), "", api.Value{}, false},
		{plain(), "X", api.Value{}, false},
		{plain(), "A", api.Value{}, false},
		{all, "b", value.Truth(true), true},
		{all, "s", value.Text("s"), true},
		{all, "x", value.Num(9), true},
		{short, "x", value.Num(1), true},
		{short, "s", api.Value{}, false},
		{none, "x", api.Value{}, false},
		{odd, "x", value.Truth(true), true},
		{but(func(e *api.Event) { e.Type = "N" }), "x", api.Value{}, false},
		{but(func(e *api.Event) { e.Type = "C" }), "x", api.Value{}, false},
		{but(func(e *api.Event) { e.Type = "" }), "", api.Value{}, false},
		{but(func(e *api.Event) { e.Key, e.Time, e.Seq = "", -1, -1 }), "x", value.Num(1), true},
		{api.Event{}, "x", api.Value{}, false},
	}
	for _, c := range cases {
		if got, ok := event.Get(s, c.e, c.field); got != c.want || ok != c.ok {
			t.Errorf("Get %v %q: got %v, %v", c.e, c.field, got, ok)
		}
	}
}

func sameAll(a, b []api.Event) bool { return slices.EqualFunc(a, b, event.Same) }

func TestSort(t *testing.T) {
	l := []api.Event{
		at(5, 2, "a"), at(3, 9, "b"), at(5, 1, "c"), at(-1, 0, "d"), at(5, 2, "e"), at(3, 9, "f"),
		at(math.MaxInt64, 0, "g"), at(math.MinInt64, 0, "h"), at(5, 2, "i"), at(5, -1, "j"),
	}
	was := slices.Clone(l)
	var keys string
	sorted := event.Sort(l)
	for _, e := range sorted {
		keys += e.Key
	}
	if keys != "hdbfjcaeig" {
		t.Errorf("Sort: got %s", keys)
	}
	if !sameAll(l, was) {
		t.Errorf("the list was changed: %v", l)
	}
	for _, l := range [][]api.Event{nil, {}} {
		if got := event.Sort(l); len(got) != 0 {
			t.Errorf("Sort of nothing: got %v", got)
		}
	}
	if got := event.Sort(l[:1]); !sameAll(got, l[:1]) {
		t.Errorf("Sort of one: got %v", got)
	}
}

// TestSortOfMany holds the order, and that alike ones stay in theirs, in long lists.
func TestSortOfMany(t *testing.T) {
	var l []api.Event
	drawn := uint64(1)
	for i := range 3000 {
		drawn = drawn*2862933555777941757 + 3037000493
		l = append(l, at(int64(drawn>>33%20), int64(drawn>>45%7), strconv.Itoa(10000+i)))
	}
	sorted := event.Sort(l)
	if len(sorted) != len(l) {
		t.Fatalf("got %d", len(sorted))
	}
	for i := range len(sorted) - 1 {
		a, b := sorted[i], sorted[i+1]
		alike := a.Time == b.Time && a.Seq == b.Seq
		if event.Before(b, a) || alike && a.Key >= b.Key {
			t.Fatalf("at %d: %v ahead of %v", i, a, b)
		}
	}
	if !sameAll(sorted, event.Sort(l)) || !sameAll(sorted, event.Sort(sorted)) {
		t.Error("sorted again, it is another list")
	}
}

// TestSortIsTheCallers holds that no value is shared with what was handed in.
func TestSortIsTheCallers(t *testing.T) {
	l := []api.Event{at(2, 1, "a"), at(1, 1, "b")}
	sorted := event.Sort(l)
	sorted[0].Vals[0] = value.Num(77)
	sorted[1] = api.Event{}
	if !sameAll(l, []api.Event{at(2, 1, "a"), at(1, 1, "b")}) {
		t.Errorf("what was handed in was changed: %v", l)
	}
	sorted = event.Sort(l)
	l[0].Vals[0], l[1] = value.Num(88), api.Event{}
	if !sameAll(sorted, []api.Event{at(1, 1, "b"), at(2, 1, "a")}) {
		t.Errorf("what was answered was changed: %v", sorted)
	}
}

func TestShow(t *testing.T) {
	cases := []struct {
		e    api.Event
		want string
	}{
		{plain(), "A(1,'u') of 'k' at 5"},
		{but(func(e *api.Event) { e.Seq = 99 }), "A(1,'u') of 'k' at 5"},
		{but(func(e *api.Event) { e.Vals = nil }), "A() of 'k' at 5"},
		{but(func(e *api.Event) { e.Vals = []api.Value{value.Truth(true)} }), "A(true) of 'k' at 5"},
		{but(func(e *api.Event) { e.Vals = []api.Value{value.Num(-3), {}, value.Truth(false)} }), "A(-3,?,false) of 'k' at 5"},
		{but(func(e *api.Event) { e.Key = "it's" }), "A(1,'u') of 'it''s' at 5"},
		{but(func(e *api.Event) { e.Vals[1] = value.Text("it's, ") }), "A(1,'it''s, ') of 'k' at 5"},
		{but(func(e *api.Event) { e.Time = api.MaxTime }), "A(1,'u') of 'k' at 1099511627776"},
		{but(func(e *api.Event) { e.Time = -5 }), "A(1,'u') of 'k' at -5"},
		{but(func(e *api.Event) { e.Time = math.MinInt64 }), "A(1,'u') of 'k' at -9223372036854775808"},
		{but(func(e *api.Event) { e.Type = "no name" }), "no name(1,'u') of 'k' at 5"},
		{api.Event{}, "() of '' at 0"},
	}
	for _, c := range cases {
		if got := event.Show(c.e); got != c.want {
			t.Errorf("Show %v: got %q", c.e, got)
		}
	}
}

// TestNothingIsChanged holds that what is handed in stays as it is.
func TestNothingIsChanged(t *testing.T) {
	s, e := types(t), plain()
	event.Check(s, e)
	event.Get(s, e, "x")
	event.Show(e)
	event.Stamp(e, 1)
	event.Before(e, e)
	if !event.Same(e, plain()) {
		t.Errorf("it was changed: %v", e)
	}
}
