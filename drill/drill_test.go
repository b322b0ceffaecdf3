package drill_test

import (
	"math"
	"slices"
	"strings"
	"testing"

	"lamplighter/api"
	"lamplighter/drill"
	"lamplighter/event"
	"lamplighter/front"
	"lamplighter/schema"
	"lamplighter/show"
	"lamplighter/value"
)

// TestBelow holds the first numbers of some beginnings, as the rule tells them.
func TestBelow(t *testing.T) {
	for seed, want := range map[uint64][]int{
		0:              {0, 207537063, 460075364, 259652591, 139789987, 136636418},
		1:              {83322332, 343088270, 469367085, 20205471, 137995828, 59648704},
		math.MaxUint64: {453548579, 71985855, 450783642, 499099710, 141584146, 213624132},
		12345:          {506402136, 160558898, 276003194, 296208500, 2606563, 521695001},
	} {
		all, some := drill.New(seed), drill.New(seed)
		for i, n := range want {
			if got := all.Below(math.MaxInt); got != n {
				t.Errorf("%d, %d: got %d, want %d", seed, i, got, n)
			}
			if got := some.Below(i + 1); got != n%(i+1) {
				t.Errorf("%d, %d: got %d of %d", seed, i, got, n)
			}
			// Where nothing is to be drawn none is.
			for _, none := range []int{0, -1, math.MinInt} {
				if some.Below(none) != 0 {
					t.Errorf("below %d something is drawn", none)
				}
			}
		}
	}
}

func TestTypes(t *testing.T) {
	x, s, b := api.Field{Name: "x", Kind: api.Int}, api.Field{Name: "s", Kind: api.Str}, api.Field{Name: "b", Kind: api.Bool}
	want := []api.Type{{Name: "A", Fields: []api.Field{x, s}}, {Name: "B", Fields: []api.Field{x, s}}, {Name: "C", Fields: []api.Field{x, s, b}}}
	same := func(a, b api.Type) bool { return a.Name == b.Name && slices.Equal(a.Fields, b.Fields) }
	l := drill.Types()
	if !slices.EqualFunc(l, want, same) {
		t.Errorf("got %v", l)
	}
	l[0].Fields[0].Name, l[1].Name = "z", "Z"
	if got := drill.Types(); !slices.EqualFunc(got, want, same) {
		t.Errorf("what was told was changed: %v", got)
	}
	if got := drill.Schema(); !slices.Equal(got.Names(), []string{"A", "B", "C"}) {
		t.Errorf("got %v", got.Names())
	}
	for _, x := range want {
		if got, ok := drill.Schema().Find(x.Name); !ok || !same(got, x) {
			t.Errorf("got %v", got)
		}
	}
}

// seen counts what was drawn, and holds that all of it was, and nothing else.
type seen map[string]int

func (s seen) check(t *testing.T, want ...string) {
	t.Helper()
	for _, one := range want {
		if s[one] == 0 {
			t.Errorf("%q was never drawn: %v", one, s)
		}
	}
	if len(s) != len(want) {
		t.Errorf("got %v, want %v", s, want)
	}
}

func TestEvent(t *testing.T) {
	s, d := drill.Schema(), drill.New(1)
	types, keys, times, truths := seen{}, seen{}, seen{}, seen{}
	for range 1000 {
		e := d.Event(3)
		if err := event.Check(s, e); err != api.OK || e.Seq != 0 {
			t.Fatalf("%v: got %d", e, err)
		}
		types[e.Type]++
		keys[e.Key]++
		times[string(rune('0'+e.Time))]++
		if e.Type == "C" {
			truths[value.Show(e.Vals[2])]++
		}
	}
	types.check(t, "A", "B", "C")
	keys.check(t, "k", "l", "m", "n")
	times.check(t, "0", "1", "2", "3")
	truths.check(t, "true", "false")
	for most, bound := range map[int64]int64{math.MinInt64: 0, -1: 0, 0: 0, 1: 1, 100: 100, 1 << 30: 1 << 30, 1<<30 + 1: 1 << 30, math.MaxInt64: 1 << 30} {
		for range 100 {
			if e := d.Event(most); e.Time < 0 || e.Time > bound || event.Check(s, e) != api.OK {
				t.Errorf("%d: got %v", most, e)
			}
		}
	}
}

func TestEvents(t *testing.T) {
	s, d := drill.Schema(), drill.New(1)
	for many, want := range map[int]int{math.MinInt: 0, -1: 0, 0: 0, 1: 1, 7: 7, api.MaxDrill: api.MaxDrill, api.MaxDrill + 1: api.MaxDrill, math.MaxInt: api.MaxDrill} {
		l := d.Events(many, 9)
		if len(l) != want {
			t.Errorf("%d: got %d", many, len(l))
		}
		for i, e := range l {
			if e.Key != "k" || e.Seq != int64(i)+1 || e.Time > 9 || event.Check(s, e) != api.OK {
				t.Errorf("%d: got %v", i, e)
			}
		}
	}
	if e := d.Events(1, -5)[0]; e.Time != 0 {
		t.Errorf("got %v", e)
	}
}

// TestExample holds that each query that is drawn may be; and that they are of all kinds.
func TestExample(t *testing.T) {
	s := drill.Schema()
	drawn := seen{}
	for seed := range uint64(3000) {
		text := drill.New(seed).Query()
		q, e := show.Read(s, text)
		if e != api.OK || len(q.Elems) < 1 || len(q.Elems) > 4 {
			t.Fatalf("%s: got %d", text, e)
		}
		drawn[string(rune('0'+len(q.Elems)))]++
		for part, is := range map[string]bool{
			"!": strings.Contains(text, "!"), "{": strings.Contains(text, "{"), "|": strings.Contains(text, "|"), "WHERE": strings.Contains(text, "WHERE"),
			"CAP": strings.Contains(text, "CAP"), ".b": strings.Contains(text, ".b"), "of another": strings.Contains(text, "b.x = a.x"),
		} {
			if is {
				drawn[part]++
			}
		}
	}
	drawn.check(t, "1", "2", "3", "4", "!", "{", "|", "WHERE", "CAP", ".b", "of another")
}

func TestCall(t *testing.T) {
	s, d := drill.Schema(), drill.New(1)
	kinds := map[int]int{}
	for _, time := range []int64{math.MinInt64, -1, 0, 5, 500, 1 << 30, math.MaxInt64} {
		about := min(max(time, 0), 1<<30)
		for range 300 {
			c := d.Call(time)
			kinds[c.Kind]++
			when := about
			switch c.Kind {
			case api.CallPublish, api.CallTry:
				when = c.E.Time
				if e := event.Check(s, c.E); e != api.OK || c.E.Seq != 0 {
					t.Fatalf("%v: got %d", c, e)
				}
			case api.CallAdvance:
				when = c.T
			case api.CallRegister:
				if _, e := show.Read(s, c.Text); e != api.OK || !schema.Name(c.Id) {
					t.Fatalf("%v: got %d", c, e)
				}
			case api.CallUnregister:
				if !schema.Name(c.Id) {
					t.Fatalf("got %v", c)
				}
			}
			if when < 0 || when < about-20 || when > about+20 {
				t.Fatalf("%d: got %v", time, c)
			}
		}
	}
	for kind := api.CallPublish; kind <= api.CallStats; kind++ {
		if kinds[kind] == 0 {
			t.Errorf("%d was never drawn", kind)
		}
	}
	if len(kinds) != api.CallStats {
		t.Errorf("got %v", kinds)
	}
}

func TestScripts(t *testing.T) {
	for clients, want := range map[int]int{math.MinInt: 1, -1: 1, 0: 1, 1: 1, 2: 2, 3: 3, 4: 4, 5: 4, math.MaxInt: 4} {
		for many, each := range map[int]int{math.MinInt: 0, -1: 0, 0: 0, 1: 1, 2: 2, 3: 3, 4: 4, 20: 20, api.MaxDrill: api.MaxDrill, api.MaxDrill + 1: api.MaxDrill, math.MaxInt: api.MaxDrill} {
			for _, closed := range []bool{false, true} {
				scripts := drill.New(uint64(clients)).Scripts(clients, many, closed)
				if len(scripts) != want {
					t.Fatalf("%d: got %d", clients, len(scripts))
				}
				for who, l := range scripts {
					most := each
					if who == 0 && closed {
						most = max(each, 3)
					}
					if len(l) != most {
						t.Errorf("%d of %d, %d, %v: got %d", who, clients, many, closed, len(l))
					}
				}
				first(t, scripts[0], closed)
			}
		}
	}
}

// first holds the first client's first call, and the last ones.
func first(t *testing.T, l []api.Call, closed bool) {
	t.Helper()
	ends := slices.ContainsFunc(l, func(c api.Call) bool { return c.Kind == api.CallClose })
	if ends != closed {
		t.Errorf("got %v", ends)
	}
	if len(l) == 0 {
		return
	}
	f := front.New(drill.Schema())
	if _, e := f.Admit(l[0]); l[0].Kind != api.CallRegister || e != api.OK {
		t.Errorf("got %v, %d", l[0], e)
	}
	if !closed {
		return
	}
	last := l[len(l)-2:]
	if last[0].Kind != api.CallAdvance || last[0].T != 1000 || last[1].Kind != api.CallClose {
		t.Errorf("got %v", last)
	}
}

// TestTaken holds that most calls are taken, and that the end always comes behind all times.
func TestTaken(t *testing.T) {
	taken, all := 0, 0
	for seed := range uint64(50) {
		f := front.New(drill.Schema())
		scripts := drill.New(seed).Scripts(1, api.MaxDrill, true)
		for i, c := range scripts[0] {
			_, e := f.Admit(c)
			if i >= api.MaxDrill-2 && e != api.OK {
				t.Errorf("%d: got %d of %v", seed, e, c)
			}
			all++
			if e == api.OK {
				taken++
			}
		}
	}
	if taken < all/3 {
		t.Errorf("%d of %d are taken", taken, all)
	}
}

// TestAgain holds that the same beginning draws the same, and another one something else.
func TestAgain(t *testing.T) {
	text := func(seed uint64) string {
		var s []string
		d := drill.New(seed)
		for _, l := range d.Scripts(3, 30, true) {
			for _, c := range l {
				s = append(s, c.Id, c.Text, event.Show(c.E), string(rune('0'+c.Kind)))
			}
		}
		return strings.Join(s, ";")
	}
	if text(1) != text(1) || text(1) == text(2) {
		t.Error("what is drawn hangs on something else")
	}
}

func TestOfNone(t *testing.T) {
	var none *drill.Dice
	s := drill.Schema()
	if none.Below(9) != 0 || len(none.Events(3, 5)) != 3 || event.Check(s, none.Event(5)) != api.OK {
		t.Error("none draws something")
	}
	if _, e := show.Read(s, none.Query()); e != api.OK {
		t.Errorf("got %d", e)
	}
	none.Call(5)
	if len(none.Scripts(2, 3, true)) != 2 {
		t.Error("none has no clients")
	}
	if zero := (&drill.Dice{}); zero.Below(1000) != drill.New(0).Below(1000) {
		t.Error("the zero one does not draw from 0 on")
	}
}
