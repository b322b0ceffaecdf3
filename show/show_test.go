package show_test

import (
	"math"
	"strconv"
	"strings"
	"testing"

	"lamplighter/api"
	"lamplighter/check"
	"lamplighter/pat"
	"lamplighter/ppat"
	"lamplighter/schema"
	"lamplighter/show"
	"lamplighter/value"
)

const example = "SEQ(A a, !(B|C) b, C c{1,3}) WHERE a: (a.x > 3) WITHIN 100 CAP 50"

func types(t *testing.T) *schema.Schema {
	t.Helper()
	fields := []api.Field{{Name: "x", Kind: api.Int}, {Name: "s", Kind: api.Str}, {Name: "b", Kind: api.Bool}}
	s, e := schema.New([]api.Type{{Name: "A", Fields: fields}, {Name: "B", Fields: fields}, {Name: "C", Fields: fields[:2]}})
	if e != api.OK {
		t.Fatalf("the schema: %d", e)
	}
	return s
}

func field(name, field string) api.Node {
	return api.Node{Op: api.OpField, Var: name, Field: field}
}

func constant(v api.Value) api.Node { return api.Node{Op: api.OpConst, V: v} }

func op(o int) api.Node { return api.Node{Op: o} }

func elem(name string, types ...string) api.Elem {
	return api.Elem{Var: name, Types: types, Min: 1, Max: 1}
}

func query(l ...api.Elem) api.Query {
	return api.Query{Elems: l, Window: 9, Cap: api.UsualCap}
}

func checkShow(t *testing.T, q api.Query, want string) {
	t.Helper()
	was := pat.Copy(q)
	if got := show.Query(q); got != want {
		t.Errorf("Query: got %q, want %q", got, want)
	}
	if !pat.Same(q, was) {
		t.Errorf("what was handed in was changed: %v", q)
	}
}

func TestExample(t *testing.T) {
	q, e := ppat.Parse(example)
	if e != api.OK {
		t.Fatalf("Parse: %d", e)
	}
	checkShow(t, q, example)
	if got, e := show.Read(types(t), show.Query(q)); !pat.Same(got, q) || e != api.OK {
		t.Errorf("Read: got %v, %d", got, e)
	}
}

func TestQuery(t *testing.T) {
	a, b := elem("a", "A"), elem("b", "A", "B")
	checkShow(t, query(a), "SEQ(A a) WITHIN 9")
	checkShow(t, query(a, b), "SEQ(A a, (A|B) b) WITHIN 9")
	checkShow(t, query(a, elem("c", "C", "B", "A")), "SEQ(A a, (C|B|A) c) WITHIN 9")
	not := b
	not.Neg = true
	checkShow(t, query(a, not, elem("c", "C")), "SEQ(A a, !(A|B) b, C c) WITHIN 9")
	not.Types = []string{"C"}
	checkShow(t, query(a, not, elem("c", "C")), "SEQ(A a, !C b, C c) WITHIN 9")
}

func TestHowOften(t *testing.T) {
	for least := range api.MaxTimes + 1 {
		for most := range api.MaxTimes + 1 {
			a, want := elem("a", "A"), "{"+strconv.Itoa(least)+","+strconv.Itoa(most)+"}"
			a.Min, a.Max = least, most
			if least == 1 && most == 1 {
				want = ""
			}
			checkShow(t, query(a, elem("b", "B")), "SEQ(A a"+want+", B b) WITHIN 9")
		}
	}
}

func TestPredicates(t *testing.T) {
	a, b, c := elem("a", "A"), elem("b", "B"), elem("c", "C")
	a.Pred = []api.Node{constant(value.Truth(true))}
	checkShow(t, query(a, b), "SEQ(A a, B b) WHERE a: true WITHIN 9")
	b.Pred = []api.Node{field("b", "b")}
	checkShow(t, query(a, b), "SEQ(A a, B b) WHERE a: true; b: b.b WITHIN 9")
	c.Pred = []api.Node{field("c", "s"), constant(value.Text("it's")), op(api.OpNe)}
	checkShow(t, query(b, c), "SEQ(B b, C c) WHERE b: b.b; c: (c.s != 'it''s') WITHIN 9")
	b.Pred = []api.Node{}
	checkShow(t, query(a, b, c), "SEQ(A a, B b, C c) WHERE a: true; c: (c.s != 'it''s') WITHIN 9")
	a.Pred = []api.Node{field("a", "x"), op(api.OpNeg), constant(value.Num(-3)), op(api.OpGe), op(api.OpNot)}
	checkShow(t, query(a), "SEQ(A a) WHERE a: (not ((- a.x) >= (-3))) WITHIN 9")
}

func TestWindowAndCap(t *testing.T) {
	q := query(elem("a", "A"))
	for _, n := range []int64{0, 1, api.MaxWindow, -1, math.MaxInt64, math.MinInt64} {
		q.Window = n
		checkShow(t, q, "SEQ(A a) WITHIN "+strconv.FormatInt(n, 10))
	}
	q.Window = 9
	for _, n := range []int{0, 1, api.UsualCap - 1, api.UsualCap + 1, api.MaxCap, -1, math.MaxInt, math.MinInt} {
		q.Cap = n
		checkShow(t, q, "SEQ(A a) WITHIN 9 CAP "+strconv.Itoa(n))
	}
}

// TestOfWhatMayNotBe holds that queries that may not be have a text all the same.
func TestOfWhatMayNotBe(t *testing.T) {
	checkShow(t, api.Query{}, "SEQ() WITHIN 0 CAP 0")
	checkShow(t, query(api.Elem{}), "SEQ(() {0,0}) WITHIN 9")
	odd := elem("a", "A")
	odd.Pred = []api.Node{op(99)}
	checkShow(t, query(odd), "SEQ(A a) WHERE a:  WITHIN 9")
}

func TestCanon(t *testing.T) {
	for s, want := range map[string]string{
		"SEQ(A a)WITHIN 9": "SEQ(A a) WITHIN 9",
		" SEQ\n( (A) a{1,1} , !(B|C) b, C\tc ) WITHIN 9 CAP 100":   "SEQ(A a, !(B|C) b, C c) WITHIN 9",
		"SEQ(A a{1,2}) WITHIN 9 CAP 99":                            "SEQ(A a{1,2}) WITHIN 9 CAP 99",
		"SEQ(A a, B b) WHERE b: b.x>a.x; a: not a.b WITHIN 9":      "SEQ(A a, B b) WHERE a: (not a.b); b: (b.x > a.x) WITHIN 9",
		"SEQ(A a) WHERE a: (a.s = 'it''s') WITHIN 9":               "SEQ(A a) WHERE a: (a.s = 'it''s') WITHIN 9",
		"SEQ(A a) WHERE a: 1+2*-3<-a.x and true or false WITHIN 9": "SEQ(A a) WHERE a: ((((1 + (2 * (-3))) < (- a.x)) and true) or false) WITHIN 9",
		example: example,
	} {
		if got := show.Canon(types(t), s); got != want {
			t.Errorf("Canon %q: got %q", s, got)
		}
		if got := show.Canon(types(t), want); got != want {
			t.Errorf("Canon of it: got %q", got)
		}
	}
}

func TestErrors(t *testing.T) {
	big := "1" + strings.Repeat("+1", 32)
	for s, want := range map[string]api.Errno{
		"":                                api.ErrForm,
		"#":                               api.ErrForm,
		strings.Repeat(" ", 2001):         api.ErrBig,
		"SEQ(A a)":                        api.ErrForm,
		"SEQ(A a) WHERE z: true WITHIN 9": api.ErrNone,
		"SEQ(A a) WHERE a: true; a: true WITHIN 9": api.ErrTwice,
		"SEQ(A a) WHERE a: " + big + " WITHIN 9":   api.ErrBig,
		"SEQ(!A a) WITHIN 9":                       api.ErrInput,
		"SEQ(A a, A a) WITHIN 9":                   api.ErrTwice,
		"SEQ(Z a) WITHIN 9":                        api.ErrType,
		"SEQ(A a) WHERE a: a.x WITHIN 9":           api.ErrType,
		"SEQ(A a) WHERE a: b.b WITHIN 9":           api.ErrNone,
		"SEQ(A a{0,1}) WITHIN 9":                   api.ErrInput,
		"SEQ(A a) WITHIN 0":                        api.ErrWindow,
		"SEQ(A a) WITHIN 9 CAP 0":                  api.ErrBig,
		// ppat's errors are told ahead of check's.
		"SEQ(!A a) WITHIN 9 9":       api.ErrForm,
		"SEQ(Z a) WITHIN 0 CAP 1001": api.ErrBig,
	} {
		if got, e := show.Read(types(t), s); e != want || !pat.Same(got, api.Query{}) {
			t.Errorf("Read %.60q: got %v, %d; want %d", s, got, e, want)
		}
		if got := show.Canon(types(t), s); got != "" {
			t.Errorf("Canon %.60q: got %q", s, got)
		}
	}
}

func TestOfNoSchema(t *testing.T) {
	for _, s := range []*schema.Schema{nil, {}} {
		if got, e := show.Read(s, example); e != api.ErrType || !pat.Same(got, api.Query{}) {
			t.Errorf("Read: got %v, %d", got, e)
		}
		if got := show.Canon(s, example); got != "" {
			t.Errorf("Canon: got %q", got)
		}
	}
}

// dice draws numbers by a rule.
type dice uint64

func (d *dice) below(n int) int {
	*d = *d*2862933555777941757 + 3037000493
	return int(*d >> 35 % dice(n))
}

func (d *dice) pick(l ...string) string { return l[d.below(len(l))] }

// text draws the text of a query, which often may be.
func (d *dice) text() string {
	var elems, preds []string
	names := []string{"a", "b", "c", "d"}[:1+d.below(4)]
	for i, name := range names {
		often, not := d.pick("", "", "{1,2}", "{2,3}", "{1,1}", "{4,4}"), ""
		if i > 0 && i < len(names)-1 && d.below(3) == 0 {
			often, not = "", "!"
		}
		elems = append(elems, not+d.pick("A", "B", "C", "(A|B)", "(C)", "(B|C|A)")+" "+name+often)
		if d.below(2) == 0 {
			other := d.pick(names[:i+1]...)
			preds = append(preds, name+":"+d.pick(
				name+".x>"+other+".x", "not "+name+".s='it''s'or "+other+".x*2-1<=-"+name+".x", "-5+-"+name+".x--3<7 and true",
				"("+other+".s)!="+name+".s", "- - 5 = -(5) + "+name+".x", "not not "+name+".x=5",
			))
		}
	}
	s := "SEQ(" + strings.Join(elems, ",") + ")"
	if len(preds) > 0 {
		s += "WHERE " + strings.Join(preds, ";")
	}
	return s + " WITHIN " + strconv.Itoa(1+d.below(50)) + d.pick("", " CAP 100", " CAP 1", " CAP 1000")
}

// TestReadOfQuery holds that Read of Query is the query, of many that may be.
func TestReadOfQuery(t *testing.T) {
	s, d, good := types(t), dice(1), 0
	for range 3000 {
		text := d.text()
		q, e := show.Read(s, text)
		if e != api.OK {
			continue
		}
		good++
		canon := show.Query(q)
		if again, e := show.Read(s, canon); !pat.Same(again, q) || e != api.OK || check.Query(s, again) != api.OK {
			t.Fatalf("%q: got %v, %d", canon, again, e)
		}
		if got := show.Canon(s, text); got != canon || show.Canon(s, canon) != canon {
			t.Fatalf("Canon %q: got %q", text, got)
		}
	}
	if good < 1000 {
		t.Errorf("only %d may be", good)
	}
}

func TestIsTheCallers(t *testing.T) {
	a, _ := show.Read(types(t), example)
	b, _ := show.Read(types(t), example)
	a.Elems[1].Types[0] = "Z"
	a.Elems[0].Pred[0] = api.Node{}
	if show.Query(b) != example {
		t.Errorf("it was changed: %v", b)
	}
}
