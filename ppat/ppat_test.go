package ppat_test

import (
	"slices"
	"strconv"
	"strings"
	"testing"

	"lamplighter/api"
	"lamplighter/lex"
	"lamplighter/pat"
	"lamplighter/ppat"
	"lamplighter/value"
)

const example = "SEQ(A a, !(B|C) b, C c{1,3}) WHERE a: a.x > 3; c: c.s = a.s WITHIN 100 CAP 50"

func elem(name string, types ...string) api.Elem {
	return api.Elem{Var: name, Types: types, Min: 1, Max: 1}
}

func not(e api.Elem) api.Elem {
	e.Neg = true
	return e
}

func times(e api.Elem, least, most int) api.Elem {
	e.Min, e.Max = least, most
	return e
}

func where(e api.Elem, pred ...api.Node) api.Elem {
	e.Pred = pred
	return e
}

func field(name, field string) api.Node {
	return api.Node{Op: api.OpField, Var: name, Field: field}
}

func constant(v api.Value) api.Node { return api.Node{Op: api.OpConst, V: v} }

func op(o int) api.Node { return api.Node{Op: o} }

var truth = constant(value.Truth(true))

func query(window int64, l ...api.Elem) api.Query {
	return api.Query{Elems: l, Window: window, Cap: api.UsualCap}
}

func checkParse(t *testing.T, s string, want api.Query) {
	t.Helper()
	if got, e := ppat.Parse(s); !pat.Same(got, want) || e != api.OK {
		t.Errorf("Parse %q: got %v, %d; want %v", s, got, e, want)
	}
}

func checkError(t *testing.T, s string, want api.Errno) {
	t.Helper()
	if got, e := ppat.Parse(s); !pat.Same(got, api.Query{}) || e != want {
		t.Errorf("Parse of %d bytes %.80q: got %v, %d; want %d", len(s), s, got, e, want)
	}
}

func TestExamples(t *testing.T) {
	want := query(100,
		where(elem("a", "A"), field("a", "x"), constant(value.Num(3)), op(api.OpGt)),
		not(elem("b", "B", "C")),
		where(times(elem("c", "C"), 1, 3), field("c", "s"), field("a", "s"), op(api.OpEq)),
	)
	want.Cap = 50
	checkParse(t, example, want)
	checkError(t, "SEQ(A a)", api.ErrForm)
	checkError(t, example[:strings.Index(example, "WITHIN")], api.ErrForm)
}

func TestParse(t *testing.T) {
	a, b := elem("a", "A"), elem("b", "B")
	long := strings.Repeat("n", api.MaxName)
	checkParse(t, "SEQ(A a) WITHIN 5", query(5, a))
	checkParse(t, " SEQ\n( A\ta )WITHIN 5 ", query(5, a))
	checkParse(t, "SEQ(A a,B b)WITHIN 0", query(0, a, b))
	checkParse(t, "SEQ((A) a) WITHIN 5", query(5, a))
	checkParse(t, "SEQ((A|B|C|A) a) WITHIN 5", query(5, elem("a", "A", "B", "C", "A")))
	checkParse(t, "SEQ(!A a, !(A | B) b) WITHIN 5", query(5, not(a), not(elem("b", "A", "B"))))
	checkParse(t, "SEQ(A a, A a) WITHIN 5", query(5, a, a))
	checkParse(t, "SEQ(_ A9) WITHIN 5", query(5, elem("A9", "_")))
	checkParse(t, "SEQ("+long+" "+long+") WITHIN 5", query(5, elem(long, long)))
	checkParse(t, "SEQ(A a{0,0}, B b { 4 , 4 }) WITHIN 5", query(5, times(a, 0, 0), times(b, 4, 4)))
	checkParse(t, "SEQ(A a{1,1}, !B b{3,2}) WITHIN 5", query(5, a, not(times(b, 3, 2))))
	checkParse(t, "SEQ(A a) WHERE a: true WITHIN 5", query(5, where(a, truth)))
	checkParse(t, "SEQ(A a, B b) WHERE b: true; a: (1) WITHIN 5",
		query(5, where(a, constant(value.Num(1))), where(b, truth)))
	// A variable stands for the first element that has it.
	checkParse(t, "SEQ(A a, B a) WHERE a: true WITHIN 5", query(5, where(a, truth), elem("a", "B")))
	// Whether it may be is not asked here.
	checkParse(t, "SEQ(A a) WHERE a: z.x + 'u' WITHIN 5",
		query(5, where(a, field("z", "x"), constant(value.Text("u")), op(api.OpAdd))))
}

func TestBoundsOfNumbers(t *testing.T) {
	for _, n := range []int64{0, 1, api.MaxWindow, api.MaxWindow + 1, 1<<62 - 1, 1 << 62} {
		checkParse(t, "SEQ(A a) WITHIN "+strconv.FormatInt(n, 10), query(n, elem("a", "A")))
	}
	for _, n := range []uint64{1<<62 + 1, 1<<63 - 1, 1 << 63, 1<<64 - 1} {
		checkError(t, "SEQ(A a) WITHIN "+strconv.FormatUint(n, 10), api.ErrBig)
	}
	for _, n := range []int{0, 1, api.UsualCap, api.MaxCap} {
		want := query(5, elem("a", "A"))
		want.Cap = n
		checkParse(t, "SEQ(A a) WITHIN 5 CAP "+strconv.Itoa(n), want)
	}
	checkError(t, "SEQ(A a) WITHIN 5 CAP "+strconv.Itoa(api.MaxCap+1), api.ErrBig)
	checkError(t, "SEQ(A a{5,1}) WITHIN 5", api.ErrBig)
	checkError(t, "SEQ(A a{1,5}) WITHIN 5", api.ErrBig)
	checkError(t, "SEQ(A a{9223372036854775807,1}) WITHIN 5", api.ErrBig)
	checkError(t, "SEQ(A a) WITHIN 5 CAP 9223372036854775807", api.ErrBig)
}

// elems is the text of so many elements.
func elems(many int) string {
	var l []string
	for i := range many {
		l = append(l, "A a"+strconv.Itoa(i))
	}
	return strings.Join(l, ", ")
}

func TestMostElems(t *testing.T) {
	q, e := ppat.Parse("SEQ(" + elems(api.MaxElems) + ") WITHIN 5")
	if len(q.Elems) != api.MaxElems || e != api.OK {
		t.Errorf("got %v, %d", q, e)
	}
	most := "SEQ(" + elems(api.MaxElems)
	checkError(t, most+", B b) WITHIN 5", api.ErrBig)
	checkError(t, most+", B b, C c, D d", api.ErrBig)
	// It is told behind the element too many.
	checkError(t, most+", B b #", api.ErrForm)
	checkError(t, most+", B b +", api.ErrBig)
	checkError(t, most+", B b", api.ErrBig)
	checkError(t, most+", !(B|C) b{1,3}", api.ErrBig)
	checkError(t, most+", B b{1,3", api.ErrForm)
	checkError(t, most+", B", api.ErrForm)
	checkError(t, most+",", api.ErrForm)
	checkError(t, most, api.ErrForm)
}

func TestErrForm(t *testing.T) {
	for _, s := range []string{
		"", " ", "SEQ", "seq(A a) WITHIN 5", "A a WITHIN 5", "SEQ A a WITHIN 5", "SEQ() WITHIN 5", "SEQ(,) WITHIN 5", "SEQ(A a,) WITHIN 5",
		"SEQ(A) WITHIN 5", "SEQ(A a B b) WITHIN 5", "SEQ(A a; B b) WITHIN 5", "SEQ(!!A a) WITHIN 5", "SEQ(A !a) WITHIN 5", "SEQ(A a WITHIN 5",
		"SEQ(() a) WITHIN 5", "SEQ((A|) a) WITHIN 5", "SEQ((|A) a) WITHIN 5", "SEQ((A|B a) WITHIN 5", "SEQ((A,B) a) WITHIN 5", "SEQ(A|B a) WITHIN 5",
		"SEQ((A B) a) WITHIN 5", "SEQ((!A) a) WITHIN 5", "SEQ(((A)) a) WITHIN 5",
		"SEQ(true a) WITHIN 5", "SEQ(A true) WITHIN 5", "SEQ(A SEQ) WITHIN 5", "SEQ(1 a) WITHIN 5", "SEQ(A 1) WITHIN 5", "SEQ('A' a) WITHIN 5", "SEQ(A 'a') WITHIN 5",
		"SEQ(A a{}) WITHIN 5", "SEQ(A a{1}) WITHIN 5", "SEQ(A a{1,}) WITHIN 5", "SEQ(A a{,1}) WITHIN 5", "SEQ(A a{1,2,3}) WITHIN 5", "SEQ(A a{1,2) WITHIN 5",
		"SEQ(A a{-1,2}) WITHIN 5", "SEQ(A a{a,2}) WITHIN 5", "SEQ(A a{1 2}) WITHIN 5", "SEQ(A a{1,2}{1,2}) WITHIN 5", "SEQ(A{1,2} a) WITHIN 5",
		"SEQ(A a)", "SEQ(A a) WITHIN", "SEQ(A a) WITHIN a", "SEQ(A a) WITHIN -5", "SEQ(A a) WITHIN '5'", "SEQ(A a) WITHIN 5 5", "SEQ(A a) 5", "SEQ(A a)) WITHIN 5",
		"SEQ(A a) WITHIN 5 CAP", "SEQ(A a) WITHIN 5 CAP a", "SEQ(A a) WITHIN 5 CAP -1", "SEQ(A a) CAP 5", "SEQ(A a) CAP 5 WITHIN 5", "SEQ(A a) WITHIN 5 CAP 5 CAP 5",
		"SEQ(A a) WITHIN 5 WHERE a: true", "SEQ(A a) WHERE WITHIN 5", "SEQ(A a) WHERE a WITHIN 5", "SEQ(A a) WHERE a: WITHIN 5", "SEQ(A a) WHERE a true WITHIN 5",
		"SEQ(A a) WHERE a: true; WITHIN 5", "SEQ(A a) WHERE : true WITHIN 5", "SEQ(A a) WHERE true WITHIN 5", "SEQ(A a) WHERE 1: true WITHIN 5", "SEQ(A a) WHERE a; true WITHIN 5",
		"SEQ(A a) WHERE a: true true WITHIN 5", "SEQ(A a) WHERE a: 1 = 2 = 3 WITHIN 5", "SEQ(A a) WHERE a: (true WITHIN 5", "SEQ(A a) WHERE a: true) WITHIN 5",
		"SEQ(A a) WHERE a: true, a: true WITHIN 5", "SEQ(A a) WHERE a: a WITHIN 5", "SEQ(A a) WHERE a: true WHERE a: true WITHIN 5",
		example + ".", example + " " + example, "." + example,
	} {
		checkError(t, s, api.ErrForm)
	}
}

func TestLexErrors(t *testing.T) {
	checkError(t, "#", api.ErrForm)
	checkError(t, example+" #", api.ErrForm)
	checkError(t, example+" 'u", api.ErrForm)
	checkError(t, strings.Repeat(" ", api.MaxText+1), api.ErrBig)
	checkError(t, strings.Repeat("(", api.MaxToks+1), api.ErrBig)
	// They are told ahead of all else, wherever they are.
	checkError(t, "WITHIN "+strings.Repeat("n", api.MaxName+1), api.ErrBig)
	checkError(t, "SEQ(A a) WHERE z: true WITHIN #", api.ErrForm)
	checkError(t, "SEQ(A a{9,9}) #", api.ErrForm)
}

func TestPredicates(t *testing.T) {
	ahead := "SEQ(A a, B b) WHERE "
	checkError(t, ahead+"z: true WITHIN 5", api.ErrNone)
	checkError(t, ahead+"A: true WITHIN 5", api.ErrNone)
	checkError(t, ahead+"a: true; z: true WITHIN 5", api.ErrNone)
	checkError(t, ahead+"a: true; a: true WITHIN 5", api.ErrTwice)
	checkError(t, ahead+"a: true; b: true; a: false WITHIN 5", api.ErrTwice)
	checkError(t, "SEQ(A a, B a) WHERE a: true; a: true WITHIN 5", api.ErrTwice)
	checkError(t, ahead+"a: 1"+strings.Repeat("+1", 32)+" WITHIN 5", api.ErrBig)
	deep := strings.Repeat("(", api.MaxDepth+1) + "1" + strings.Repeat(")", api.MaxDepth+1)
	checkError(t, ahead+"a: "+deep+" WITHIN 5", api.ErrBig)
}

// TestErrorsInOrder holds that of what is wrong the first is told, from the left on.
func TestErrorsInOrder(t *testing.T) {
	big := "1" + strings.Repeat("+1", 32)
	checkError(t, "SEQ(A a{5,5} WITHIN", api.ErrBig)
	checkError(t, "SEQ(A a{5", api.ErrBig)
	checkError(t, "SEQ(A a{1,5", api.ErrBig)
	checkError(t, "SEQ(A a B{5,5}", api.ErrForm)
	checkError(t, "SEQ(A a) WHERE z", api.ErrNone)
	checkError(t, "SEQ(A a) WHERE z a", api.ErrNone)
	checkError(t, "SEQ(A a) WHERE a: true; a", api.ErrTwice)
	checkError(t, "SEQ(A a) WHERE z: "+big, api.ErrNone)
	checkError(t, "SEQ(A a) WHERE a: true; a: "+big, api.ErrTwice)
	checkError(t, "SEQ(A a) WHERE a: "+big+"; z: true", api.ErrBig)
	checkError(t, "SEQ(A a) WHERE a: 1 +; z: true", api.ErrForm)
	checkError(t, "SEQ(A a) WHERE a: true z: true", api.ErrForm)
	checkError(t, "SEQ(A a) WHERE a: "+big, api.ErrBig)
	checkError(t, "SEQ(A a{5,5}) WHERE z: true WITHIN 5", api.ErrBig)
	checkError(t, "SEQ(A a) WHERE z: true WITHIN 4611686018427387905", api.ErrNone)
	checkError(t, "SEQ(A a) WITHIN 4611686018427387905 CAP", api.ErrBig)
	checkError(t, "SEQ(A a) WITHIN 5 CAP 1001 5", api.ErrBig)
	checkError(t, "SEQ(A a) WITHIN 5 5 CAP 1001", api.ErrForm)
}

// TestWithoutOnePiece holds that pieces that are missing, or stand twice, are missed, or too many.
func TestWithoutOnePiece(t *testing.T) {
	const s = "SEQ ( A a , ! ( B | C ) b , C c { 1 , 3 } ) WHERE a : 1 ; c : 2 WITHIN 100 CAP 50"
	words := strings.Split(s, " ")
	if l, _ := lex.Text(s); len(l) != len(words) {
		t.Fatalf("%d pieces", len(l))
	}
	for i, w := range words {
		cut := strings.Join(words[:i], " ")
		if i != len(words)-2 {
			checkError(t, cut, api.ErrForm)
		}
		checkError(t, strings.Join(slices.Insert(slices.Clone(words), i, "+"), " "), api.ErrForm)
		if w != "(" {
			checkError(t, strings.Join(slices.Insert(slices.Clone(words), i, w), " "), api.ErrForm)
		}
		if w != "!" {
			less := strings.Join(slices.Delete(slices.Clone(words), i, i+1), " ")
			if _, e := ppat.Parse(less); e == api.OK {
				t.Errorf("without %q: %q is a query", w, less)
			}
		}
	}
}

func TestIsTheCallers(t *testing.T) {
	a, _ := ppat.Parse(example)
	b, _ := ppat.Parse(example)
	a.Elems[1].Types[0] = "Z"
	a.Elems[0].Pred[0] = api.Node{}
	a.Elems[2] = api.Elem{}
	if again, _ := ppat.Parse(example); !pat.Same(b, again) {
		t.Errorf("it was changed: %v", b)
	}
}
