package lex_test

import (
	"math"
	"slices"
	"strconv"
	"strings"
	"testing"

	"lamplighter/api"
	"lamplighter/lex"
	"lamplighter/schema"
	"lamplighter/value"
)

// longName is the longest name; longText, the longest text of a value.
var (
	longName = strings.Repeat("n", api.MaxName)
	longText = strings.Repeat("u", api.MaxStr)
)

var allWords = []string{"SEQ", "WHERE", "WITHIN", "CAP", "and", "or", "not", "true", "false"}

func checkPieces(t *testing.T, s string, want ...api.Tok) {
	t.Helper()
	got, e := lex.Text(s)
	if e != api.OK || !slices.Equal(got, want) {
		t.Errorf("Text %.60q: got %v, %d; want %v", s, got, e, want)
	}
}

func checkError(t *testing.T, s string, want api.Errno) {
	t.Helper()
	got, e := lex.Text(s)
	if e != want || got != nil {
		t.Errorf("Text of %d bytes %.60q: got %v, %d; want %d", len(s), s, got, e, want)
	}
}

func name(s string, at int) api.Tok { return api.Tok{Kind: api.TokName, S: s, At: at} }

func sign(s string, at int) api.Tok { return api.Tok{Kind: api.TokSign, S: s, At: at} }

func digits(n int64, at int) api.Tok {
	return api.Tok{Kind: api.TokNum, S: strconv.FormatInt(n, 10), N: n, At: at}
}

func TestExample(t *testing.T) {
	checkPieces(t, "a.x >= 5", name("a", 0), sign(".", 1), name("x", 2), sign(">=", 4), digits(5, 7))
}

func TestWord(t *testing.T) {
	for _, s := range allWords {
		if !lex.Word(s) || schema.Name(s) {
			t.Errorf("%q is no word, or a name", s)
		}
		checkPieces(t, s, api.Tok{Kind: api.TokWord, S: s})
		if lex.Word(s+"x") || lex.Word(s[1:]) || lex.Word(s+" ") || lex.Word(" "+s) {
			t.Errorf("what is almost %q is a word", s)
		}
		checkPieces(t, s+"x", name(s+"x", 0))
	}
	for _, s := range []string{"", "a", "seq", "Seq", "AND", "OR", "True", "FALSE", "where", "null", "SEQ WHERE", longName + longName} {
		if lex.Word(s) {
			t.Errorf("%q is a word", s)
		}
	}
}

func TestPieces(t *testing.T) {
	checkPieces(t, "")
	checkPieces(t, " \t\n  ")
	checkPieces(t, " \t\na\n", name("a", 3))
	checkPieces(t, "_a1 A_9", name("_a1", 0), name("A_9", 4))
	checkPieces(t, "0", digits(0, 0))
	checkPieces(t, "0 10 100", digits(0, 0), digits(10, 2), digits(100, 5))
	checkPieces(t, "12ab", digits(12, 0), name("ab", 2))
	checkPieces(t, "ab12 3", name("ab12", 0), digits(3, 5))
	checkPieces(t, "-5", sign("-", 0), digits(5, 1))
	checkPieces(t, "a{1,3}", name("a", 0), sign("{", 1), digits(1, 2), sign(",", 3), digits(3, 4), sign("}", 5))
	checkPieces(t, "or'or'or",
		api.Tok{Kind: api.TokWord, S: "or"}, api.Tok{Kind: api.TokStr, S: "or", At: 2}, api.Tok{Kind: api.TokWord, S: "or", At: 6})
	checkPieces(t, longName+" "+longName+".", name(longName, 0), name(longName, 17), sign(".", 33))
}

func TestNumbers(t *testing.T) {
	checkPieces(t, "9223372036854775807", digits(math.MaxInt64, 0))
	checkError(t, "9223372036854775808", api.ErrBig)
	checkError(t, "-9223372036854775808", api.ErrBig)
	checkError(t, strings.Repeat("9", 400), api.ErrBig)
	// Needless noughts: these are digits, but no number's.
	checkError(t, "07", api.ErrBig)
	checkError(t, "00", api.ErrBig)
	checkError(t, "a 007 b", api.ErrBig)
}

func TestTexts(t *testing.T) {
	for _, s := range []string{"", "u", "it's", "'", "''", "a b", "#\x00\xff\u00e9\n", "SEQ", longText, strings.Repeat("'", api.MaxStr)} {
		quoted := value.Quote(s)
		checkPieces(t, quoted, api.Tok{Kind: api.TokStr, S: s})
		checkPieces(t, " "+quoted+"a", api.Tok{Kind: api.TokStr, S: s, At: 1}, name("a", 1+len(quoted)))
		checkError(t, quoted[:len(quoted)-1], api.ErrForm)
		checkError(t, "a "+quoted+"'", api.ErrForm)
	}
	checkError(t, value.Quote(longText+"u"), api.ErrBig)
	checkError(t, value.Quote(strings.Repeat("'", api.MaxStr+1)), api.ErrBig)
	// One that does not end is none, however long.
	checkError(t, "'"+longText+longText, api.ErrForm)
}

func TestSigns(t *testing.T) {
	for _, s := range []string{"!=", "<=", ">="} {
		checkPieces(t, s, sign(s, 0))
		checkPieces(t, s+"=", sign(s, 0), sign("=", 2))
		checkPieces(t, s[:1]+" =", sign(s[:1], 0), sign("=", 2))
	}
	const all = "(){},.;:|!+-*=<>/"
	for i := range len(all) {
		for j := range len(all) {
			s := all[i:i+1] + all[j:j+1]
			if s != "!=" && s != "<=" && s != ">=" {
				checkPieces(t, s, sign(s[:1], 0), sign(s[1:], 1))
			}
		}
	}
}

func TestOtherBytes(t *testing.T) {
	for i := range 256 {
		c := string([]byte{byte(i)})
		known := strings.Contains(" \t\n_(){},.;:|!+-*=<>/", c) ||
			c >= "a" && c <= "z" || c >= "A" && c <= "Z" || c >= "0" && c <= "9"
		_, e := lex.Text("a " + c)
		if known != (e == api.OK) || !known && e != api.ErrForm {
			t.Errorf("Text of a and %q: %d", c, e)
		}
	}
}

// TestErrorsInOrder holds that the first of what is wrong is told, from the left on.
func TestErrorsInOrder(t *testing.T) {
	bigs := []string{longName + "n", "99999999999999999999", value.Quote(longText + "u")}
	for _, big := range bigs {
		checkError(t, big, api.ErrBig)
		checkError(t, "a "+big+" #", api.ErrBig)
		checkError(t, "a # "+big, api.ErrForm)
		checkError(t, big+" 'a", api.ErrBig)
	}
	checkError(t, longName+"1", api.ErrBig)
	checkError(t, strings.Repeat("n", 1000), api.ErrBig)
	checkError(t, "#"+strings.Repeat(" ", api.MaxText), api.ErrBig)
	checkError(t, "#"+strings.Repeat(" ", api.MaxText-1), api.ErrForm)
}

func TestMostBytes(t *testing.T) {
	checkPieces(t, strings.Repeat(" ", api.MaxText-1)+"a", name("a", api.MaxText-1))
	checkError(t, strings.Repeat(" ", api.MaxText)+"a", api.ErrBig)
	checkError(t, strings.Repeat("\xff", 1<<20), api.ErrBig)
}

func TestMostPieces(t *testing.T) {
	for _, s := range []string{"(", "1 ", "a\n", "'' ", "<="} {
		got, e := lex.Text(strings.Repeat(s, api.MaxToks))
		if len(got) != api.MaxToks || e != api.OK {
			t.Errorf("%d pieces, %d", len(got), e)
		}
		checkError(t, strings.Repeat(s, api.MaxToks+1), api.ErrBig)
	}
	// Of pieces too many the last one is looked at first.
	checkError(t, strings.Repeat("(", api.MaxToks)+"#", api.ErrForm)
	checkError(t, strings.Repeat("(", api.MaxToks+1)+"#", api.ErrBig)
}

// written is a piece as it stands in a text.
func written(p api.Tok) string {
	if p.Kind == api.TokStr {
		return value.Quote(p.S)
	}
	return p.S
}

// TestAllShortTexts holds that pieces stand where they say, are as long as they can be, and that nothing but blanks is between them.
func TestAllShortTexts(t *testing.T) {
	list := []string{""}
	const letters = "a1'<= "
	for from := 0; len(list[from]) < 6; from++ {
		for i := range len(letters) {
			list = append(list, list[from]+letters[i:i+1])
		}
	}
	for _, s := range list {
		l, e := lex.Text(s)
		if e != api.OK {
			if l != nil {
				t.Errorf("Text %q: pieces beside an error", s)
			}
			continue
		}
		end := 0
		for i, p := range l {
			if strings.Trim(s[end:p.At], " ") != "" || !strings.HasPrefix(s[p.At:], written(p)) {
				t.Fatalf("Text %q: got %v", s, l)
			}
			if i > 0 && end == p.At && joined(l[i-1], p) {
				t.Fatalf("Text %q: %v and %v are one", s, l[i-1], p)
			}
			end = p.At + len(written(p))
		}
		if strings.Trim(s[end:], " ") != "" {
			t.Errorf("Text %q: something is left: %v", s, l)
		}
	}
}

// joined tells whether two pieces side by side should have been one.
func joined(a, b api.Tok) bool {
	if a.Kind == api.TokName {
		return b.Kind == api.TokName || b.Kind == api.TokNum
	}
	return a.Kind == b.Kind && (a.Kind != api.TokSign || a.S == "<" && b.S == "=")
}

func checkNext(t *testing.T, s *lex.Source, want api.Tok, left int) {
	t.Helper()
	if got := s.Left(); got != left {
		t.Errorf("Left: got %d, want %d", got, left)
	}
	for range 2 {
		if got := s.Peek(); got != want {
			t.Errorf("Peek: got %v, want %v", got, want)
		}
	}
}

func TestSource(t *testing.T) {
	l, _ := lex.Text("a.x and 5 'u'")
	s := lex.From(l)
	for i, want := range l {
		checkNext(t, s, want, len(l)-i)
		if got := s.Next(); got != want {
			t.Errorf("Next: got %v, want %v", got, want)
		}
	}
	checkNothing(t, s)
}

func checkNothing(t *testing.T, s *lex.Source) {
	t.Helper()
	for range 2 {
		checkNext(t, s, api.Tok{}, 0)
		if got := s.Next(); got != (api.Tok{}) {
			t.Errorf("Next: got %v", got)
		}
		if s.Is(api.TokEnd, "") || s.Is(api.TokName, "a") || s.Is(api.TokSign, "") {
			t.Error("Is: something is taken where there is nothing")
		}
	}
}

func TestSourceOfNone(t *testing.T) {
	checkNothing(t, nil)
	checkNothing(t, &lex.Source{})
	checkNothing(t, lex.From(nil))
	checkNothing(t, lex.From([]api.Tok{}))
}

func TestIs(t *testing.T) {
	l, _ := lex.Text("a and 5 'u' <= =")
	s := lex.From(l)
	kinds := []int{api.TokEnd, api.TokName, api.TokWord, api.TokNum, api.TokStr, api.TokSign, -1, 6, math.MaxInt, math.MinInt}
	texts := []string{"", "a", "and", "5", "u", "<=", "<", "=", "'u'", "A"}
	for i, want := range l {
		for _, kind := range kinds {
			for _, x := range texts {
				if (kind != want.Kind || x != want.S) && s.Is(kind, x) {
					t.Fatalf("Is %d, %q takes %v", kind, x, want)
				}
			}
		}
		checkNext(t, s, want, len(l)-i)
		if !s.Is(want.Kind, want.S) {
			t.Fatalf("Is of %v: false", want)
		}
	}
	checkNothing(t, s)
}

// TestOddPieces holds that a source tells what was handed in, whatever it is.
func TestOddPieces(t *testing.T) {
	odd := api.Tok{Kind: -3, S: "#", N: math.MinInt64, At: -1}
	s := lex.From([]api.Tok{{}, odd})
	checkNext(t, s, api.Tok{}, 2)
	if !s.Is(api.TokEnd, "") {
		t.Error("Is: a piece of nothing is not taken")
	}
	if got := s.Next(); got != odd {
		t.Errorf("Next: got %v", got)
	}
	checkNothing(t, s)
}

// TestIsTheCallers holds that what is handed in may be changed later, and is not changed, and that sources have nothing to do with one another.
func TestIsTheCallers(t *testing.T) {
	l, _ := lex.Text("a b")
	was := slices.Clone(l)
	a, b := lex.From(l), lex.From(l)
	a.Next()
	if !slices.Equal(l, was) {
		t.Errorf("what was handed in was changed: %v", l)
	}
	l[0], l[1] = sign("#", 9), sign("#", 9)
	checkNext(t, a, was[1], 1)
	checkNext(t, b, was[0], 2)
	again, _ := lex.Text("a b")
	if !slices.Equal(again, was) {
		t.Errorf("what was answered was changed: %v", again)
	}
}
