package text_test

import (
	"math"
	"slices"
	"strings"
	"testing"

	"lamplighter/api"
	"lamplighter/text"
)

// classes are all classes, and the bytes of each; those of none of these are bad.
var classes = []struct {
	class int
	bytes string
}{
	{api.ClassBlank, " \t\n"},
	{api.ClassLetter, "abcdefghijklmnopqrstuvwxyzABCDEFGHIJKLMNOPQRSTUVWXYZ_"},
	{api.ClassDigit, "0123456789"},
	{api.ClassQuote, "'"},
	{api.ClassSign, "(){},.;:|!+-*=<>/"},
}

func classOf(c byte) int {
	for _, x := range classes {
		if strings.IndexByte(x.bytes, c) >= 0 {
			return x.class
		}
	}
	return api.ClassBad
}

// checkAt holds where a reader is, in a text.
func checkAt(t *testing.T, r *text.Reader, s string, at int) {
	t.Helper()
	class := api.ClassEnd
	if at < len(s) {
		class = classOf(s[at])
	}
	if r.At() != at || r.Left() != len(s)-at || r.Class() != class {
		t.Errorf("in %q: at %d, %d left, class %d; want at %d, class %d", s, r.At(), r.Left(), r.Class(), at, class)
	}
}

// shortTexts are all texts of some letters, so many at most.
func shortTexts(letters string, most int) []string {
	list := []string{""}
	for from := 0; len(list[from]) < most; from++ {
		for i := range len(letters) {
			list = append(list, list[from]+letters[i:i+1])
		}
	}
	return list
}

func TestExample(t *testing.T) {
	if got := text.New("ab1").Run(api.ClassLetter); got != "ab" {
		t.Errorf("got %q", got)
	}
}

func TestClass(t *testing.T) {
	for i := range 256 {
		c := byte(i)
		if got := text.Class(c); got != classOf(c) {
			t.Errorf("Class %q: got %d", c, got)
		}
		checkAt(t, text.New(string([]byte{c})), string([]byte{c}), 0)
	}
}

func TestByte(t *testing.T) {
	s := "aB_1 '\n(\r\x00\xff\u00e9"
	r := text.New(s)
	for i := range len(s) {
		checkAt(t, r, s, i)
		if got := r.Byte(); got != s[i] {
			t.Errorf("Byte at %d: got %q", i, got)
		}
	}
	for range 3 {
		checkAt(t, r, s, len(s))
		if got := r.Byte(); got != 0 {
			t.Errorf("Byte at the end: got %q", got)
		}
	}
}

func TestRun(t *testing.T) {
	cases := []struct {
		s       string
		classes []int
		want    string
	}{
		{"ab1", []int{api.ClassLetter}, "ab"},
		{"ab1 c", []int{api.ClassLetter, api.ClassDigit}, "ab1"},
		{"ab1 c", []int{api.ClassDigit, api.ClassLetter}, "ab1"},
		{"ab1 c", []int{api.ClassDigit, api.ClassDigit, api.ClassBlank}, ""},
		{"ab1 c", []int{api.ClassBlank, api.ClassLetter, api.ClassDigit}, "ab1 c"},
		{"ab1", nil, ""},
		{"ab1", []int{api.ClassEnd}, ""},
		{"ab1", []int{api.ClassEnd, -1, 7, math.MaxInt, math.MinInt}, ""},
		{"\x00", []int{api.ClassEnd}, ""},
		{"", []int{api.ClassLetter}, ""},
		{"", []int{api.ClassEnd}, ""},
		{"", nil, ""},
		{" \t\n \rx", []int{api.ClassBlank}, " \t\n "},
		{"_a_Z9", []int{api.ClassLetter}, "_a_Z"},
		{"0123456789a", []int{api.ClassDigit}, "0123456789"},
		{"(){},.;:|!+-*=<>/'", []int{api.ClassSign}, "(){},.;:|!+-*=<>/"},
		{"''''a", []int{api.ClassQuote}, "''''"},
		{"#\r\x00\u00e9a", []int{api.ClassBad}, "#\r\x00\u00e9"},
		{"a\x00\xff 1'+", []int{0, 1, 2, 3, 4, 5, 6}, "a\x00\xff 1'+"},
	}
	for _, c := range cases {
		r := text.New(c.s)
		was := slices.Clone(c.classes)
		if got := r.Run(c.classes...); got != c.want {
			t.Errorf("Run %v on %q: got %q", c.classes, c.s, got)
		}
		checkAt(t, r, c.s, len(c.want))
		if got := r.Run(c.classes...); got != "" {
			t.Errorf("Run %v on %q, again: got %q", c.classes, c.s, got)
		}
		checkAt(t, r, c.s, len(c.want))
		if !slices.Equal(c.classes, was) {
			t.Errorf("what was handed in was changed: %v", c.classes)
		}
	}
}

// TestRuns holds that runs of one class each, one behind the other, are the whole text.
func TestRuns(t *testing.T) {
	for _, s := range shortTexts("a1 '+#", 5) {
		r := text.New(s)
		taken := ""
		for r.Left() > 0 {
			class := r.Class()
			piece := r.Run(class)
			if piece == "" {
				t.Fatalf("in %q nothing is taken at %d", s, r.At())
			}
			for i := range len(piece) {
				if classOf(piece[i]) != class {
					t.Errorf("in %q a run of %d is %q", s, class, piece)
				}
			}
			taken += piece
			checkAt(t, r, s, len(taken))
			if r.Class() == class {
				t.Errorf("in %q a run ends ahead of one of its class, at %d", s, r.At())
			}
		}
		if taken != s {
			t.Errorf("of %q got %q", s, taken)
		}
	}
}

func TestTwo(t *testing.T) {
	cases := []struct {
		s, two string
		want   bool
	}{
		{"<=5", "<=", true},
		{"<=", "<=", true},
		{"<", "<=", false},
		{"=<", "<=", false},
		{"<<=", "<=", false},
		{" <=", "<=", false},
		{"", "<=", false},
		{"ab", "ab", true},
		{"\x00\xff", "\x00\xff", true},
		{"\u00e9", "\u00e9", true},
		{"''", "''", true},
		{"abc", "", false},
		{"abc", "a", false},
		{"abc", "abc", false},
		{"abcd", "abcd", false},
		{"", "", false},
		{"a", "a", false},
	}
	for _, c := range cases {
		r := text.New(c.s)
		if got := r.Two(c.two); got != c.want {
			t.Errorf("Two %q on %q: got %v", c.two, c.s, got)
		}
		at := 0
		if c.want {
			at = 2
		}
		checkAt(t, r, c.s, at)
	}
	r := text.New("abab!")
	if !r.Two("ab") || !r.Two("ab") || r.Two("ab") || r.Two("!\x00") {
		t.Error("Two, again and again")
	}
	checkAt(t, r, "abab!", 4)
}

// quotedLen is how long a beginning between ' is: it ends with the first marks side by side, of which there is an odd number.
func quotedLen(s string) int {
	if !strings.HasPrefix(s, "'") {
		return 0
	}
	for at := 1; at < len(s); {
		marks := len(s[at:]) - len(strings.TrimLeft(s[at:], "'"))
		if marks%2 == 1 {
			return at + marks
		}
		at += marks
		if next := strings.IndexByte(s[at:], '\''); next < 0 {
			return 0
		} else {
			at += next
		}
	}
	return 0
}

func checkQuoted(t *testing.T, s string, long int) {
	t.Helper()
	r := text.New(s)
	if got, ok := r.Quoted(); got != s[:long] || ok != (long > 0) {
		t.Errorf("Quoted on %.40q: got %.40q, %v; want %d bytes", s, got, ok, long)
	}
	checkAt(t, r, s, long)
}

func TestQuoted(t *testing.T) {
	cases := []struct {
		s    string
		long int
	}{
		{"'a'", 3},
		{"'a' b", 3},
		{"''", 2},
		{"'' '", 2},
		{"'it''s' x", 7},
		{"''''", 4},
		{"''''''", 6},
		{"'''a'", 5},
		{"'a'''", 5},
		{"'a''''b'x", 8},
		{"'a'b'c'", 3},
		{"'\n\x00\xff\u00e9\"'", 8},
		{"'a' 'b'", 3},
		{"", 0},
		{"'", 0},
		{"'''", 0},
		{"'''''", 0},
		{"'a", 0},
		{"'a''", 0},
		{"'a''b", 0},
		{"''' '", 5},
		{"a", 0},
		{"a'b'", 0},
		{" 'a'", 0},
		{"\"a\"", 0},
		{"\x00'a'", 0},
		{"'" + strings.Repeat("a", 1<<20) + "'", 1<<20 + 2},
		{strings.Repeat("'", 1<<20), 1 << 20},
		{strings.Repeat("'", 1<<20+1), 0},
		{"'" + strings.Repeat("a", 1<<20), 0},
	}
	for _, c := range cases {
		if got := quotedLen(c.s); got != c.long {
			t.Errorf("the test's own rule tells %d of %.40q", got, c.s)
		}
		checkQuoted(t, c.s, c.long)
	}
}

// TestQuotedOfAll holds all short texts against the test's own rule.
func TestQuotedOfAll(t *testing.T) {
	for _, s := range shortTexts("'a ", 9) {
		checkQuoted(t, s, quotedLen(s))
	}
}

// TestQuotedInside holds that it goes on from where it is, and that a text that does not end leaves it there.
func TestQuotedInside(t *testing.T) {
	s := "a'b''c''d'''e'"
	r := text.New(s)
	r.Byte()
	if got, ok := r.Quoted(); got != "'b''c''d'''" || !ok {
		t.Errorf("got %q, %v", got, ok)
	}
	checkAt(t, r, s, 12)
	if got, ok := r.Quoted(); got != "" || ok {
		t.Errorf("got %q, %v", got, ok)
	}
	checkAt(t, r, s, 12)
	if got := r.Byte(); got != 'e' {
		t.Errorf("got %q", got)
	}
	for range 2 {
		if got, ok := r.Quoted(); got != "" || ok {
			t.Errorf("got %q, %v", got, ok)
		}
		checkAt(t, r, s, 13)
	}
	if got := r.Run(api.ClassQuote); got != "'" {
		t.Errorf("got %q", got)
	}
	checkAt(t, r, s, 14)
}

func TestAllTogether(t *testing.T) {
	s := "a.x>=5 'it''s'#"
	r := text.New(s)
	var pieces []string
	take := func(piece string) { pieces = append(pieces, piece) }
	take(r.Run(api.ClassLetter, api.ClassDigit))
	take(string(r.Byte()))
	take(r.Run(api.ClassLetter))
	if !r.Two(">=") {
		t.Error("no >=")
	}
	take(r.Run(api.ClassDigit))
	take(r.Run(api.ClassBlank))
	quoted, _ := r.Quoted()
	take(quoted)
	take(r.Run(api.ClassBad))
	if want := []string{"a", ".", "x", "5", " ", "'it''s'", "#"}; !slices.Equal(pieces, want) {
		t.Errorf("got %q", pieces)
	}
	checkAt(t, r, s, len(s))
}

func checkNothing(t *testing.T, r *text.Reader) {
	t.Helper()
	for range 2 {
		checkAt(t, r, "", 0)
		if got := r.Run(api.ClassLetter, api.ClassEnd); got != "" {
			t.Errorf("Run: got %q", got)
		}
		if got := r.Byte(); got != 0 {
			t.Errorf("Byte: got %q", got)
		}
		if r.Two("") || r.Two("ab") {
			t.Error("Two: true")
		}
		if got, ok := r.Quoted(); got != "" || ok {
			t.Errorf("Quoted: got %q, %v", got, ok)
		}
	}
}

func TestOfNone(t *testing.T) {
	checkNothing(t, nil)
	checkNothing(t, &text.Reader{})
	checkNothing(t, text.New(""))
}

// TestTwoReaders holds that none has to do with another one.
func TestTwoReaders(t *testing.T) {
	a, b := text.New("abc"), text.New("abc")
	a.Run(api.ClassLetter)
	checkAt(t, a, "abc", 3)
	checkAt(t, b, "abc", 0)
}
