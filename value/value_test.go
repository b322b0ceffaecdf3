package value_test

import (
	"math"
	"strings"
	"testing"

	"lamplighter/api"
	"lamplighter/value"
)

// kinds are numbers of kinds that there are, and of those next to them, that there are not.
var kinds = []int{math.MinInt, -1, 0, api.Int, api.Str, api.Bool, api.Bool + 1, math.MaxInt}

func isKind(kind int) bool { return kind == api.Int || kind == api.Str || kind == api.Bool }

// longest is the longest text that a value may have.
var longest = strings.Repeat("x", api.MaxStr)

// rising are numbers, texts and truths, each list from the least to the greatest.
var (
	risingNums  = []int64{math.MinInt64, math.MinInt64 + 1, -1 << 32, -2, -1, 0, 1, 2, 1 << 32, math.MaxInt64 - 1, math.MaxInt64}
	risingTexts = []string{"", "\x00", "\x00\x00", " ", "'", "A", "AB", "B", "a", "a'", "aa", "ab", "b", "\x7f", "\x80", "\xc3\xa9", "\xff", "\xff\x00", "\xff\xff"}
	risingTruth = []bool{false, true}
)

// rising are values of each kind that may be, each list from the least to the greatest.
func rising() [][]api.Value {
	l := make([][]api.Value, 3)
	for _, n := range risingNums {
		l[0] = append(l[0], value.Num(n))
	}
	for _, s := range risingTexts {
		l[1] = append(l[1], value.Text(s))
	}
	for _, b := range risingTruth {
		l[2] = append(l[2], value.Truth(b))
	}
	return l
}

// shortTexts are all texts of some letters, so many at most.
func shortTexts(letters string, most int) []string {
	list := []string{""}
	for from := 0; len(list[from]) < most; from++ {
		for i := range len(letters) {
			list = append(list, list[from]+letters[i:i+1])
		}
	}
	return list
}

func TestMakers(t *testing.T) {
	for _, n := range risingNums {
		if got := value.Num(n); got != (api.Value{Kind: api.Int, I: n}) {
			t.Errorf("Num %d: got %v", n, got)
		}
	}
	for _, s := range append(risingTexts, longest, longest+"x", strings.Repeat("y", 1000)) {
		if got := value.Text(s); got != (api.Value{Kind: api.Str, S: s}) {
			t.Errorf("Text %q: got %v", s, got)
		}
	}
	for _, b := range risingTruth {
		if got := value.Truth(b); got != (api.Value{Kind: api.Bool, B: b}) {
			t.Errorf("Truth %v: got %v", b, got)
		}
	}
}

func TestMay(t *testing.T) {
	for _, l := range rising() {
		for _, v := range l {
			if !value.May(v) {
				t.Errorf("May %v: false", v)
			}
		}
	}
}

// TestMayOfAnotherKind holds that a value has what its kind has, and nothing else.
func TestMayOfAnotherKind(t *testing.T) {
	for _, kind := range kinds {
		for _, n := range []int64{0, 1, -1, math.MinInt64} {
			for _, s := range []string{"", "x", "\x00", longest} {
				for _, b := range risingTruth {
					v := api.Value{Kind: kind, I: n, S: s, B: b}
					want := kind == api.Int && s == "" && !b || kind == api.Str && n == 0 && !b || kind == api.Bool && n == 0 && s == ""
					if got := value.May(v); got != want {
						t.Errorf("May %v: got %v", v, got)
					}
				}
			}
		}
	}
}

// TestMayOfLongTexts holds that bytes are counted, and not letters.
func TestMayOfLongTexts(t *testing.T) {
	cases := []struct {
		s    string
		want bool
	}{
		{longest[1:], true},
		{longest, true},
		{longest + "x", false},
		{strings.Repeat("x", 1<<20), false},
		{strings.Repeat("\u00e9", api.MaxStr/2), true},
		{strings.Repeat("\u00e9", api.MaxStr/2) + "x", false},
		{strings.Repeat("\u00e9", api.MaxStr/2+1), false},
		{strings.Repeat("'", api.MaxStr), true},
		{strings.Repeat("'", api.MaxStr+1), false},
		{strings.Repeat("\x00", api.MaxStr), true},
	}
	for _, c := range cases {
		if got := value.May(value.Text(c.s)); got != c.want {
			t.Errorf("May of a text of %d bytes: got %v", len(c.s), got)
		}
	}
}

func checkCompare(t *testing.T, a, b api.Value, want int, wantOK bool) {
	t.Helper()
	if got, ok := value.Compare(a, b); got != want || ok != wantOK {
		t.Errorf("Compare %v %v: got %d, %v; want %d, %v", a, b, got, ok, want, wantOK)
	}
}

func TestCompare(t *testing.T) {
	for _, l := range rising() {
		for i, a := range l {
			for j, b := range l {
				want := 0
				if i < j {
					want = -1
				} else if i > j {
					want = 1
				}
				checkCompare(t, a, b, want, true)
			}
		}
	}
	checkCompare(t, value.Text(longest+"x"), value.Text(longest+"y"), -1, true)
	checkCompare(t, value.Text(longest+"x"), value.Text(longest), 1, true)
}

func TestCompareOfTwoKinds(t *testing.T) {
	for _, a := range kinds {
		for _, b := range kinds {
			same := a == b && isKind(a)
			checkCompare(t, api.Value{Kind: a}, api.Value{Kind: b}, 0, same)
			if !same {
				checkCompare(t, api.Value{Kind: a, I: 1, S: "a", B: true}, api.Value{Kind: b, I: 2, S: "b"}, 0, false)
			}
		}
	}
}

// TestCompareByKind holds that only what a kind has is compared.
func TestCompareByKind(t *testing.T) {
	low := api.Value{I: 1, S: "b", B: true}
	high := api.Value{I: 2, S: "a", B: true}
	for kind, want := range map[int]int{api.Int: -1, api.Str: 1, api.Bool: 0} {
		low.Kind, high.Kind = kind, kind
		checkCompare(t, low, high, want, true)
	}
}

// quoted are texts and their Quotes.
var quoted = []struct{ text, quote string }{
	{"", "''"},
	{"a", "'a'"},
	{"it's", "'it''s'"},
	{"'", "''''"},
	{"''", "''''''"},
	{"'a", "'''a'"},
	{"a'", "'a'''"},
	{"'a'", "'''a'''"},
	{"a''b", "'a''''b'"},
	{" ", "' '"},
	{"\n\t", "'\n\t'"},
	{"\x00\xff", "'\x00\xff'"},
	{"\\", "'\\'"},
	{`"`, `'"'`},
	{"\u00e9'\u00e9", "'\u00e9''\u00e9'"},
	{"\u2019", "'\u2019'"},
	{"true", "'true'"},
	{"7", "'7'"},
}

func TestQuote(t *testing.T) {
	for _, c := range quoted {
		if got := value.Quote(c.text); got != c.quote {
			t.Errorf("Quote %q: got %q, want %q", c.text, got, c.quote)
		}
		if got, ok := value.Unquote(c.quote); got != c.text || !ok {
			t.Errorf("Unquote %q: got %q, %v", c.quote, got, ok)
		}
	}
}

func TestUnquoteOfNone(t *testing.T) {
	none := []string{
		"", "'", "'''", "'''''", "a", "ab", "'a", "a'", "a'b'", "'a'b", "'a'b'", "''a", "a''", "''a'", "'a''", "'''a", "'a''b", "'a'''b'",
		" ''", "'' ", "\"a\"", "`a`", "'a\"", "\u2019a\u2019", "\x00'a'", "'a'\x00", "7", "true", "?",
	}
	for _, s := range none {
		if got, ok := value.Unquote(s); got != "" || ok {
			t.Errorf("Unquote %q: got %q, %v", s, got, ok)
		}
	}
}

// TestUnquoteIsQuote holds over all short texts: Unquote takes just those that are Quotes.
func TestUnquoteIsQuote(t *testing.T) {
	texts := map[string]string{}
	for _, s := range shortTexts("'a ", 7) {
		texts[value.Quote(s)] = s
	}
	for _, s := range shortTexts("'a ", 9) {
		want, wantOK := texts[s]
		if got, ok := value.Unquote(s); got != want || ok != wantOK {
			t.Errorf("Unquote %q: got %q, %v; want %q, %v", s, got, ok, want, wantOK)
		}
	}
}

func TestUnquoteOfLongTexts(t *testing.T) {
	for _, s := range []string{strings.Repeat("'", 1<<20), strings.Repeat("a", 1<<20)} {
		if got, ok := value.Unquote(value.Quote(s)); got != s || !ok {
			t.Errorf("a text of %d bytes does not come back", len(s))
		}
		if got, ok := value.Unquote("'" + value.Quote(s)); got != "" || ok {
			t.Errorf("a text of %d bytes behind a ': got %d bytes, %v", len(s), len(got), ok)
		}
	}
}

// shown are values that may be, and their texts.
var shown = []struct {
	v    api.Value
	text string
}{
	{value.Num(0), "0"},
	{value.Num(7), "7"},
	{value.Num(-7), "-7"},
	{value.Num(-120), "-120"},
	{value.Num(math.MaxInt64), "9223372036854775807"},
	{value.Num(math.MinInt64), "-9223372036854775808"},
	{value.Text(""), "''"},
	{value.Text("it's"), "'it''s'"},
	{value.Text("true"), "'true'"},
	{value.Text("7"), "'7'"},
	{value.Text("?"), "'?'"},
	{value.Text("\x00\xff"), "'\x00\xff'"},
	{value.Text(longest), "'" + longest + "'"},
	{value.Text(strings.Repeat("'", api.MaxStr)), strings.Repeat("'", 2*api.MaxStr+2)},
	{value.Truth(true), "true"},
	{value.Truth(false), "false"},
}

func TestShow(t *testing.T) {
	for _, c := range shown {
		if got := value.Show(c.v); got != c.text {
			t.Errorf("Show %v: got %q, want %q", c.v, got, c.text)
		}
		if got, ok := value.Parse(c.text); got != c.v || !ok {
			t.Errorf("Parse %q: got %v, %v", c.text, got, ok)
		}
	}
}

// TestShowOfWhatMayNotBe holds that what is shown hangs on the kind alone.
func TestShowOfWhatMayNotBe(t *testing.T) {
	texts := map[int]string{api.Int: "5", api.Str: "'x'", api.Bool: "true"}
	for _, kind := range kinds {
		want := texts[kind]
		if !isKind(kind) {
			want = "?"
		}
		if got := value.Show(api.Value{Kind: kind, I: 5, S: "x", B: true}); got != want {
			t.Errorf("Show of kind %d: got %q", kind, got)
		}
	}
	if got := value.Show(value.Text(longest + "x")); got != "'"+longest+"x'" {
		t.Errorf("Show of a long text: got %q", got)
	}
}

func TestThereAndBack(t *testing.T) {
	for _, l := range rising() {
		for _, v := range l {
			if got, ok := value.Parse(value.Show(v)); got != v || !ok {
				t.Errorf("Parse of Show %v: got %v, %v", v, got, ok)
			}
		}
	}
}

func TestParseOfNone(t *testing.T) {
	none := []string{
		"", "?", "x", " ", "-", "'", "'''", "'a", "a'", "'a'b'",
		"True", "TRUE", "False", "tru", "truee", "true ", " true", "true\n", "t", "f", "truefalse", "not",
		"07", "-0", "+1", "1.0", "1 ", " 1", "1e3", "0x1", "9223372036854775808", "-9223372036854775809",
		"'" + longest + "x'", "'" + strings.Repeat("'", 2*api.MaxStr+2) + "'",
		value.Quote(strings.Repeat("\u00e9", api.MaxStr/2+1)), value.Quote(strings.Repeat("x", 1<<20)),
	}
	for _, s := range none {
		if got, ok := value.Parse(s); got != (api.Value{}) || ok {
			t.Errorf("Parse of %d bytes %.70q: got %v, %v", len(s), s, got, ok)
		}
	}
}

// TestParseIsShow holds over all short texts: what is parsed may be, and is just what its Show is.
func TestParseIsShow(t *testing.T) {
	taken := 0
	for _, s := range shortTexts("'-01a?", 5) {
		v, ok := value.Parse(s)
		if !ok && v != (api.Value{}) {
			t.Errorf("Parse %q: false, and %v", s, v)
		}
		if ok && (!value.May(v) || value.Show(v) != s) {
			t.Errorf("Parse %q: got %v, which shows %q", s, v, value.Show(v))
		}
		if ok {
			taken++
		}
	}
	// Nothing that may be taken is left out, either: numbers of the digits 0 and 1, and texts between two marks.
	if want := countNumbers(5) + countQuotes(3); taken != want {
		t.Errorf("Parse took %d short texts, want %d", taken, want)
	}
}

// countNumbers is how many numbers' texts of the digits 0 and 1 have so many bytes at most.
func countNumbers(most int) int {
	count := 1
	for digits := 1; digits <= most; digits++ {
		count += 1 << (digits - 1)
		if digits < most {
			count += 1 << (digits - 1)
		}
	}
	return count
}

// countQuotes is how many texts of ' (which stands twice) and five other letters fill so many bytes at most.
func countQuotes(most int) int {
	exact := []int{1, 5}
	sum := 6
	for long := 2; long <= most; long++ {
		exact = append(exact, 5*exact[long-1]+exact[long-2])
		sum += exact[long]
	}
	return sum
}
