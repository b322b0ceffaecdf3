package num_test

import (
	"math"
	"math/big"
	"strconv"
	"testing"

	"lamplighter/api"
	"lamplighter/num"
)

const (
	least    = math.MinInt64
	greatest = math.MaxInt64
)

// corners are ordinary numbers and those where something turns: signs, roots of the bounds, times, powers of ten, the bounds themselves.
func corners() []int64 {
	l := []int64{
		0, 1, 2, 3, 5, 7, 9, 10, 11, 99, 100, 101, 12345,
		1<<31 - 1, 1 << 31, 1<<32 - 1, 1 << 32, 1<<32 + 1,
		3037000499, 3037000500,
		api.MaxTime - 1, api.MaxTime, api.MaxTime + 1,
		greatest / 10, greatest/10 + 1, greatest / 3, greatest / 2, greatest/2 + 1,
		1<<62 - 1, 1 << 62, 1<<62 + 1, greatest - 1, greatest,
	}
	for power := int64(1); power <= greatest/10; power *= 10 {
		l = append(l, power-1, power, power*10-1, power*10)
	}
	for _, n := range l[:len(l):len(l)] {
		l = append(l, -n)
	}
	return append(l, least, least+1, least+2, least/2, least/2-1, least/10)
}

// exact is what comes without a bound, held to the bounds of 64 bits.
func exact(n *big.Int) (int64, bool) {
	if !n.IsInt64() {
		return 0, false
	}
	return n.Int64(), true
}

func checkNumber(t *testing.T, what string, got int64, ok bool, want int64, wantOK bool) {
	t.Helper()
	if got != want || ok != wantOK {
		t.Errorf("%s: got %d, %v; want %d, %v", what, got, ok, want, wantOK)
	}
}

type pairCase struct {
	a, b, want int64
	ok         bool
}

func checkPairs(t *testing.T, name string, f func(a, b int64) (int64, bool), cases []pairCase) {
	t.Helper()
	for _, c := range cases {
		got, ok := f(c.a, c.b)
		checkNumber(t, name+" "+strconv.FormatInt(c.a, 10)+" "+strconv.FormatInt(c.b, 10), got, ok, c.want, c.ok)
	}
}

func TestAdd(t *testing.T) {
	checkPairs(t, "Add", num.Add, []pairCase{
		{2, 3, 5, true},
		{-2, 3, 1, true},
		{-2, -3, -5, true},
		{0, 0, 0, true},
		{greatest, 0, greatest, true},
		{greatest - 1, 1, greatest, true},
		{greatest, 1, 0, false},
		{1, greatest, 0, false},
		{greatest, greatest, 0, false},
		{least, 0, least, true},
		{least + 1, -1, least, true},
		{least, -1, 0, false},
		{-1, least, 0, false},
		{least, least, 0, false},
		{least, greatest, -1, true},
		{greatest, least, -1, true},
	})
}

func TestSub(t *testing.T) {
	checkPairs(t, "Sub", num.Sub, []pairCase{
		{2, 3, -1, true},
		{3, 2, 1, true},
		{-2, -3, 1, true},
		{0, 0, 0, true},
		{greatest, 0, greatest, true},
		{greatest - 1, -1, greatest, true},
		{greatest, -1, 0, false},
		{0, greatest, -greatest, true},
		{least, 0, least, true},
		{least + 1, 1, least, true},
		{least, 1, 0, false},
		{-1, greatest, least, true},
		{-2, greatest, 0, false},
		{0, least, 0, false},
		{-1, least, greatest, true},
		{least, least, 0, true},
		{greatest, greatest, 0, true},
		{greatest, least, 0, false},
		{least, greatest, 0, false},
	})
}

func TestMul(t *testing.T) {
	checkPairs(t, "Mul", num.Mul, []pairCase{
		{2, 3, 6, true},
		{-2, 3, -6, true},
		{2, -3, -6, true},
		{-2, -3, 6, true},
		{0, 0, 0, true},
		{0, greatest, 0, true},
		{0, least, 0, true},
		{least, 0, 0, true},
		{greatest, 1, greatest, true},
		{greatest, -1, -greatest, true},
		{least, 1, least, true},
		{1, least, least, true},
		{least, -1, 0, false},
		{-1, least, 0, false},
		{1 << 62, 2, 0, false},
		{1 << 62, -2, least, true},
		{-1 << 62, 2, least, true},
		{-1 << 62, -2, 0, false},
		{1 << 62, 4, 0, false},
		{1 << 32, 1 << 32, 0, false},
		{1 << 31, 1 << 32, 0, false},
		{-1 << 31, 1 << 32, least, true},
		{3037000499, 3037000499, 9223372030926249001, true},
		{3037000500, 3037000500, 0, false},
		{greatest, greatest, 0, false},
		{least, least, 0, false},
		{least, greatest, 0, false},
		{greatest / 7, 7, greatest, true},
		{greatest / 7, -7, -greatest, true},
		{greatest/7 + 1, 7, 0, false},
		{greatest/7 + 1, -7, 0, false},
	})
}

func TestNeg(t *testing.T) {
	cases := []struct {
		a, want int64
		ok      bool
	}{
		{0, 0, true},
		{1, -1, true},
		{-1, 1, true},
		{120, -120, true},
		{greatest, -greatest, true},
		{least + 1, greatest, true},
		{least, 0, false},
	}
	for _, c := range cases {
		got, ok := num.Neg(c.a)
		checkNumber(t, "Neg "+strconv.FormatInt(c.a, 10), got, ok, c.want, c.ok)
	}
}

// TestExact holds all that is reckoned against numbers without bounds.
func TestExact(t *testing.T) {
	ways := []struct {
		name  string
		got   func(a, b int64) (int64, bool)
		exact func(z, a, b *big.Int) *big.Int
	}{
		{"Add", num.Add, (*big.Int).Add},
		{"Sub", num.Sub, (*big.Int).Sub},
		{"Mul", num.Mul, (*big.Int).Mul},
	}
	for _, a := range corners() {
		for _, b := range corners() {
			for _, way := range ways {
				want, wantOK := exact(way.exact(new(big.Int), big.NewInt(a), big.NewInt(b)))
				got, ok := way.got(a, b)
				if got != want || ok != wantOK {
					t.Fatalf("%s %d %d: got %d, %v; want %d, %v", way.name, a, b, got, ok, want, wantOK)
				}
			}
		}
		want, wantOK := exact(new(big.Int).Neg(big.NewInt(a)))
		got, ok := num.Neg(a)
		checkNumber(t, "Neg "+strconv.FormatInt(a, 10), got, ok, want, wantOK)
	}
}

func TestTime(t *testing.T) {
	cases := []struct {
		t    int64
		want bool
	}{
		{least, false},
		{-2, false},
		{-1, false},
		{0, true},
		{1, true},
		{1 << 32, true},
		{api.MaxTime - 1, true},
		{api.MaxTime, true},
		{api.MaxTime + 1, false},
		{greatest, false},
	}
	for _, c := range cases {
		if got := num.Time(c.t); got != c.want {
			t.Errorf("Time %d: got %v", c.t, got)
		}
	}
}

func TestWithin(t *testing.T) {
	cases := []struct {
		from, to, most int64
		want           bool
	}{
		{3, 8, 5, true},
		{3, 9, 5, false},
		{3, 7, 5, true},
		{3, 3, 0, true},
		{3, 4, 0, false},
		{3, 3, -1, false},
		{3, 3, least, false},
		{3, 2, -1, false},
		{3, 2, 5, false},
		{3, 2, greatest, false},
		{8, 3, 5, false},
		{api.MaxTime, 0, greatest, false},
		{0, 0, 0, true},
		{0, api.MaxTime, api.MaxTime, true},
		{0, api.MaxTime, greatest, true},
		{0, api.MaxTime, api.MaxTime - 1, false},
		{1, api.MaxTime, api.MaxTime - 1, true},
		{api.MaxTime, api.MaxTime, 0, true},
		{-1, 0, 5, false},
		{-1, -1, 5, false},
		{-2, -1, 5, false},
		{least, 0, greatest, false},
		{least, greatest, greatest, false},
		{least, least, 0, false},
		{0, api.MaxTime + 1, greatest, false},
		{api.MaxTime, api.MaxTime + 1, 5, false},
		{api.MaxTime + 1, api.MaxTime + 1, 5, false},
		{api.MaxTime + 1, api.MaxTime, 5, false},
		{0, greatest, greatest, false},
		{greatest, greatest, 0, false},
	}
	for _, c := range cases {
		if got := num.Within(c.from, c.to, c.most); got != c.want {
			t.Errorf("Within %d %d %d: got %v", c.from, c.to, c.most, got)
		}
	}
}

// texts are numbers and the texts that are theirs.
var texts = []struct {
	n    int64
	text string
}{
	{0, "0"},
	{1, "1"},
	{-1, "-1"},
	{7, "7"},
	{-7, "-7"},
	{9, "9"},
	{10, "10"},
	{-10, "-10"},
	{100, "100"},
	{-120, "-120"},
	{1000000, "1000000"},
	{api.MaxTime, "1099511627776"},
	{1000000000000000000, "1000000000000000000"},
	{999999999999999999, "999999999999999999"},
	{greatest - 1, "9223372036854775806"},
	{greatest, "9223372036854775807"},
	{least + 1, "-9223372036854775807"},
	{least, "-9223372036854775808"},
}

func TestDigits(t *testing.T) {
	for _, c := range texts {
		if got := num.Digits(c.n); got != c.text {
			t.Errorf("Digits %d: got %q", c.n, got)
		}
	}
}

func TestParse(t *testing.T) {
	for _, c := range texts {
		got, ok := num.Parse(c.text)
		checkNumber(t, "Parse "+c.text, got, ok, c.n, true)
	}
}

func TestThereAndBack(t *testing.T) {
	for _, n := range corners() {
		text := num.Digits(n)
		if want := strconv.FormatInt(n, 10); text != want {
			t.Errorf("Digits: got %q, want %q", text, want)
		}
		got, ok := num.Parse(text)
		checkNumber(t, "Parse "+text, got, ok, n, true)
	}
}

func TestParseOfNone(t *testing.T) {
	none := []string{
		"", "-", "+", "--", "+-", "-+",
		"07", "-07", "00", "-00", "007", "000", "-0", "+0", "+1", "+7",
		"--1", "-+1", "1-", "1-1", "1+1", "- 1", "-1-",
		" ", " 1", "1 ", "1 2", "\t1", "1\n", "\n", "-1 ", " -1",
		"a", "1a", "a1", "0x1", "0b1", "1e3", "1_000", "1,000", "1.0", ".5", "1.", "inf", "true",
		"/", ":", "1/", "1:", "/1", ":1", "-/", "-:",
		"\x00", "1\x00", "\x001", "\xff", "1\xff", "\xb1", "\u0661", "\uff11", "1\u0660", "\u22121",
		"9223372036854775808", "-9223372036854775809",
		"9223372036854775810", "-9223372036854775810",
		"9999999999999999999", "-9999999999999999999",
		"10000000000000000000", "-10000000000000000000",
		"18446744073709551615", "18446744073709551616", "18446744073709551617",
		"-18446744073709551616", "-18446744073709551617",
		"36893488147419103232", "340282366920938463463374607431768211456",
		"00000000000000000001", "-00000000000000000001",
		"09223372036854775807", "-09223372036854775808",
		"9223372036854775807 ", "9223372036854775807a",
	}
	for _, s := range none {
		if n, ok := num.Parse(s); n != 0 || ok {
			t.Errorf("Parse %q: got %d, %v", s, n, ok)
		}
	}
}

// TestParseOfEachByte holds that no byte but a digit is taken, wherever it stands.
func TestParseOfEachByte(t *testing.T) {
	for i := range 256 {
		c := string([]byte{byte(i)})
		digit := i >= '0' && i <= '9'
		if n, ok := num.Parse(c); ok != digit || ok && n != int64(i-'0') || !ok && n != 0 {
			t.Errorf("Parse %q: got %d, %v", c, n, ok)
		}
		if n, ok := num.Parse("5" + c); ok != digit || !ok && n != 0 {
			t.Errorf("Parse %q: got %d, %v", "5"+c, n, ok)
		}
		lead := digit && c != "0" || c == "-"
		if n, ok := num.Parse(c + "5"); ok != lead || !ok && n != 0 {
			t.Errorf("Parse %q: got %d, %v", c+"5", n, ok)
		}
	}
}

// TestParseIsDigits holds over all short texts of these bytes: what is parsed is just what its Digits are.
func TestParseIsDigits(t *testing.T) {
	letters := "0179-+ a"
	list := []string{""}
	for from := 0; len(list[from]) < 4; from++ {
		for i := range len(letters) {
			list = append(list, list[from]+letters[i:i+1])
		}
	}
	for _, s := range list {
		n, ok := num.Parse(s)
		want, err := strconv.ParseInt(s, 10, 64)
		wantOK := err == nil && strconv.FormatInt(want, 10) == s
		if !wantOK {
			want = 0
		}
		checkNumber(t, "Parse "+strconv.Quote(s), n, ok, want, wantOK)
		if ok && num.Digits(n) != s {
			t.Errorf("Parse %q: its Digits are %q", s, num.Digits(n))
		}
	}
}

// TestParseOfLongTexts holds that a call ends, and tells none, however long a text is.
func TestParseOfLongTexts(t *testing.T) {
	long := make([]byte, 1<<20)
	for _, c := range []byte{'0', '1', '9', '-'} {
		for i := range long {
			long[i] = c
		}
		for _, s := range []string{string(long), "-" + string(long)} {
			if n, ok := num.Parse(s); n != 0 || ok {
				t.Errorf("Parse of %d times %q: got %d, %v", len(long), c, n, ok)
			}
		}
	}
}

// TestSameAnswers holds that the same calls answer the same, whatever was asked between them.
func TestSameAnswers(t *testing.T) {
	first := num.Digits(-120)
	for _, n := range corners() {
		num.Digits(n)
		num.Parse(strconv.FormatInt(n, 10) + "x")
		num.Mul(n, n)
	}
	if again := num.Digits(-120); first != "-120" || again != first {
		t.Errorf("Digits -120: got %q, then %q", first, again)
	}
}
