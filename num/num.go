// Package num is layer 1: see shared/doc/01-num.md.
package num

import (
	"math"
	"math/bits"
	"strings"

	"lamplighter/api"
)

// Add is two numbers together; false: that is too great, or too small.
func Add(a, b int64) (int64, bool) {
	if b > 0 && a > math.MaxInt64-b || b < 0 && a < math.MinInt64-b {
		return 0, false
	}
	return a + b, true
}

// Sub is a number without another one.
func Sub(a, b int64) (int64, bool) {
	if b < 0 && a > math.MaxInt64+b || b > 0 && a < math.MinInt64+b {
		return 0, false
	}
	return a - b, true
}

// Mul is two numbers' product.
func Mul(a, b int64) (int64, bool) {
	high, low := bits.Mul64(size(a), size(b))
	if high != 0 {
		return 0, false
	}
	return signed(low, (a < 0) != (b < 0))
}

// Neg is a number with the other sign.
func Neg(a int64) (int64, bool) { return Sub(0, a) }

// Time tells whether a number is a time: from 0 to MaxTime.
func Time(t int64) bool { return t >= 0 && t <= api.MaxTime }

// Within tells whether two times, the first of which is not behind the second one, are at most so far apart.
func Within(from, to, most int64) bool {
	// Times are small: their difference is always a number.
	return Time(from) && Time(to) && from <= to && to-from <= most
}

// Digits is a number's text.
func Digits(n int64) string {
	left := size(n)
	count := width(left)
	text := make([]byte, count)
	for i := range count {
		text[count-1-i] = '0' + byte(left%10)
		left /= 10
	}
	if n < 0 {
		return "-" + string(text)
	}
	return string(text)
}

// Parse is the number of a text; false: it is no number's.
func Parse(s string) (int64, bool) {
	digits, below := strings.CutPrefix(s, "-")
	if !plain(digits) || below && digits == "0" {
		return 0, false
	}
	var n uint64
	for i := range len(digits) {
		n = n*10 + uint64(digits[i]-'0')
	}
	return signed(n, below)
}

// mostDigits is how many digits the greatest and the least number have: so many always have room in 64 bits without a sign.
const mostDigits = 19

// plain tells whether a text is digits without needless noughts, and not too many.
func plain(digits string) bool {
	count := len(digits)
	if count == 0 || count > mostDigits || count > 1 && digits[0] == '0' {
		return false
	}
	for i := range count {
		if digits[i] < '0' || digits[i] > '9' {
			return false
		}
	}
	return true
}

// size is a number without its sign: that of the least number has no room in 63 bits.
func size(n int64) uint64 {
	if n < 0 {
		return -uint64(n)
	}
	return uint64(n)
}

// signed is the number of an amount and a sign; false: there is none such.
func signed(amount uint64, below bool) (int64, bool) {
	if below {
		if amount > 1<<63 {
			return 0, false
		}
		return int64(-amount), true
	}
	if amount > math.MaxInt64 {
		return 0, false
	}
	return int64(amount), true
}

// width is how many digits an amount has.
func width(amount uint64) int {
	count := 1
	for amount >= 10 {
		amount /= 10
		count++
	}
	return count
}
