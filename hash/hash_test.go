package hash_test

import (
	"hash/fnv"
	"math"
	"slices"
	"strconv"
	"strings"
	"testing"

	"lamplighter/api"
	"lamplighter/hash"
)

// texts is keys, and texts that are none.
func texts() []string {
	l := []string{"", "k", "l", "foobar", "it's", "\x00", "\x00\x00", "\xff\xfe", "ключ", strings.Repeat("k", 1000)}
	for i := range 500 {
		l = append(l, "k"+strconv.Itoa(i))
	}
	return l
}

func TestExample(t *testing.T) {
	if got := hash.Fnv(""); got != api.FnvBase {
		t.Errorf("got %d", got)
	}
}

func TestFnv(t *testing.T) {
	for s, want := range map[string]uint64{"a": 0xaf63dc4c8601ec8c, "foobar": 0x85944171f73967e8} {
		if got := hash.Fnv(s); got != want {
			t.Errorf("%s: got %x", s, got)
		}
	}
	for _, s := range texts() {
		h := fnv.New64a()
		h.Write([]byte(s))
		if got := hash.Fnv(s); got != h.Sum64() {
			t.Errorf("%q: got %x, want %x", s, got, h.Sum64())
		}
	}
}

func TestPart(t *testing.T) {
	for given, parts := range map[int]uint64{
		math.MinInt: 1, -1: 1, 0: 1, 1: 1, 2: 2, 3: 3, 63: 63, 64: 64, 65: 64, 1000: 64, math.MaxInt: 64,
	} {
		for _, s := range texts() {
			if got := hash.Part(s, given); got != int(hash.Fnv(s)%parts) {
				t.Errorf("%q of %d: got %d", s, given, got)
			}
		}
	}
}

func TestSpread(t *testing.T) {
	l := texts()
	kept := slices.Clone(l)
	for given, parts := range map[int]int{math.MinInt: 1, 0: 1, 1: 1, 2: 2, 7: 7, 64: 64, 65: 64, math.MaxInt: 64} {
		want := make([]int, parts)
		for _, s := range l {
			want[hash.Part(s, given)]++
		}
		if got := hash.Spread(l, given); !slices.Equal(got, want) {
			t.Errorf("of %d: got %v, want %v", given, got, want)
		}
		if got := hash.Spread(nil, given); !slices.Equal(got, make([]int, parts)) {
			t.Errorf("nothing, of %d: got %v", given, got)
		}
		// One key counts as often as it stands there.
		twice := hash.Spread([]string{"k", "l", "k"}, given)
		if got := twice[hash.Part("k", given)]; got != 2 && parts > 1 || parts == 1 && got != 3 {
			t.Errorf("of %d: got %v", given, twice)
		}
	}
	if !slices.Equal(l, kept) {
		t.Errorf("what was handed in was changed: %v", l)
	}
}
