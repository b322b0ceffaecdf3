package omap

import (
	"testing"
)

// checkTree holds that a tree's keys are in order, well counted, and not far from its top.
func checkTree(t *testing.T, n *node[int, int]) {
	t.Helper()
	if n == nil {
		return
	}
	low, high := n.low.size(), n.high.size()
	if n.count != low+1+high {
		t.Fatalf("%d keys are counted over %d and %d", n.count, low, high)
	}
	if low+high >= 2 && (low > heavy*high || high > heavy*low) {
		t.Fatalf("%d and %d are not in balance", low, high)
	}
	if low > 0 && n.low.last().key >= n.key || high > 0 && n.high.first().key <= n.key {
		t.Fatalf("%d is not in order", n.key)
	}
	checkTree(t, n.low)
	checkTree(t, n.high)
}

// TestBalance holds that a tree stays in balance, whatever is put and dropped.
func TestBalance(t *testing.T) {
	ways := []func(i, drawn int) int{
		func(i, drawn int) int { return i },
		func(i, drawn int) int { return -i },
		func(i, drawn int) int { return drawn % 700 },
		func(i, drawn int) int { return i ^ 0x155 },
		func(i, drawn int) int { return i % 2 * (2000 - i) },
	}
	drawn := uint64(1)
	for way, next := range ways {
		var m Map[int, int]
		for i := range 1000 {
			drawn = drawn*2862933555777941757 + 3037000493
			m.Put(next(i, int(drawn>>33)), i)
			if drawn>>60%3 == 0 {
				m.Drop(next(i-int(drawn>>40%20), int(drawn>>33)))
			}
			checkTree(t, m.top)
		}
		for m.Len() > 0 {
			drawn = drawn*2862933555777941757 + 3037000493
			keys := m.Keys()
			at := []int{0, len(keys) - 1, len(keys) / 2, int(drawn >> 33 % uint64(len(keys)))}[way%4]
			m.Drop(keys[at])
			checkTree(t, m.top)
		}
	}
}
