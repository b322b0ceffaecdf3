package omap

import (
	"cmp"
)

// node is the top of a tree: a key and its thing, with the trees of the lesser keys and of the greater ones; an empty tree is nil. A tree is never changed, so that it can be told while its map goes on to another one.
type node[K cmp.Ordered, V any] struct {
	key       K
	thing     V
	low, high *node[K, V]
	count     int
}

// No side of a tree of more than two keys has more than heavy times as many as the other one. Where one side comes to have too many, its inner part goes over as a whole, if it has less than inner times as many as its outer one, else it is parted: with these numbers that is enough.
const (
	heavy = 3
	inner = 2
)

func (n *node[K, V]) size() int {
	if n == nil {
		return 0
	}
	return n.count
}

// told is a tree's top; false: it is empty.
func (n *node[K, V]) told() (K, V, bool) {
	if n == nil {
		var noKey K
		var nothing V
		return noKey, nothing, false
	}
	return n.key, n.thing, true
}

// find is the tree with a key at its top; nil: there is none.
func (n *node[K, V]) find(k K) *node[K, V] {
	for n != nil {
		switch c := cmp.Compare(k, n.key); {
		case c < 0:
			n = n.low
		case c > 0:
			n = n.high
		default:
			return n
		}
	}
	return nil
}

// first is the tree with the least key at its top.
func (n *node[K, V]) first() *node[K, V] {
	for n != nil && n.low != nil {
		n = n.low
	}
	return n
}

// last is the tree with the greatest key at its top.
func (n *node[K, V]) last() *node[K, V] {
	for n != nil && n.high != nil {
		n = n.high
	}
	return n
}

// below is how many keys are below one.
func (n *node[K, V]) below(k K) int {
	count := 0
	for n != nil {
		if cmp.Less(n.key, k) {
			count += n.low.size() + 1
			n = n.high
		} else {
			n = n.low
		}
	}
	return count
}

// all tells all keys, rising; false: no more is asked for.
func (n *node[K, V]) all(yield func(K, V) bool) bool {
	return n == nil || n.low.all(yield) && yield(n.key, n.thing) && n.high.all(yield)
}

// from tells the keys that are not below one, rising; false: no more is asked for.
func (n *node[K, V]) from(k K, yield func(K, V) bool) bool {
	if n == nil {
		return true
	}
	if cmp.Less(n.key, k) {
		return n.high.from(k, yield)
	}
	return n.low.from(k, yield) && yield(n.key, n.thing) && n.high.all(yield)
}

// with is the tree in which a key has a thing.
func (n *node[K, V]) with(k K, v V) *node[K, V] {
	if n == nil {
		return &node[K, V]{key: k, thing: v, count: 1}
	}
	switch c := cmp.Compare(k, n.key); {
	case c < 0:
		return n.between(n.low.with(k, v), n.high)
	case c > 0:
		return n.between(n.low, n.high.with(k, v))
	}
	return &node[K, V]{key: n.key, thing: v, low: n.low, high: n.high, count: n.count}
}

// without is the tree in which a key, which it has, has nothing.
func (n *node[K, V]) without(k K) *node[K, V] {
	switch c := cmp.Compare(k, n.key); {
	case c < 0:
		return n.between(n.low.without(k), n.high)
	case c > 0:
		return n.between(n.low, n.high.without(k))
	case n.low == nil:
		return n.high
	case n.high == nil:
		return n.low
	}
	next := n.high.first()
	return next.between(n.low, n.high.without(next.key))
}

// between is the tree of a tree's top between two trees, of which one has one key more, or less, than the sides of a tree may have.
func (n *node[K, V]) between(low, high *node[K, V]) *node[K, V] {
	switch {
	case low.size()+high.size() < 2:
		return n.over(low, high)
	case high.size() > heavy*low.size():
		return n.lessHigh(low, high)
	case low.size() > heavy*high.size():
		return n.lessLow(low, high)
	}
	return n.over(low, high)
}

// lessHigh is the tree of a tree's top between two trees, the high one of which has too many keys.
func (n *node[K, V]) lessHigh(low, high *node[K, V]) *node[K, V] {
	middle := high.low
	if middle.size() < inner*high.high.size() {
		return high.over(n.over(low, middle), high.high)
	}
	return middle.over(n.over(low, middle.low), high.over(middle.high, high.high))
}

// lessLow is the tree of a tree's top between two trees, the low one of which has too many keys.
func (n *node[K, V]) lessLow(low, high *node[K, V]) *node[K, V] {
	middle := low.high
	if middle.size() < inner*low.low.size() {
		return low.over(low.low, n.over(middle, high))
	}
	return middle.over(low.over(low.low, middle.low), n.over(middle.high, high))
}

// over is the tree of a tree's top over two trees, as they are.
func (n *node[K, V]) over(low, high *node[K, V]) *node[K, V] {
	return &node[K, V]{key: n.key, thing: n.thing, low: low, high: high, count: low.size() + 1 + high.size()}
}
