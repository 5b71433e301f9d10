package trie

import (
	"testing"

	"mantrap/prefix"
)

// nodes tells how many stand in the place of n and below it.
func (n *node) nodes() int {
	if n == nil {
		return 0
	}
	return 1 + n.sides[0].nodes() + n.sides[1].nodes()
}

// No more is kept than the prefixes need: what is dropped leaves nothing behind.
func TestNodes(t *testing.T) {
	x := New()
	var list []prefix.Prefix
	for i := range uint64(64) {
		for _, n := range []int{64, 90, 128} {
			list = append(list, prefix.Prefix{Hi: i * 0x9E37_79B9_7F4A_7C15, Len: n})
		}
	}
	check := func() {
		t.Helper()
		if got := x.root.nodes(); got > 2*x.Len() {
			t.Errorf("%d nodes stand for %d prefixes", got, x.Len())
		}
	}
	for _, p := range list {
		x.Put(p, 1)
		x.Put(p, 2)
		check()
	}
	if x.Len() != len(list) {
		t.Errorf("Len = %d, want %d", x.Len(), len(list))
	}
	for i := range list {
		x.Drop(list[i*5%len(list)]) // 5 and their number have no divisor in common, so each is dropped once
		check()
	}
	if x.Len() != 0 || x.root != nil {
		t.Errorf("of %d prefixes something is left", x.Len())
	}
}
