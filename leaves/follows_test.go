package leaves_test

import (
	"testing"

	"sealingwax/api"
	"sealingwax/leaves"
)

// P8.2

// mustBeNoLeaf is for data that has a node's bytes, whole or in part.
func mustBeNoLeaf(t *testing.T, data string, node api.Hash) {
	t.Helper()
	if mustLeaf(t, data) == node {
		t.Errorf("the leaf of %x is the node %x", data, node)
	}
}

func TestLeafOfANodesBytesIsNotThatNode(t *testing.T) {
	for _, a := range hashes() {
		for _, b := range hashes() {
			node := mustNode(t, a, b)
			both := string(a[:]) + string(b[:])
			mustBeNoLeaf(t, both, node)
			mustBeNoLeaf(t, "\x01"+both, node)
			mustBeNoLeaf(t, "\x00"+both, node)
			mustBeNoLeaf(t, both[1:], node)
			mustBeNoLeaf(t, both[:63], node)
			mustBeNoLeaf(t, both+"\x00", node)
			mustBeNoLeaf(t, string(node[:]), node)
		}
	}
}

func TestLeafOfANodesBytesIsNoNodeOfOthers(t *testing.T) {
	all := map[api.Hash]bool{}
	for _, a := range hashes() {
		for _, b := range hashes() {
			all[leaves.Node(a, b)] = true
		}
	}
	x := dice(86)
	for _, a := range hashes() {
		for _, b := range hashes() {
			both := string(a[:]) + string(b[:])
			for _, data := range []string{both, "\x01" + both, both[1:] + "\x00", x.text(63), x.text(64), x.text(65)} {
				if all[mustLeaf(t, data)] {
					t.Errorf("the leaf of %x is a node", data)
				}
			}
		}
	}
}

// Where the first byte of the first hash is what a leaf begins with, or where the
// data is as long as two hashes, the byte ahead is still the whole difference.
func TestOneByteAheadIsAllTheDifference(t *testing.T) {
	x := dice(87)
	for range 300 {
		a, b := x.hash(), x.hash()
		a[0] = byte(x.below(2))
		both := string(a[:]) + string(b[:])
		leaf, node := mustLeaf(t, both), mustNode(t, a, b)
		if leaf != sumOf([]byte("\x00"+both)) || node != sumOf([]byte("\x01"+both)) || leaf == node {
			t.Errorf("%x and %x: the leaf %x, the node %x", a, b, leaf, node)
		}
	}
}

// A tree of leaves and nodes is not told again by one whose leaf has a node's bytes.
func TestATreeIsNotToldAsAnother(t *testing.T) {
	a, b, c := leaves.Leaf("a"), leaves.Leaf("b"), leaves.Leaf("c")
	root := mustNode(t, mustNode(t, a, b), c)
	both := string(a[:]) + string(b[:])
	for _, data := range []string{both, "\x01" + both, "ab", "\x00a\x00b"} {
		if mustNode(t, mustLeaf(t, data), c) == root {
			t.Errorf("the leaf of %x stands for the node of two", data)
		}
	}
}
