package roots_test

import (
	"testing"

	"sealingwax/api"
	"sealingwax/leaves"
	"sealingwax/roots"
)

// P9.3

// Each hash of each list, the first and the last one among them, with one bit
// turned at its first and at its last byte.
func TestEachHashMakesAnotherRoot(t *testing.T) {
	x := dice(103)
	for n := 1; n <= 40; n++ {
		l := x.hashes(n)
		seen := map[api.Hash]int{mustRoot(t, l): -1}
		for at := range n {
			for _, place := range []int{0, 31} {
				for _, bits := range []byte{1, 0x80} {
					root := roots.Root(turned(l, at, place, bits))
					if other, there := seen[root]; there {
						t.Errorf("%d hashes, %d and %d turned: one root", n, other, at)
					}
					seen[root] = at
				}
			}
		}
	}
}

// Each bit of each hash of some lists.
func TestEachBitMakesAnotherRoot(t *testing.T) {
	x := dice(104)
	for _, n := range []int{1, 2, 3, 5, 8, 11} {
		l := x.hashes(n)
		seen := map[api.Hash]int{mustRoot(t, l): -1}
		for at := range n {
			for bit := range 256 {
				root := roots.Root(turned(l, at, bit/8, 1<<(bit%8)))
				if other, there := seen[root]; there {
					t.Errorf("%d hashes, %d and %d turned: one root", n, other, at)
				}
				seen[root] = at
			}
		}
	}
}

// Long lists, around powers of two, at the places where the parts meet.
func TestEachHashOfALongListMakesAnotherRoot(t *testing.T) {
	x := dice(105)
	for _, n := range []int{127, 128, 129, 255, 256, 257, 1023, 1024, 1025} {
		l := x.hashes(n)
		root := mustRoot(t, l)
		k := mustSplit(t, n)
		for _, at := range []int{0, 1, k/2 - 1, k / 2, k - 1, k, (k + n) / 2, n - 2, n - 1} {
			if mustRoot(t, turned(l, at, x.below(32), 1<<x.below(8))) == root {
				t.Errorf("%d hashes, %d turned: one root", n, at)
			}
		}
	}
}

// Other hashes that a tree might be taken in by: nothing, that of none, those that
// stand beside it, and the nodes and roots that stand above.
func TestAnotherHashMakesAnotherRoot(t *testing.T) {
	x := dice(106)
	for n := 1; n <= 40; n++ {
		l := x.hashes(n)
		root := mustRoot(t, l)
		others := []api.Hash{{}, leaves.Empty(), leaves.Leaf(""), root, leaves.Node(l[0], l[n-1]), leaves.Node(l[0], l[0])}
		for at := range n {
			for _, h := range append(others, l[(at+1)%n], leaves.Leaf(string(l[at][:]))) {
				if h != l[at] && roots.Root(changed(l, at, h)) == root {
					t.Errorf("%d hashes, %x at %d: one root", n, h, at)
				}
			}
		}
	}
}

// Lists that are alike but for one hash, where all the hashes beside it are alike.
func TestOneHashAmongThoseThatAreAlike(t *testing.T) {
	for n := 1; n <= 70; n++ {
		l := make([]api.Hash, n)
		seen := map[api.Hash]int{mustRoot(t, l): -1}
		for at := range n {
			root := roots.Root(changed(l, at, alike(1)))
			if other, there := seen[root]; there {
				t.Errorf("%d hashes, another one at %d and at %d: one root", n, other, at)
			}
			seen[root] = at
		}
	}
}
