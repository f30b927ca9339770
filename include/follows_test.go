package include_test

import (
	"slices"
	"testing"

	"sealingwax/api"
	"sealingwax/include"
	"sealingwax/leaves"
	"sealingwax/roots"
)

// P11.3

func TestWhatIsProvedChecks(t *testing.T) {
	x := dice(191)
	l := x.hashes(130)
	for n := 1; n <= len(l); n++ {
		root := roots.Root(l[:n])
		for i := range n {
			proof, e := include.Prove(l[:n], i)
			if e != api.OK || include.Check(l[i], i, n, proof, root) != api.OK {
				t.Fatalf("%d of %d: what is proved does not check", i, n)
			}
			if len(proof) != partings(i, n) {
				t.Fatalf("%d of %d: %d hashes", i, n, len(proof))
			}
		}
	}
}

func TestWhatIsProvedOfManyChecks(t *testing.T) {
	x := dice(192)
	l := x.hashes(1<<12 + 1)
	for _, n := range []int{1023, 1024, 1025, 1<<12 - 1, 1 << 12, 1<<12 + 1} {
		root := roots.Root(l[:n])
		for _, i := range []int{0, 1, n / 2, n - 2, n - 1, x.below(n), x.below(n)} {
			mustPass(t, l[i], i, n, proved(t, l[:n], i), root)
		}
	}
}

// One byte that is another one, in the leaf, the root or one of the proof's
// hashes, at each place of each small tree.
func TestOneByteIsAnotherOne(t *testing.T) {
	x := dice(193)
	for n := 1; n <= 34; n++ {
		l := x.hashes(n)
		root := roots.Root(l)
		for i := range n {
			proof := proved(t, l, i)
			other := func(h api.Hash) api.Hash { return turned(h, x.below(32), byte(1+x.below(255))) }
			mustFail(t, other(l[i]), i, n, proof, root)
			mustFail(t, l[i], i, n, proof, other(root))
			for at := range proof {
				mustFail(t, l[i], i, n, changed(proof, at, other(proof[at])), root)
			}
		}
	}
}

// Each bit of each hash that is handed in.
func TestEachBitCounts(t *testing.T) {
	x := dice(194)
	for _, tree := range []struct{ i, n int }{{0, 1}, {1, 2}, {0, 3}, {5, 7}, {6, 7}, {11, 16}, {16, 17}} {
		l := x.hashes(tree.n)
		root := roots.Root(l)
		proof := proved(t, l, tree.i)
		leaf := l[tree.i]
		for bit := range 256 {
			place, bits := bit/8, byte(1)<<(bit%8)
			if include.Check(turned(leaf, place, bits), tree.i, tree.n, proof, root) != api.ErrProof {
				t.Fatalf("%d of %d: bit %d of the leaf", tree.i, tree.n, bit)
			}
			if include.Check(leaf, tree.i, tree.n, proof, turned(root, place, bits)) != api.ErrProof {
				t.Fatalf("%d of %d: bit %d of the root", tree.i, tree.n, bit)
			}
			for at, h := range proof {
				if include.Check(leaf, tree.i, tree.n, changed(proof, at, turned(h, place, bits)), root) != api.ErrProof {
					t.Fatalf("%d of %d: bit %d of hash %d", tree.i, tree.n, bit, at)
				}
			}
		}
	}
}

// Whole hashes that are other ones: those of the tree itself, too.
func TestOneHashIsAnotherOne(t *testing.T) {
	x := dice(195)
	for n := 2; n <= 20; n++ {
		l := x.hashes(n)
		root := roots.Root(l)
		for i := range n {
			proof := proved(t, l, i)
			others := slices.Concat([]api.Hash{{}, leaves.Empty(), root, x.hash()}, l, proof)
			for _, h := range others {
				if h != l[i] {
					mustFail(t, h, i, n, proof, root)
				}
				if h != root {
					mustFail(t, l[i], i, n, proof, h)
				}
				for at := range proof {
					if h != proof[at] {
						mustFail(t, l[i], i, n, changed(proof, at, h), root)
					}
				}
			}
		}
	}
}

// A proof that lacks a hash, at each place; one that has one more, at each place,
// be it one that it has there; and one in another order.
func TestHashesLessOrMore(t *testing.T) {
	x := dice(196)
	for n := 1; n <= 34; n++ {
		l := x.hashes(n)
		root := roots.Root(l)
		for i := range n {
			proof := proved(t, l, i)
			for at := range proof {
				mustFail(t, l[i], i, n, slices.Delete(slices.Clone(proof), at, at+1), root)
				mustFail(t, l[i], i, n, slices.Insert(slices.Clone(proof), at, proof[at]), root)
				if next := at + 1; next < len(proof) {
					mustFail(t, l[i], i, n, changed(changed(proof, at, proof[next]), next, proof[at]), root)
				}
			}
			for at := range len(proof) + 1 {
				for _, h := range []api.Hash{{}, l[i], root, leaves.Empty()} {
					mustFail(t, l[i], i, n, slices.Insert(slices.Clone(proof), at, h), root)
				}
			}
		}
	}
}

// A proof of one place, held to each other place: with its own leaf, and with the
// one that is there.
func TestAnotherPlace(t *testing.T) {
	x := dice(197)
	for n := 2; n <= 24; n++ {
		l := x.hashes(n)
		root := roots.Root(l)
		for i := range n {
			proof := proved(t, l, i)
			for other := range n {
				if other != i {
					mustFail(t, l[i], other, n, proof, root)
					mustFail(t, l[other], other, n, proof, root)
				}
			}
		}
	}
}

// A proof of so many leaves, held to each other number of them: with its own root,
// by which it may pass only where both trees are parted alike on the way to the
// leaf, and with the other number's root, by which it never does.
func TestAnotherNumberOfLeaves(t *testing.T) {
	x := dice(198)
	l := x.hashes(34)
	for n := 1; n <= len(l); n++ {
		for i := range n {
			proof := proved(t, l[:n], i)
			for other := i + 1; other <= len(l); other++ {
				if other == n {
					continue
				}
				mustFail(t, l[i], i, other, proof, roots.Root(l[:other]))
				if e := mustCheck(t, l[i], i, other, proof, roots.Root(l[:n])); e == api.OK && !slices.Equal(turnings(i, n), turnings(i, other)) {
					t.Errorf("%d of %d passes as one of %d", i, n, other)
				}
			}
		}
	}
}

// turnings are the ways that the chapter goes at each parting: left or right.
func turnings(i, n int) []bool {
	var out []bool
	for n > 1 {
		k := splitOf(n)
		out = append(out, i < k)
		if i < k {
			n = k
		} else {
			i, n = i-k, n-k
		}
	}
	return out
}

// A tree's node is no leaf of it: a proof that begins further up is not one of the
// same number of leaves.
func TestANodeIsNoLeaf(t *testing.T) {
	x := dice(199)
	for n := 2; n <= 20; n++ {
		l := x.hashes(n)
		root := roots.Root(l)
		for i := range n {
			proof := proved(t, l, i)
			h := l[i]
			for at, beside := range proof {
				if side := turnings(i, n)[len(proof)-1-at]; side {
					h = leaves.Node(h, beside)
				} else {
					h = leaves.Node(beside, h)
				}
				for other := range n {
					mustFail(t, h, other, n, proof, root)
				}
				if rest := proof[at+1:]; len(rest) < partings(i, n) {
					mustFail(t, h, i, n, rest, root)
				}
			}
			if h != root {
				t.Fatalf("%d of %d: the proof goes up to %x", i, n, h)
			}
		}
	}
}
