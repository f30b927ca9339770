package consist_test

import (
	"slices"
	"testing"

	"sealingwax/api"
	"sealingwax/consist"
	"sealingwax/leaves"
	"sealingwax/roots"
)

// each hands to a call each beginning of each list up to so many leaves, with both
// roots by the program's own word, and what is proved.
func each(t *testing.T, x *dice, most int, call func(l []api.Hash, m int, a, b api.Hash, proof []api.Hash)) {
	t.Helper()
	for n := 1; n <= most; n++ {
		l := x.hashes(n)
		b := roots.Root(l)
		for m := 1; m <= n; m++ {
			call(l, m, roots.Root(l[:m]), b, proved(t, l, m))
		}
	}
}

// P12.3

func TestWhatIsProvedChecks(t *testing.T) {
	x := dice(231)
	l := x.hashes(100)
	var firsts []api.Hash
	for m := range len(l) + 1 {
		firsts = append(firsts, roots.Root(l[:m]))
	}
	for n := 1; n <= len(l); n++ {
		for m := 1; m <= n; m++ {
			proof, e := consist.Prove(l[:n], m)
			if e != api.OK || consist.Check(m, n, firsts[m], firsts[n], proof) != api.OK {
				t.Fatalf("the first %d of %d: what is proved does not check", m, n)
			}
			if len(proof) != asked(m, n) {
				t.Fatalf("the first %d of %d: %d hashes", m, n, len(proof))
			}
		}
	}
}

func TestWhatIsProvedOfManyChecks(t *testing.T) {
	x := dice(232)
	l := x.hashes(1<<12 + 1)
	for _, n := range []int{1023, 1024, 1025, 1<<12 - 1, 1 << 12, 1<<12 + 1} {
		for _, m := range []int{1, 2, n / 2, n - 1, n, 1 + x.below(n), 1 + x.below(n)} {
			mustPass(t, m, n, roots.Root(l[:m]), roots.Root(l[:n]), proved(t, l[:n], m))
		}
	}
}

// One byte that is another one, in one of the roots or of the proof's hashes, at
// each beginning of each small tree.
func TestOneByteIsAnotherOne(t *testing.T) {
	x := dice(233)
	each(t, &x, 34, func(l []api.Hash, m int, a, b api.Hash, proof []api.Hash) {
		n := len(l)
		other := func(h api.Hash) api.Hash { return turned(h, x.below(32), byte(1+x.below(255))) }
		mustFail(t, m, n, other(a), b, proof)
		mustFail(t, m, n, a, other(b), proof)
		for at := range proof {
			mustFail(t, m, n, a, b, changed(proof, at, other(proof[at])))
		}
	})
}

// Each bit of each hash that is handed in.
func TestEachBitCounts(t *testing.T) {
	x := dice(234)
	for _, tree := range []struct{ m, n int }{{1, 1}, {1, 2}, {2, 3}, {3, 3}, {3, 4}, {4, 7}, {5, 7}, {11, 16}, {16, 17}} {
		l := x.hashes(tree.n)
		a, b := roots.Root(l[:tree.m]), roots.Root(l)
		proof := proved(t, l, tree.m)
		for bit := range 256 {
			place, bits := bit/8, byte(1)<<(bit%8)
			if consist.Check(tree.m, tree.n, turned(a, place, bits), b, proof) != api.ErrProof {
				t.Fatalf("%d of %d: bit %d of the first root", tree.m, tree.n, bit)
			}
			if consist.Check(tree.m, tree.n, a, turned(b, place, bits), proof) != api.ErrProof {
				t.Fatalf("%d of %d: bit %d of the second root", tree.m, tree.n, bit)
			}
			for at, h := range proof {
				if consist.Check(tree.m, tree.n, a, b, changed(proof, at, turned(h, place, bits))) != api.ErrProof {
					t.Fatalf("%d of %d: bit %d of hash %d", tree.m, tree.n, bit, at)
				}
			}
		}
	}
}

// Whole hashes that are other ones: those of the tree itself, too.
func TestOneHashIsAnotherOne(t *testing.T) {
	x := dice(235)
	each(t, &x, 18, func(l []api.Hash, m int, a, b api.Hash, proof []api.Hash) {
		n := len(l)
		for _, h := range slices.Concat([]api.Hash{{}, leaves.Empty(), a, b, x.hash()}, l, proof) {
			if h != a {
				mustFail(t, m, n, h, b, proof)
			}
			if h != b {
				mustFail(t, m, n, a, h, proof)
			}
			for at := range proof {
				if h != proof[at] {
					mustFail(t, m, n, a, b, changed(proof, at, h))
				}
			}
		}
	})
}

// Both roots that are other ones, alike or not; and each in the other's place.
func TestBothRootsAreOtherOnes(t *testing.T) {
	x := dice(236)
	each(t, &x, 34, func(l []api.Hash, m int, a, b api.Hash, proof []api.Hash) {
		n, h := len(l), x.hash()
		if m == n {
			mustPass(t, m, n, h, h, proof)
			mustPass(t, m, n, b, a, proof)
			return
		}
		mustFail(t, m, n, b, a, proof)
		mustFail(t, m, n, a, a, proof)
		mustFail(t, m, n, b, b, proof)
		mustFail(t, m, n, h, h, proof)
		mustFail(t, m, n, h, x.hash(), proof)
	})
}

// A proof that lacks a hash, at each place; one that has one more, at each place,
// be it one that it has there; and one in another order.
func TestHashesLessOrMore(t *testing.T) {
	x := dice(237)
	each(t, &x, 24, func(l []api.Hash, m int, a, b api.Hash, proof []api.Hash) {
		n := len(l)
		for at := range proof {
			mustFail(t, m, n, a, b, slices.Delete(slices.Clone(proof), at, at+1))
			mustFail(t, m, n, a, b, slices.Insert(slices.Clone(proof), at, proof[at]))
			if next := at + 1; next < len(proof) {
				mustFail(t, m, n, a, b, changed(changed(proof, at, proof[next]), next, proof[at]))
			}
		}
		for at := range len(proof) + 1 {
			for _, h := range []api.Hash{{}, a, b, l[m-1], leaves.Empty()} {
				mustFail(t, m, n, a, b, slices.Insert(slices.Clone(proof), at, h))
			}
		}
	})
}

// The root of the first ones, if it is a whole part of the tree, is not told by the
// proof: one that tells it has one hash more.
func TestTheKnownRootIsNotTold(t *testing.T) {
	x := dice(238)
	l := x.hashes(40)
	for m := 1; m <= 32; m *= 2 {
		a := roots.Root(l[:m])
		for n := m; n <= len(l); n++ {
			proof := proved(t, l[:n], m)
			if slices.Contains(proof, a) {
				t.Errorf("the first %d of %d: their root is told", m, n)
			}
			mustFail(t, m, n, a, roots.Root(l[:n]), slices.Concat([]api.Hash{a}, proof))
		}
	}
}

// A proof of one beginning, held to each other one of as many leaves: with its own
// root, and with that of the other one.
func TestAnotherBeginning(t *testing.T) {
	x := dice(239)
	each(t, &x, 20, func(l []api.Hash, m int, a, b api.Hash, proof []api.Hash) {
		n := len(l)
		for other := 1; other <= n; other++ {
			if other != m {
				mustFail(t, other, n, a, b, proof)
				mustFail(t, other, n, roots.Root(l[:other]), b, proof)
			}
		}
	})
}

// A proof of so many leaves, held to each other number of them: with its own roots,
// by which it may pass only where both trees are parted alike on the way, and with
// the other number's root, by which it never does.
func TestAnotherNumberOfLeaves(t *testing.T) {
	x := dice(240)
	l := x.hashes(26)
	for n := 1; n <= len(l); n++ {
		for m := 1; m <= n; m++ {
			proof := proved(t, l[:n], m)
			a, b := roots.Root(l[:m]), roots.Root(l[:n])
			for other := m; other <= len(l); other++ {
				if other == n {
					continue
				}
				mustFail(t, m, other, a, roots.Root(l[:other]), proof)
				if e := mustCheck(t, m, other, a, b, proof); e == api.OK && turnings(m, n) != turnings(m, other) {
					t.Errorf("the first %d of %d pass as those of %d", m, n, other)
				}
			}
			if e := mustCheck(t, m, m-1, a, b, proof); e != api.ErrArg {
				t.Errorf("the first %d of %d held to %d: %v", m, n, m-1, e)
			}
		}
	}
}

// Trees of as many leaves that begin otherwise: a proof of one of them is none of
// another's first root, or of its second one.
func TestAnotherTree(t *testing.T) {
	x := dice(241)
	each(t, &x, 20, func(l []api.Hash, m int, a, b api.Hash, proof []api.Hash) {
		n := len(l)
		for at := range l {
			other := changed(l, at, x.hash())
			c, d := roots.Root(other[:m]), roots.Root(other)
			mustFail(t, m, n, a, d, proof)
			if at < m {
				mustFail(t, m, n, c, b, proof)
				mustFail(t, m, n, a, d, proved(t, other, m))
				mustFail(t, m, n, c, b, proved(t, other, m))
			} else {
				mustPass(t, m, n, c, d, proved(t, other, m))
			}
		}
	})
}
