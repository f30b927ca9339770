package include_test

import (
	"crypto/sha256"
	"encoding/hex"
	"math"
	"slices"
	"testing"

	"sealingwax/api"
	"sealingwax/include"
)

// nodeOf is the node of two hashes by another program's word, so that nothing here
// leans on the program's own.
func nodeOf(a, b api.Hash) api.Hash {
	return sha256.Sum256(slices.Concat([]byte{1}, a[:], b[:]))
}

// splitOf is roots.Split in its chapter's words: of the powers of two, the last
// one that is below n, which is above 1.
func splitOf(n int) int {
	greatest := 0
	for power := uint64(1); power <= math.MaxInt && int(power) < n; power *= 2 {
		greatest = int(power)
	}
	return greatest
}

// rootOf is roots.Root of some leaves in its chapter's words.
func rootOf(l []api.Hash) api.Hash {
	switch len(l) {
	case 0:
		return sha256.Sum256(nil)
	case 1:
		return l[0]
	}
	k := splitOf(len(l))
	return nodeOf(rootOf(l[:k]), rootOf(l[k:]))
}

// proofOf is the proof of the i-th, which there is, in the chapter's own words.
func proofOf(l []api.Hash, i int) []api.Hash {
	if len(l) == 1 {
		return nil
	}
	k := splitOf(len(l))
	if i < k {
		return append(proofOf(l[:k], i), rootOf(l[k:]))
	}
	return append(proofOf(l[k:], i-k), rootOf(l[:k]))
}

// proofByRows is the proof by another way, that knows no powers of two: a row's
// hashes are put together by twos, and an odd one at the end goes up as it is.
func proofByRows(l []api.Hash, i int) []api.Hash {
	var proof []api.Hash
	row := slices.Clone(l)
	for len(row) > 1 {
		if beside := i ^ 1; beside < len(row) {
			proof = append(proof, row[beside])
		}
		var up []api.Hash
		for pair := range slices.Chunk(row, 2) {
			if len(pair) == 2 {
				up = append(up, nodeOf(pair[0], pair[1]))
			} else {
				up = append(up, pair[0])
			}
		}
		row, i = up, i/2
	}
	return proof
}

// ledOf is what a proof leads to in the chapter's own words; false, if to nothing.
func ledOf(leaf api.Hash, i, n int, proof []api.Hash) (api.Hash, bool) {
	if n == 1 {
		return leaf, len(proof) == 0
	}
	if len(proof) == 0 {
		return api.Hash{}, false
	}
	k := splitOf(n)
	p, h := proof[:len(proof)-1], proof[len(proof)-1]
	if i < k {
		below, ok := ledOf(leaf, i, k, p)
		return nodeOf(below, h), ok
	}
	below, ok := ledOf(leaf, i-k, n-k, p)
	return nodeOf(h, below), ok
}

// ledByRows is what a proof leads to by another way: up by rows, of which the last
// one's place is kept beside the leaf's.
func ledByRows(leaf api.Hash, i, n int, proof []api.Hash) (api.Hash, bool) {
	last, next := n-1, 0
	for ; last > 0; i, last = i/2, last/2 {
		if i == last && i%2 == 0 {
			continue
		}
		if next == len(proof) {
			return api.Hash{}, false
		}
		if i%2 == 1 {
			leaf = nodeOf(proof[next], leaf)
		} else {
			leaf = nodeOf(leaf, proof[next])
		}
		next++
	}
	return leaf, next == len(proof)
}

// partings is how many hashes a proof has, of the i-th of n.
func partings(i, n int) int {
	count := 0
	for ; n > 1; count++ {
		if k := splitOf(n); i < k {
			n = k
		} else {
			i, n = i-k, n-k
		}
	}
	return count
}

// checkOf is Check in the chapter's own words.
func checkOf(t *testing.T, leaf api.Hash, i, n int, proof []api.Hash, root api.Hash) api.Errno {
	t.Helper()
	if i < 0 || n <= i {
		return api.ErrArg
	}
	led, ok := ledOf(leaf, i, n, proof)
	if rows, way := ledByRows(leaf, i, n, proof); way != ok || ok && rows != led {
		t.Fatalf("%d of %d, %d hashes: the two ways lead to %x, %v and %x, %v", i, n, len(proof), led, ok, rows, way)
	}
	if !ok || led != root {
		return api.ErrProof
	}
	return api.OK
}

// watched hands a list to a call: as it is, as a part of a greater one, with room
// behind it that has hashes of its own, and as a part without room. All of it has
// to stay as it was; and ahead of the look at what was told it is overwritten.
func watched(t *testing.T, l []api.Hash, call func(l []api.Hash), look func()) {
	t.Helper()
	end := 1 + len(l)
	around := func() []api.Hash {
		return slices.Concat([]api.Hash{alike(7)}, l, []api.Hash{alike(8), alike(9), {}})
	}
	for _, part := range []func(all []api.Hash) []api.Hash{
		func(all []api.Hash) []api.Hash { return slices.Clone(all[1:end]) },
		func(all []api.Hash) []api.Hash { return all[1:end] },
		func(all []api.Hash) []api.Hash { return all[1:end:end] },
	} {
		all := around()
		list := part(all)
		call(list)
		if !slices.Equal(list, l) || !slices.Equal(all, around()) {
			t.Fatalf("%d hashes: these, or what is beside them, are other ones", len(l))
		}
		overwrite(list, 0xcc)
		overwrite(all, 0xcc)
		look()
		for _, h := range append(list[:cap(list)], all...) {
			if h != alike(0xcc) {
				t.Fatalf("%d hashes: what was handed in is written to later", len(l))
			}
		}
	}
}

// overwrite puts another hash into all the room that a list has.
func overwrite(l []api.Hash, b byte) {
	l = l[:cap(l)]
	for i := range l {
		l[i] = alike(b)
	}
}

// mustProve holds Prove against the chapter's words: the list is watched, and what
// was told is overwritten, with the room behind it.
func mustProve(t *testing.T, l []api.Hash, i int) ([]api.Hash, api.Errno) {
	t.Helper()
	var want []api.Hash
	errno := api.ErrArg
	if i >= 0 && i < len(l) {
		errno = api.OK
		want = proofOf(l, i)
		if rows := proofByRows(l, i); !slices.Equal(rows, want) {
			t.Fatalf("%d of %d: the two ways prove it by %x and %x", i, len(l), want, rows)
		}
	}
	var got []api.Hash
	call := func(l []api.Hash) {
		overwrite(got, 0xee)
		proof, e := include.Prove(l, i)
		if e != errno {
			t.Fatalf("Prove of %d of %d: %v, want %v", i, len(l), e, errno)
		}
		got = proof
	}
	watched(t, l, call, func() {
		if !slices.Equal(got, want) {
			t.Fatalf("Prove of %d of %d: %x, want %x", i, len(l), got, want)
		}
		overwrite(got, 0xdd)
	})
	return want, errno
}

// proved is Prove of what there is.
func proved(t *testing.T, l []api.Hash, i int) []api.Hash {
	t.Helper()
	proof, e := mustProve(t, l, i)
	if e != api.OK {
		t.Fatalf("Prove of %d of %d: %v", i, len(l), e)
	}
	return proof
}

// mustCheck holds Check against the chapter's words, with the proof watched.
func mustCheck(t *testing.T, leaf api.Hash, i, n int, proof []api.Hash, root api.Hash) api.Errno {
	t.Helper()
	want := checkOf(t, leaf, i, n, proof, root)
	call := func(proof []api.Hash) {
		if got := include.Check(leaf, i, n, proof, root); got != want {
			t.Fatalf("Check of %d of %d, %d hashes: %v, want %v", i, n, len(proof), got, want)
		}
	}
	watched(t, proof, call, func() {})
	return want
}

// mustPass is Check of what has to be OK.
func mustPass(t *testing.T, leaf api.Hash, i, n int, proof []api.Hash, root api.Hash) {
	t.Helper()
	if e := mustCheck(t, leaf, i, n, proof, root); e != api.OK {
		t.Fatalf("Check of %d of %d, %d hashes: %v", i, n, len(proof), e)
	}
}

// mustFail is Check of what has to be no proof.
func mustFail(t *testing.T, leaf api.Hash, i, n int, proof []api.Hash, root api.Hash) {
	t.Helper()
	if e := mustCheck(t, leaf, i, n, proof, root); e != api.ErrProof {
		t.Fatalf("Check of %d of %d, %d hashes: %v, want %v", i, n, len(proof), e, api.ErrProof)
	}
}

// written is a hash out of its digits.
func written(t *testing.T, digits string) api.Hash {
	t.Helper()
	b, err := hex.DecodeString(digits)
	if err != nil || len(b) != 32 {
		t.Fatalf("%q is no hash's digits", digits)
	}
	return api.Hash(b)
}

// alike is a hash of which all bytes are one and the same.
func alike(b byte) api.Hash {
	var h api.Hash
	for i := range h {
		h[i] = b
	}
	return h
}

// turned is a hash with some bits of one byte turned.
func turned(h api.Hash, place int, bits byte) api.Hash {
	h[place] ^= bits
	return h
}

// changed is a list with another hash at one place.
func changed(l []api.Hash, at int, h api.Hash) []api.Hash {
	other := slices.Clone(l)
	other[at] = h
	return other
}

// dice are numbers without an order that is easily seen; always the same ones
// from one seed.
type dice uint32

func (x *dice) below(n int) int {
	*x ^= *x << 13
	*x ^= *x >> 17
	*x ^= *x << 5
	return int(uint32(*x)>>4) % n
}

// number is any one from 0 to the greatest, small ones as often as great ones.
func (x *dice) number() int {
	n := x.below(1<<28)<<36 ^ x.below(1<<28)<<18 ^ x.below(1<<28)
	return n & math.MaxInt >> x.below(63)
}

func (x *dice) hash() api.Hash {
	var h api.Hash
	for i := range h {
		h[i] = byte(x.below(256))
	}
	return h
}

// hashes are so many, without order.
func (x *dice) hashes(n int) []api.Hash {
	l := make([]api.Hash, n)
	for i := range l {
		l[i] = x.hash()
	}
	return l
}
