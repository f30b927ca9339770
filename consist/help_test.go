package consist_test

import (
	"crypto/sha256"
	"encoding/hex"
	"math"
	"slices"
	"testing"

	"sealingwax/api"
	"sealingwax/consist"
)

// nodeOf is the node of two hashes by another program's word, so that nothing here
// leans on the program's own.
func nodeOf(a, b api.Hash) api.Hash {
	return sha256.Sum256(slices.Concat([]byte{1}, a[:], b[:]))
}

// splitOf is roots.Split in its chapter's words: of the powers of two, the last
// one that is below n, which is above 1.
func splitOf(n int) int {
	greatest := 0
	for power := uint64(1); power <= math.MaxInt && int(power) < n; power *= 2 {
		greatest = int(power)
	}
	return greatest
}

// rootOf is roots.Root of some leaves in its chapter's words.
func rootOf(l []api.Hash) api.Hash {
	switch len(l) {
	case 0:
		return sha256.Sum256(nil)
	case 1:
		return l[0]
	}
	k := splitOf(len(l))
	return nodeOf(rootOf(l[:k]), rootOf(l[k:]))
}

// proofOf is the proof of the first m, from 1 to all of them, in the chapter's own
// words: their part with a yes.
func proofOf(l []api.Hash, m int) []api.Hash { return partOf(l, m, true) }

func partOf(l []api.Hash, m int, yes bool) []api.Hash {
	if m == len(l) {
		if yes {
			return nil
		}
		return []api.Hash{rootOf(l)}
	}
	k := splitOf(len(l))
	if m <= k {
		return append(partOf(l[:k], m, yes), rootOf(l[k:]))
	}
	return append(partOf(l[k:], m-k, false), rootOf(l[:k]))
}

// proofByRows is the proof by another way, that knows no powers of two: a row's
// hashes are put together by twos, and an odd one at the end goes up as it is. What
// is told is beside the last of the first m, from where these are not whole pairs on.
func proofByRows(l []api.Hash, m int) []api.Hash {
	if m == len(l) {
		return nil
	}
	row, at := slices.Clone(l), m-1
	for at%2 == 1 {
		row, at = rowAbove(row), at/2
	}
	var proof []api.Hash
	if at > 0 {
		proof = append(proof, row[at])
	}
	for len(row) > 1 {
		if beside := at ^ 1; beside < len(row) {
			proof = append(proof, row[beside])
		}
		row, at = rowAbove(row), at/2
	}
	return proof
}

func rowAbove(row []api.Hash) []api.Hash {
	var above []api.Hash
	for pair := range slices.Chunk(row, 2) {
		if len(pair) == 2 {
			above = append(above, nodeOf(pair[0], pair[1]))
		} else {
			above = append(above, pair[0])
		}
	}
	return above
}

// two are both roots: that of the first ones, and that of all.
type two [2]api.Hash

// ledOf is what a part leads to in the chapter's own words; false, if to nothing.
func ledOf(m, n int, a api.Hash, part []api.Hash, yes bool) (two, bool) {
	if m == n {
		if yes {
			return two{a, a}, len(part) == 0
		}
		if len(part) != 1 {
			return two{}, false
		}
		return two{part[0], part[0]}, true
	}
	if len(part) == 0 {
		return two{}, false
	}
	k := splitOf(n)
	p, h := part[:len(part)-1], part[len(part)-1]
	if m <= k {
		below, ok := ledOf(m, k, a, p, yes)
		return two{below[0], nodeOf(below[1], h)}, ok
	}
	below, ok := ledOf(m-k, n-k, a, p, false)
	return two{nodeOf(h, below[0]), nodeOf(h, below[1])}, ok
}

// ledByRows is what a proof leads to by another way: up by rows, of which the last
// one's place is kept beside that of the last of the first m.
func ledByRows(m, n int, a api.Hash, proof []api.Hash) (two, bool) {
	if m == n {
		return two{a, a}, len(proof) == 0
	}
	at, last := m-1, n-1
	for at%2 == 1 {
		at, last = at/2, last/2
	}
	if at > 0 {
		if len(proof) == 0 {
			return two{}, false
		}
		a, proof = proof[0], proof[1:]
	}
	led := two{a, a}
	for ; last > 0; at, last = at/2, last/2 {
		if at == last && at%2 == 0 {
			continue
		}
		if len(proof) == 0 {
			return two{}, false
		}
		if at%2 == 1 {
			led[0] = nodeOf(proof[0], led[0])
			led[1] = nodeOf(proof[0], led[1])
		} else {
			led[1] = nodeOf(led[1], proof[0])
		}
		proof = proof[1:]
	}
	return led, len(proof) == 0
}

// turnings are the ways that the chapter goes at each parting, and whether the part
// ends with a yes: l is left, r is right, y and n are a yes and a no at the end.
func turnings(m, n int) string {
	out, end := "", "y"
	for m < n {
		if k := splitOf(n); m <= k {
			out, n = out+"l", k
		} else {
			out, end, m, n = out+"r", "n", m-k, n-k
		}
	}
	return out + end
}

// asked is how many hashes a proof has, of the first m of n: one a parting, and one
// at the end, if it is with a no.
func asked(m, n int) int {
	way := turnings(m, n)
	if way[len(way)-1] == 'n' {
		return len(way)
	}
	return len(way) - 1
}

// checkOf is Check in the chapter's own words.
func checkOf(t *testing.T, m, n int, a, b api.Hash, proof []api.Hash) api.Errno {
	t.Helper()
	if m < 1 || m > n {
		return api.ErrArg
	}
	led, ok := ledOf(m, n, a, proof, true)
	if rows, way := ledByRows(m, n, a, proof); way != ok || ok && rows != led {
		t.Fatalf("%d of %d, %d hashes: the two ways lead to %x, %v and %x, %v", m, n, len(proof), led, ok, rows, way)
	}
	if !ok || led[0] != a || led[1] != b {
		return api.ErrProof
	}
	return api.OK
}

// led are the roots that just as many hashes as are asked for lead to: that of the
// first m is a, if no hash says otherwise.
func led(t *testing.T, m, n int, a api.Hash, proof []api.Hash) (api.Hash, api.Hash) {
	t.Helper()
	roots, ok := ledOf(m, n, a, proof, true)
	if !ok {
		t.Fatalf("the first %d of %d have other than %d hashes", m, n, len(proof))
	}
	return roots[0], roots[1]
}

// watched hands a list to a call: as it is, as a part of a greater one, with room
// behind it that has hashes of its own, and as a part without room. All of it has
// to stay as it was; and ahead of the look at what was told it is overwritten.
func watched(t *testing.T, l []api.Hash, call func(l []api.Hash), look func()) {
	t.Helper()
	end := 1 + len(l)
	around := func() []api.Hash {
		return slices.Concat([]api.Hash{alike(7)}, l, []api.Hash{alike(8), alike(9), {}})
	}
	for _, part := range []func(all []api.Hash) []api.Hash{
		func(all []api.Hash) []api.Hash { return slices.Clone(all[1:end]) },
		func(all []api.Hash) []api.Hash { return all[1:end] },
		func(all []api.Hash) []api.Hash { return all[1:end:end] },
	} {
		all := around()
		list := part(all)
		call(list)
		if !slices.Equal(list, l) || !slices.Equal(all, around()) {
			t.Fatalf("%d hashes: these, or what is beside them, are other ones", len(l))
		}
		overwrite(list, 0xcc)
		overwrite(all, 0xcc)
		look()
		for _, h := range append(list[:cap(list)], all...) {
			if h != alike(0xcc) {
				t.Fatalf("%d hashes: what was handed in is written to later", len(l))
			}
		}
	}
}

// overwrite puts another hash into all the room that a list has.
func overwrite(l []api.Hash, b byte) {
	l = l[:cap(l)]
	for i := range l {
		l[i] = alike(b)
	}
}

// mustProve holds Prove against the chapter's words: the list is watched, and what
// was told is overwritten, with the room behind it.
func mustProve(t *testing.T, l []api.Hash, m int) ([]api.Hash, api.Errno) {
	t.Helper()
	var want []api.Hash
	errno := api.ErrArg
	if m >= 1 && m <= len(l) {
		errno = api.OK
		want = proofOf(l, m)
		if rows := proofByRows(l, m); !slices.Equal(rows, want) {
			t.Fatalf("the first %d of %d: the two ways prove them by %x and %x", m, len(l), want, rows)
		}
	}
	var got []api.Hash
	call := func(l []api.Hash) {
		overwrite(got, 0xee)
		proof, e := consist.Prove(l, m)
		if e != errno {
			t.Fatalf("Prove of the first %d of %d: %v, want %v", m, len(l), e, errno)
		}
		got = proof
	}
	watched(t, l, call, func() {
		if !slices.Equal(got, want) {
			t.Fatalf("Prove of the first %d of %d: %x, want %x", m, len(l), got, want)
		}
		overwrite(got, 0xdd)
	})
	return want, errno
}

// proved is Prove of what there is.
func proved(t *testing.T, l []api.Hash, m int) []api.Hash {
	t.Helper()
	proof, e := mustProve(t, l, m)
	if e != api.OK {
		t.Fatalf("Prove of the first %d of %d: %v", m, len(l), e)
	}
	return proof
}

// mustCheck holds Check against the chapter's words, with the proof watched.
func mustCheck(t *testing.T, m, n int, a, b api.Hash, proof []api.Hash) api.Errno {
	t.Helper()
	want := checkOf(t, m, n, a, b, proof)
	call := func(proof []api.Hash) {
		if got := consist.Check(m, n, a, b, proof); got != want {
			t.Fatalf("Check of the first %d of %d, %d hashes: %v, want %v", m, n, len(proof), got, want)
		}
	}
	watched(t, proof, call, func() {})
	return want
}

// mustPass is Check of what has to be OK.
func mustPass(t *testing.T, m, n int, a, b api.Hash, proof []api.Hash) {
	t.Helper()
	if e := mustCheck(t, m, n, a, b, proof); e != api.OK {
		t.Fatalf("Check of the first %d of %d, %d hashes: %v", m, n, len(proof), e)
	}
}

// mustFail is Check of what has to be no proof.
func mustFail(t *testing.T, m, n int, a, b api.Hash, proof []api.Hash) {
	t.Helper()
	if e := mustCheck(t, m, n, a, b, proof); e != api.ErrProof {
		t.Fatalf("Check of the first %d of %d, %d hashes: %v, want %v", m, n, len(proof), e, api.ErrProof)
	}
}

// written is a hash out of its digits.
func written(t *testing.T, digits string) api.Hash {
	t.Helper()
	b, err := hex.DecodeString(digits)
	if err != nil || len(b) != 32 {
		t.Fatalf("%q is no hash's digits", digits)
	}
	return api.Hash(b)
}

// alike is a hash of which all bytes are one and the same.
func alike(b byte) api.Hash {
	var h api.Hash
	for i := range h {
		h[i] = b
	}
	return h
}

// turned is a hash with some bits of one byte turned.
func turned(h api.Hash, place int, bits byte) api.Hash {
	h[place] ^= bits
	return h
}

// changed is a list with another hash at one place.
func changed(l []api.Hash, at int, h api.Hash) []api.Hash {
	other := slices.Clone(l)
	other[at] = h
	return other
}

// dice are numbers without an order that is easily seen; always the same ones
// from one seed.
type dice uint32

func (x *dice) below(n int) int {
	*x ^= *x << 13
	*x ^= *x >> 17
	*x ^= *x << 5
	return int(uint32(*x)>>4) % n
}

// number is any one from 0 to the greatest, small ones as often as great ones.
func (x *dice) number() int {
	n := x.below(1<<28)<<36 ^ x.below(1<<28)<<18 ^ x.below(1<<28)
	return n & math.MaxInt >> x.below(63)
}

func (x *dice) hash() api.Hash {
	var h api.Hash
	for i := range h {
		h[i] = byte(x.below(256))
	}
	return h
}

// hashes are so many, without order.
func (x *dice) hashes(n int) []api.Hash {
	l := make([]api.Hash, n)
	for i := range l {
		l[i] = x.hash()
	}
	return l
}
