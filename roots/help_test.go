package roots_test

import (
	"crypto/sha256"
	"encoding/hex"
	"math"
	"slices"
	"testing"

	"sealingwax/api"
	"sealingwax/roots"
)

// nodeOf is the node of two hashes by another program's word, so that nothing here
// leans on the program's own.
func nodeOf(a, b api.Hash) api.Hash {
	return sha256.Sum256(slices.Concat([]byte{1}, a[:], b[:]))
}

// splitOf is Split in the chapter's own words: of the powers of two, which are
// gone through upwards, the last one that is below n.
func splitOf(n int) int {
	greatest := 0
	for power := uint64(1); power <= math.MaxInt; power *= 2 {
		if int(power) < n {
			greatest = int(power)
		}
	}
	if n < 2 {
		return 0
	}
	return greatest
}

// rootOf is Root in the chapter's own words.
func rootOf(l []api.Hash) api.Hash {
	if len(l) == 0 {
		return sha256.Sum256(nil)
	}
	if len(l) == 1 {
		return l[0]
	}
	k := splitOf(len(l))
	return nodeOf(rootOf(l[:k]), rootOf(l[k:]))
}

// rootByRows is the root by another way, that knows no powers of two: a row's
// hashes are put together by twos, and an odd one at the end goes up as it is.
func rootByRows(l []api.Hash) api.Hash {
	if len(l) == 0 {
		return sha256.Sum256(nil)
	}
	row := slices.Clone(l)
	for len(row) > 1 {
		var up []api.Hash
		for pair := range slices.Chunk(row, 2) {
			if len(pair) == 2 {
				up = append(up, nodeOf(pair[0], pair[1]))
			} else {
				up = append(up, pair[0])
			}
		}
		row = up
	}
	return row[0]
}

// mustSplit holds Split against the chapter's words.
func mustSplit(t *testing.T, n int) int {
	t.Helper()
	got := roots.Split(n)
	if want := splitOf(n); got != want {
		t.Fatalf("Split of %d: %d, want %d", n, got, want)
	}
	return got
}

// mustRoot holds Root against the chapter's words. It is handed the list three
// times: as it is, as a part of a greater one, with room behind it that has
// hashes of its own, and as a part without room. All of it has to stay as it was.
func mustRoot(t *testing.T, l []api.Hash) api.Hash {
	t.Helper()
	want := rootOf(l)
	if rows := rootByRows(l); rows != want {
		t.Fatalf("%d hashes: the two ways to reckon a root tell %x and %x", len(l), want, rows)
	}
	around := slices.Concat([]api.Hash{alike(7)}, l, []api.Hash{alike(8), alike(9), {}})
	end := 1 + len(l)
	for _, list := range [][]api.Hash{l, around[1:end], around[1:end:end]} {
		was := slices.Clone(list[:cap(list)])
		all := slices.Clone(around)
		if got := roots.Root(list); got != want {
			t.Fatalf("Root of %d hashes: %x, want %x", len(l), got, want)
		}
		if !slices.Equal(list[:cap(list)], was) || !slices.Equal(around, all) {
			t.Fatalf("Root of %d hashes: these, or what is beside them, are other ones", len(l))
		}
	}
	return want
}

// written is a hash out of its digits.
func written(t *testing.T, digits string) api.Hash {
	t.Helper()
	b, err := hex.DecodeString(digits)
	if err != nil || len(b) != 32 {
		t.Fatalf("%q is no hash's digits", digits)
	}
	return api.Hash(b)
}

// alike is a hash of which all bytes are one and the same.
func alike(b byte) api.Hash {
	var h api.Hash
	for i := range h {
		h[i] = b
	}
	return h
}

// turned is a list with some bits of one byte of one hash turned.
func turned(l []api.Hash, at, place int, bits byte) []api.Hash {
	other := slices.Clone(l)
	other[at][place] ^= bits
	return other
}

// changed is a list with another hash at one place.
func changed(l []api.Hash, at int, h api.Hash) []api.Hash {
	other := slices.Clone(l)
	other[at] = h
	return other
}

// dice are numbers without an order that is easily seen; always the same ones
// from one seed.
type dice uint32

func (x *dice) below(n int) int {
	*x ^= *x << 13
	*x ^= *x >> 17
	*x ^= *x << 5
	return int(uint32(*x)>>4) % n
}

func (x *dice) hash() api.Hash {
	var h api.Hash
	for i := range h {
		h[i] = byte(x.below(256))
	}
	return h
}

// hashes are so many, without order.
func (x *dice) hashes(n int) []api.Hash {
	l := make([]api.Hash, n)
	for i := range l {
		l[i] = x.hash()
	}
	return l
}
