package leaves_test

import (
	"crypto/sha256"
	"encoding/hex"
	"slices"
	"strings"
	"testing"

	"sealingwax/api"
	"sealingwax/leaves"
)

// sumOf is the hash of some bytes by another program's word, so that nothing here
// leans on the program's own.
func sumOf(b []byte) api.Hash { return sha256.Sum256(b) }

// leafBytes is what is hashed to a leaf, in the chapter's own words.
func leafBytes(data string) []byte { return append([]byte{0}, data...) }

// nodeBytes is what is hashed to a node, in the chapter's own words.
func nodeBytes(a, b api.Hash) []byte { return slices.Concat([]byte{1}, a[:], b[:]) }

// mustLeaf holds Leaf against the chapter's words. The text that it is handed is
// a piece of a greater one, all of which has to stay as it was.
func mustLeaf(t *testing.T, data string) api.Hash {
	t.Helper()
	whole := "ahead" + data + "behind"
	was := []byte(whole)
	got := leaves.Leaf(whole[len("ahead") : len("ahead")+len(data)])
	if want := sumOf(leafBytes(data)); got != want {
		t.Fatalf("Leaf of %d bytes: %x, want %x", len(data), got, want)
	}
	if whole != string(was) {
		t.Fatalf("Leaf of %d bytes: they are other ones", len(data))
	}
	return got
}

// mustNode holds Node against the chapter's words. The hashes that it is handed
// are some of a list, all of which has to stay as it was.
func mustNode(t *testing.T, a, b api.Hash) api.Hash {
	t.Helper()
	list := []api.Hash{{7}, a, b, {9}}
	was := slices.Clone(list)
	got := leaves.Node(list[1], list[2])
	if want := sumOf(nodeBytes(a, b)); got != want {
		t.Fatalf("Node of %x and %x: %x, want %x", a, b, got, want)
	}
	if !slices.Equal(list, was) {
		t.Fatalf("Node of %x and %x: they are other ones", a, b)
	}
	return got
}

// written is a hash out of its digits.
func written(t *testing.T, digits string) api.Hash {
	t.Helper()
	b, err := hex.DecodeString(digits)
	if err != nil || len(b) != 32 {
		t.Fatalf("%q is no hash's digits", digits)
	}
	return api.Hash(b)
}

// alike is a hash of which all bytes are one and the same.
func alike(b byte) api.Hash {
	var h api.Hash
	for i := range h {
		h[i] = b
	}
	return h
}

// turned is a hash with some bits of a byte turned.
func turned(h api.Hash, at int, bits byte) api.Hash {
	h[at] ^= bits
	return h
}

// dice are numbers without an order that is easily seen; always the same ones
// from one seed.
type dice uint32

func (x *dice) below(n int) int {
	*x ^= *x << 13
	*x ^= *x >> 17
	*x ^= *x << 5
	return int(uint32(*x)>>4) % n
}

func (x *dice) text(n int) string {
	b := make([]byte, n)
	for i := range b {
		b[i] = byte(x.below(256))
	}
	return string(b)
}

func (x *dice) hash() api.Hash { return api.Hash([]byte(x.text(32))) }

// texts are some of so many bytes: none like the next, and all alike, of the
// bytes with which what is hashed begins among them.
func texts(n int) []string {
	x := dice(2463534242)
	out := []string{x.text(n)}
	for _, b := range []string{"\x00", "\x01", "\x80", "\xa5", "\xff", "a"} {
		out = append(out, strings.Repeat(b, n))
	}
	return out
}

// hashes are some that are all unlike: of bytes that are alike, of one bit at the
// first and at the last byte, of texts, and without order.
func hashes() []api.Hash {
	x := dice(88172645)
	return []api.Hash{
		{}, alike(1), alike(0x80), alike(0xff), {0: 1}, {0: 0x80}, {31: 1}, {31: 0x80},
		sumOf(nil), sumOf([]byte{0}), sumOf([]byte{1}), sumOf([]byte("\x00a")), x.hash(), x.hash(),
	}
}
