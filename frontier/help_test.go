package frontier_test

import (
	"crypto/sha256"
	"encoding/hex"
	"math"
	"slices"
	"testing"

	"sealingwax/api"
	"sealingwax/frontier"
)

// nodeOf is the node of two hashes by another program's word, so that nothing here
// leans on the program's own.
func nodeOf(a, b api.Hash) api.Hash {
	return sha256.Sum256(slices.Concat([]byte{1}, a[:], b[:]))
}

// noLeaves is the hash of no leaves.
func noLeaves() api.Hash { return sha256.Sum256(nil) }

// powerIn is the greatest power of two that is at most n; 0, if n is below 1.
func powerIn(n int) int {
	greatest := 0
	for power := uint64(1); power <= math.MaxInt && int(power) <= n; power *= 2 {
		greatest = int(power)
	}
	return greatest
}

// rootOf is the root of leaves by the way of the chapter on roots, that knows no
// frontier.
func rootOf(l []api.Hash) api.Hash {
	switch len(l) {
	case 0:
		return noLeaves()
	case 1:
		return l[0]
	}
	k := powerIn(len(l) - 1)
	return nodeOf(rootOf(l[:k]), rootOf(l[k:]))
}

// hashesOf are a frontier's hashes in the chapter's own words: the leaves are
// parted from the first one on.
func hashesOf(l []api.Hash) []api.Hash {
	var out []api.Hash
	for len(l) > 0 {
		k := powerIn(len(l))
		out = append(out, rootOf(l[:k]))
		l = l[k:]
	}
	return out
}

// ones is how many 1 bits a number has, which is not below 0.
func ones(n int) int {
	count := 0
	for ; n > 0; n /= 2 {
		count += n % 2
	}
	return count
}

// plain is a frontier by another way, for as many leaves as there may be: trees
// with their sizes, of which the last two become one as long as they are alike.
type plain struct {
	sizes  []int
	hashes []api.Hash
}

// plainOf has so many leaves, and these hashes, of which there are as many as it
// takes.
func plainOf(n int, l []api.Hash) *plain {
	p := &plain{hashes: slices.Clone(l)}
	for n > 0 {
		k := powerIn(n)
		p.sizes = append(p.sizes, k)
		n -= k
	}
	return p
}

func (p *plain) append(h api.Hash) {
	size := 1
	for last := len(p.sizes) - 1; last >= 0 && p.sizes[last] == size; last-- {
		h = nodeOf(p.hashes[last], h)
		size *= 2
		p.sizes, p.hashes = p.sizes[:last], p.hashes[:last]
	}
	p.sizes, p.hashes = append(p.sizes, size), append(p.hashes, h)
}

func (p *plain) len() int {
	n := 0
	for _, size := range p.sizes {
		n += size
	}
	return n
}

func (p *plain) root() api.Hash {
	if len(p.hashes) == 0 {
		return noLeaves()
	}
	h := p.hashes[len(p.hashes)-1]
	for at := len(p.hashes) - 2; at >= 0; at-- {
		h = nodeOf(p.hashes[at], h)
	}
	return h
}

// mustTell holds what a frontier tells against what it has to tell. It is asked
// three times, and each list that it told is overwritten, and so is the room
// behind that one: lists that are told are memory of their own.
func mustTell(t *testing.T, f *frontier.Frontier, n int, hashes []api.Hash, root api.Hash) {
	t.Helper()
	var last []api.Hash
	for range 3 {
		if f == nil {
			t.Fatalf("no frontier of %d leaves", n)
		}
		if got := f.Len(); got != n {
			t.Fatalf("Len: %d, want %d", got, n)
		}
		if got := f.Root(); got != root {
			t.Fatalf("Root of %d leaves: %x, want %x", n, got, root)
		}
		got := f.Hashes()
		if !slices.Equal(got, hashes) {
			t.Fatalf("Hashes of %d leaves: %x, want %x", n, got, hashes)
		}
		for i := range last {
			last[i] = alike(0xee)
		}
		if !slices.Equal(got, hashes) {
			t.Fatalf("Hashes of %d leaves: two lists of one memory", n)
		}
		last = got[:cap(got)]
		for i := range last {
			last[i] = alike(0xdd)
		}
	}
}

// mustBeOf holds a frontier against the leaves that it has to be of.
func mustBeOf(t *testing.T, f *frontier.Frontier, l []api.Hash) {
	t.Helper()
	mustTell(t, f, len(l), hashesOf(l), rootOf(l))
}

// mustBe holds a frontier against a plain one.
func mustBe(t *testing.T, f *frontier.Frontier, p *plain) {
	t.Helper()
	mustTell(t, f, p.len(), p.hashes, p.root())
}

func mustAppend(t *testing.T, f *frontier.Frontier, h api.Hash) {
	t.Helper()
	if e := f.Append(h); e != api.OK {
		t.Fatalf("Append to %d leaves: %v", f.Len(), e)
	}
}

// watched hands a list to a call: as it is, as a part of a greater one, with room
// behind it that has hashes of its own, and as a part without room. All of it has
// to stay as it was; and behind the call it is overwritten, so that who looks at
// it later sees something else.
func watched(t *testing.T, l []api.Hash, call func(l []api.Hash) *frontier.Frontier, look func(f *frontier.Frontier)) {
	t.Helper()
	end := 1 + len(l)
	around := func() []api.Hash {
		return slices.Concat([]api.Hash{alike(7)}, l, []api.Hash{alike(8), alike(9), {}})
	}
	for _, part := range []func(all []api.Hash) []api.Hash{
		func(all []api.Hash) []api.Hash { return slices.Clone(all[1:end]) },
		func(all []api.Hash) []api.Hash { return all[1:end] },
		func(all []api.Hash) []api.Hash { return all[1:end:end] },
	} {
		all := around()
		list := part(all)
		f := call(list)
		if !slices.Equal(list, l) || !slices.Equal(all, around()) {
			t.Fatalf("%d hashes: these, or what is beside them, are other ones", len(l))
		}
		for _, hashes := range [][]api.Hash{list[:cap(list)], all} {
			for i := range hashes {
				hashes[i] = alike(0xcc)
			}
		}
		look(f)
		for _, h := range append(list[:cap(list)], all...) {
			if h != alike(0xcc) {
				t.Fatalf("%d hashes: what was handed in is written to later", len(l))
			}
		}
	}
}

// mustOf is Of, held against the leaves.
func mustOf(t *testing.T, l []api.Hash) *frontier.Frontier {
	t.Helper()
	var out *frontier.Frontier
	watched(t, l, frontier.Of, func(f *frontier.Frontier) {
		mustBeOf(t, f, l)
		out = f
	})
	return out
}

// mustLoad is Load, held against what it was handed, and against the chapter's
// words on what may be loaded.
func mustLoad(t *testing.T, n int, l []api.Hash) (*frontier.Frontier, api.Errno) {
	t.Helper()
	want := api.OK
	if n < 0 || ones(n) != len(l) {
		want = api.ErrArg
	}
	var out *frontier.Frontier
	load := func(list []api.Hash) *frontier.Frontier {
		f, e := frontier.Load(n, list)
		if e != want {
			t.Fatalf("Load of %d and %d hashes: %v, want %v", n, len(list), e, want)
		}
		return f
	}
	watched(t, l, load, func(f *frontier.Frontier) {
		if want == api.OK {
			mustBe(t, f, plainOf(n, l))
		} else if f != nil {
			t.Fatalf("Load of %d and %d hashes: a frontier beside an error", n, len(l))
		}
		out = f
	})
	return out, want
}

// loaded is Load of what may be loaded.
func loaded(t *testing.T, n int, l []api.Hash) *frontier.Frontier {
	t.Helper()
	f, e := mustLoad(t, n, l)
	if e != api.OK {
		t.Fatalf("Load of %d and %d hashes: %v", n, len(l), e)
	}
	return f
}

// mustGoOn holds some Appends to one that was loaded with so many leaves against a
// plain one, as long as an int can say how many there are.
func mustGoOn(t *testing.T, x *dice, n int) {
	t.Helper()
	l := x.hashes(ones(n))
	f, p := loaded(t, n, l), plainOf(n, l)
	for range min(4, math.MaxInt-n) {
		h := x.hash()
		mustAppend(t, f, h)
		p.append(h)
		mustBe(t, f, p)
	}
}

// written is a hash out of its digits.
func written(t *testing.T, digits string) api.Hash {
	t.Helper()
	b, err := hex.DecodeString(digits)
	if err != nil || len(b) != 32 {
		t.Fatalf("%q is no hash's digits", digits)
	}
	return api.Hash(b)
}

// alike is a hash of which all bytes are one and the same.
func alike(b byte) api.Hash {
	var h api.Hash
	for i := range h {
		h[i] = b
	}
	return h
}

// dice are numbers without an order that is easily seen; always the same ones
// from one seed.
type dice uint32

func (x *dice) below(n int) int {
	*x ^= *x << 13
	*x ^= *x >> 17
	*x ^= *x << 5
	return int(uint32(*x)>>4) % n
}

// number is any one from 0 to the greatest, small ones as often as great ones.
func (x *dice) number() int {
	n := x.below(1<<28)<<36 ^ x.below(1<<28)<<18 ^ x.below(1<<28)
	return n & math.MaxInt >> x.below(63)
}

func (x *dice) hash() api.Hash {
	var h api.Hash
	for i := range h {
		h[i] = byte(x.below(256))
	}
	return h
}

// hashes are so many, without order.
func (x *dice) hashes(n int) []api.Hash {
	l := make([]api.Hash, n)
	for i := range l {
		l[i] = x.hash()
	}
	return l
}
