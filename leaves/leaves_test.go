package leaves_test

import (
	"strings"
	"sync"
	"testing"

	"sealingwax/api"
	"sealingwax/leaves"
)

// P8.1

// Hashes that are written out, so that nothing leans on another program alone.
func TestKnownLeaves(t *testing.T) {
	for _, x := range []struct{ data, digits string }{
		{"", "6e340b9cffb37a989ca544e6bb780a2c78901d3fb33738768511a30617afa01d"},
		{"\x00", "96a296d224f285c67bee93c30f8a309157f0daa35dc5b87e410b78630a09cfc7"},
		{"\x10", "0298d122906dcfc10892cb53a73992fc5b9f493ea4c9badb27b791b4127a7fe7"},
		{"\x20\x21", "07506a85fd9dd2f120eb694f86011e5bb4662e5c415a62917033d4a9624487e7"},
		{"abc", "609f6e36d2405585188d5cfd761f407c7cc46a7d3f314c88270469dde315fcd1"},
		{"xyz", "593cbfa8337b8295df779267081bf31d2b077f74041f4fbce37a2a5f6ce4ad2c"},
	} {
		if got, want := mustLeaf(t, x.data), written(t, x.digits); got != want {
			t.Errorf("Leaf of %q: %x, want %x", x.data, got, want)
		}
	}
}

func TestKnownNodes(t *testing.T) {
	for _, x := range []struct {
		a, b   api.Hash
		digits string
	}{
		{api.Hash{}, api.Hash{}, "ae0798d0ecaed2b778eddebf18f071a561c53658c05e76cedecc27cafbdbc577"},
		{leaves.Leaf(""), leaves.Leaf("\x00"), "fac54203e7cc696cf0dfcb42c92a1d9dbaf70ad9e621f4bd8d98662f00e3c125"},
		{leaves.Leaf("\x20\x21"), leaves.Leaf("\x30\x31"), "acdb510c6adfbc7cf26c777c63031b9399da609b70c957eb1dbbe58e453e6702"},
	} {
		if got, want := mustNode(t, x.a, x.b), written(t, x.digits); got != want {
			t.Errorf("Node of %x and %x: %x, want %x", x.a, x.b, got, want)
		}
	}
}

func TestEmpty(t *testing.T) {
	want := written(t, "e3b0c44298fc1c149afbf4c8996fb92427ae41e4649b934ca495991b7852b855")
	if got := leaves.Empty(); got != want || got != sumOf(nil) {
		t.Errorf("Empty: %x, want %x", got, want)
	}
}

// No leaves are another thing than one leaf of nothing, or a node of nothing.
func TestEmptyIsNoLeafOfNothing(t *testing.T) {
	empty := leaves.Empty()
	if empty == mustLeaf(t, "") || empty == mustNode(t, api.Hash{}, api.Hash{}) || empty == mustNode(t, empty, empty) {
		t.Errorf("%x is another hash, too", empty)
	}
	if mustLeaf(t, "") == (api.Hash{}) || empty == (api.Hash{}) {
		t.Error("nothing has the zero hash")
	}
}

func TestLeafOfEachByte(t *testing.T) {
	seen := map[api.Hash]int{mustLeaf(t, ""): -1}
	for b := range 256 {
		h := mustLeaf(t, string([]byte{byte(b)}))
		if other, there := seen[h]; there {
			t.Errorf("bytes %d and %d: one hash", other, b)
		}
		seen[h] = b
	}
}

// All lengths up to some blocks of the hash, so that with the byte ahead each one
// just below, at and just above a block's end, and where the ending needs one
// block more, is among them.
func TestLeafOfAllLengths(t *testing.T) {
	for n := range 330 {
		for _, data := range texts(n) {
			mustLeaf(t, data)
		}
	}
}

func TestLeafAroundBlockEnds(t *testing.T) {
	for _, end := range []int{56, 64, 120, 128, 184, 192, 256, 64 * 100, 64*100 - 8} {
		for n := end - 3; n <= end+2; n++ {
			x := dice(n)
			mustLeaf(t, x.text(n))
			mustLeaf(t, strings.Repeat("\x00", n))
		}
	}
}

func TestLeafOfLongData(t *testing.T) {
	// With the byte ahead the number of bits takes one byte more from 2^13 - 1,
	// and from 2^21 - 1 on.
	for _, n := range []int{1000, 4095, 8190, 8191, 8192, 65535, 65536, 1 << 20, 1<<21 - 2, 1<<21 - 1, 1 << 21} {
		x := dice(n)
		mustLeaf(t, x.text(n))
	}
}

func TestLeafHangsOnEachByte(t *testing.T) {
	x := dice(8)
	data := []byte(x.text(140))
	seen := map[api.Hash]int{mustLeaf(t, string(data)): -1}
	for i := range data {
		for _, bits := range []byte{1, 0x80} {
			data[i] ^= bits
			h := mustLeaf(t, string(data))
			if other, there := seen[h]; there {
				t.Errorf("bytes %d and %d: one hash", other, i)
			}
			seen[h] = i
			data[i] ^= bits
		}
	}
}

// Zeros ahead, behind, or the byte that is put ahead anyway, are bytes as others are.
func TestLeafHangsOnHowManyBytes(t *testing.T) {
	for _, b := range []string{"\x00", "\x01", "\x80", "a"} {
		seen := map[api.Hash]int{}
		for n := range 140 {
			h := mustLeaf(t, strings.Repeat(b, n))
			if other, there := seen[h]; there {
				t.Errorf("%d and %d bytes %q: one hash", other, n, b)
			}
			seen[h] = n
		}
	}
	for _, data := range []string{"abc", "abc\x00", "\x00abc", "abc\x80"} {
		for _, other := range []string{"ab", "abcd", "\x00\x00abc", "\x01abc", "abc\x00\x00"} {
			if mustLeaf(t, data) == mustLeaf(t, other) {
				t.Errorf("%q and %q: one leaf", data, other)
			}
		}
	}
}

func TestLeafOfAnyBytes(t *testing.T) {
	x := dice(81)
	for range 3000 {
		mustLeaf(t, x.text(x.below(400)))
	}
	for _, data := range []string{"\xff\xfe", "\xc3\x28", "caf\u00e9", "\U0001f510", "a\x00b\x00", "\n\r\t"} {
		mustLeaf(t, data)
	}
}

// What a record, at the most, has.
func TestLeafOfTheGreatestRecord(t *testing.T) {
	for _, data := range append(texts(api.MaxRecord), texts(api.MaxRecord+1)...) {
		mustLeaf(t, data)
	}
}

// Each pair of some hashes is another node, places changed or not.
func TestNodeOfAllPairs(t *testing.T) {
	type pair struct{ a, b api.Hash }
	seen := map[api.Hash]pair{}
	for _, a := range hashes() {
		for _, b := range hashes() {
			h := mustNode(t, a, b)
			if other, there := seen[h]; there {
				t.Errorf("%x and %x: the node of %x and %x, too", a, b, other.a, other.b)
			}
			seen[h] = pair{a, b}
		}
	}
}

func TestNodeOfTwoThatAreTheSame(t *testing.T) {
	for _, h := range hashes() {
		got := mustNode(t, h, h)
		if got == h || got == (api.Hash{}) || got == sumOf(append([]byte{1}, h[:]...)) {
			t.Errorf("Node of %x twice: %x", h, got)
		}
	}
}

func TestNodeOfTwoThatChangePlaces(t *testing.T) {
	x := dice(82)
	for range 300 {
		a, b := x.hash(), x.hash()
		if mustNode(t, a, b) == mustNode(t, b, a) {
			t.Errorf("%x and %x: one node, whichever is ahead", a, b)
		}
	}
}

// One bit of one of the two, at each byte, the first and the last one among them.
func TestNodeHangsOnEachBit(t *testing.T) {
	x := dice(83)
	a, b := x.hash(), x.hash()
	seen := map[api.Hash]int{mustNode(t, a, b): -1}
	for at := range 32 {
		for bit := range 8 {
			for _, h := range []api.Hash{mustNode(t, turned(a, at, 1<<bit), b), mustNode(t, a, turned(b, at, 1<<bit))} {
				if other, there := seen[h]; there {
					t.Errorf("a bit of byte %d, and of byte %d: one node", at, other)
				}
				seen[h] = at
			}
		}
	}
}

func TestNodeOfHashesThatDifferInABit(t *testing.T) {
	for _, h := range hashes() {
		for _, at := range []int{0, 31} {
			for _, bits := range []byte{1, 0x80} {
				other := turned(h, at, bits)
				if mustNode(t, h, other) == mustNode(t, other, h) {
					t.Errorf("%x and %x: one node, whichever is ahead", h, other)
				}
				if mustNode(t, h, h) == mustNode(t, h, other) || mustNode(t, h, h) == mustNode(t, other, h) {
					t.Errorf("%x: a node with %x is that with itself", h, other)
				}
			}
		}
	}
}

func TestNodeOfAnyHashes(t *testing.T) {
	x := dice(84)
	for range 3000 {
		mustNode(t, x.hash(), x.hash())
	}
}

func TestNodesOfNodes(t *testing.T) {
	h := leaves.Leaf("xyz")
	for range 200 {
		h = mustNode(t, mustNode(t, h, leaves.Empty()), h)
	}
}

func TestTheSameAgain(t *testing.T) {
	x := dice(85)
	data, a, b := x.text(300), x.hash(), x.hash()
	leaf, node, empty := leaves.Leaf(data), leaves.Node(a, b), leaves.Empty()
	leaves.Leaf("something else")
	leaves.Node(b, a)
	leaves.Empty()
	if leaves.Leaf(data) != leaf || leaves.Node(a, b) != node || leaves.Empty() != empty {
		t.Error("a hash hangs on what was hashed ahead of it")
	}
}

func TestSideBySide(t *testing.T) {
	var all sync.WaitGroup
	for seed := 1; seed < 9; seed++ {
		all.Go(func() {
			x := dice(seed)
			for range 200 {
				data, a, b := x.text(x.below(200)), x.hash(), x.hash()
				if leaves.Leaf(data) != sumOf(leafBytes(data)) || leaves.Node(a, b) != sumOf(nodeBytes(a, b)) {
					t.Error("a hash hangs on what is hashed beside it")
				}
			}
		})
	}
	all.Wait()
}
