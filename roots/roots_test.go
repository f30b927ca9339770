package roots_test

import (
	"math"
	"slices"
	"sync"
	"testing"

	"sealingwax/api"
	"sealingwax/leaves"
	"sealingwax/roots"
)

// P9.1

func TestSplitExamples(t *testing.T) {
	for n, want := range map[int]int{1: 0, 2: 1, 3: 2, 8: 4, 9: 8, 4: 2, 5: 4, 6: 4, 7: 4, 16: 8, 17: 16} {
		if got := mustSplit(t, n); got != want {
			t.Errorf("Split of %d: %d, want %d", n, got, want)
		}
	}
}

func TestSplitOfNothingToPart(t *testing.T) {
	for _, n := range []int{1, 0, -1, -2, -3, -4, -8, -9, -1 << 31, -1<<31 - 1, -1 << 32, -1 << 62, math.MinInt + 1, math.MinInt} {
		if got := mustSplit(t, n); got != 0 {
			t.Errorf("Split of %d: %d, want 0", n, got)
		}
	}
}

func TestSplitOfSmallNumbers(t *testing.T) {
	for n := -70000; n <= 70000; n++ {
		mustSplit(t, n)
	}
}

// Each power of two that there is, one less and one more, and the greatest numbers.
func TestSplitAroundPowersOfTwo(t *testing.T) {
	for bit := 1; bit <= 62; bit++ {
		power := 1 << bit
		if got := mustSplit(t, power); got != power/2 {
			t.Errorf("Split of 2^%d: %d", bit, got)
		}
		if got := mustSplit(t, power+1); got != power {
			t.Errorf("Split of 2^%d + 1: %d", bit, got)
		}
		if got := mustSplit(t, power-1); bit > 1 && got != power/2 {
			t.Errorf("Split of 2^%d - 1: %d", bit, got)
		}
		mustSplit(t, power+power/2)
		mustSplit(t, -power)
	}
	for _, n := range []int{math.MaxInt, math.MaxInt - 1, math.MaxInt/2 + 2} {
		if got := mustSplit(t, n); got != 1<<62 {
			t.Errorf("Split of %d: %d", n, got)
		}
	}
}

func TestSplitOfAnyNumbers(t *testing.T) {
	x := dice(91)
	for range 20000 {
		n := x.below(1<<28)<<36 ^ x.below(1<<28)<<18 ^ x.below(1<<28)
		mustSplit(t, n>>x.below(63))
		mustSplit(t, -n)
	}
}

// P9.2

// Roots that are written out, so that nothing leans on another program alone.
func TestKnownRoots(t *testing.T) {
	var l []api.Hash
	for i, x := range []struct{ data, digits string }{
		{"", "6e340b9cffb37a989ca544e6bb780a2c78901d3fb33738768511a30617afa01d"},
		{"\x00", "fac54203e7cc696cf0dfcb42c92a1d9dbaf70ad9e621f4bd8d98662f00e3c125"},
		{"\x10", "aeb6bcfe274b70a14fb067a5e5578264db0fa9b51af5e0ba159158f329e06e77"},
		{"\x20\x21", "d37ee418976dd95753c1c73862b9398fa2a2cf9b4ff0fdfe8b30cd95209614b7"},
		{"\x30\x31", "4e3bbb1f7b478dcfe71fb631631519a3bca12c9aefca1612bfce4c13a86264d4"},
		{"\x40\x41\x42\x43", "76e67dadbcdf1e10e1b74ddc608abd2f98dfb16fbce75277b5232a127f2087ef"},
		{"\x50\x51\x52\x53\x54\x55\x56\x57", "ddb89be403809e325750d3d263cd78929c2942b7942a34b77e122c9594a74c8c"},
		{"\x60\x61\x62\x63\x64\x65\x66\x67\x68\x69\x6a\x6b\x6c\x6d\x6e\x6f", "5dc9da79a70659a9ad559cb701ded9a2ab9d823aad2f4960cfe370eff4604328"},
	} {
		l = append(l, leaves.Leaf(x.data))
		if got, want := mustRoot(t, l), written(t, x.digits); got != want {
			t.Errorf("Root of %d leaves: %x, want %x", i+1, got, want)
		}
	}
}

func TestRootOfNone(t *testing.T) {
	want := written(t, "e3b0c44298fc1c149afbf4c8996fb92427ae41e4649b934ca495991b7852b855")
	two := []api.Hash{alike(1), alike(2)}
	for _, l := range [][]api.Hash{nil, {}, make([]api.Hash, 0, 5), two[:0], two[1:1], two[2:]} {
		if got := mustRoot(t, l); got != want || got != leaves.Empty() {
			t.Errorf("Root of none: %x, want %x", got, want)
		}
	}
}

// One hash is the root as it is, whatever it is.
func TestRootOfOne(t *testing.T) {
	x := dice(92)
	for _, h := range []api.Hash{{}, alike(1), alike(0xff), leaves.Empty(), leaves.Leaf(""), leaves.Node(alike(1), alike(2)), x.hash(), x.hash()} {
		if got := mustRoot(t, []api.Hash{h}); got != h {
			t.Errorf("Root of %x alone: %x", h, got)
		}
	}
}

// Trees whose nodes are written out one by one.
func TestRootsOfFew(t *testing.T) {
	x := dice(93)
	l := x.hashes(9)
	node := leaves.Node
	two := func(i int) api.Hash { return node(l[i], l[i+1]) }
	four := func(i int) api.Hash { return node(two(i), two(i+2)) }
	for n, want := range map[int]api.Hash{
		2: node(l[0], l[1]),
		3: node(node(l[0], l[1]), l[2]),
		4: node(node(l[0], l[1]), node(l[2], l[3])),
		5: node(four(0), l[4]),
		6: node(four(0), two(4)),
		7: node(four(0), node(two(4), l[6])),
		8: node(four(0), four(4)),
		9: node(node(four(0), four(4)), l[8]),
	} {
		if got := mustRoot(t, l[:n]); got != want {
			t.Errorf("Root of %d: %x, want %x", n, got, want)
		}
	}
}

// All lengths up to and beyond some powers of two, each one unlike all the others.
func TestRootOfAllLengths(t *testing.T) {
	x := dice(94)
	l := x.hashes(530)
	seen := map[api.Hash]int{}
	for n := range len(l) + 1 {
		h := mustRoot(t, l[:n])
		if other, there := seen[h]; there {
			t.Errorf("the first %d and the first %d: one root", other, n)
		}
		seen[h] = n
	}
}

func TestRootOfManyHashes(t *testing.T) {
	x := dice(95)
	l := x.hashes(1<<14 + 1)
	for _, n := range []int{1000, 1023, 1024, 1025, 2047, 2049, 4095, 4096, 4097, 10000, 1<<14 - 1, 1 << 14, 1<<14 + 1} {
		mustRoot(t, l[:n])
	}
}

// Pieces that begin at any place of a list are lists as others are.
func TestRootOfParts(t *testing.T) {
	x := dice(96)
	l := x.hashes(40)
	for from := range len(l) + 1 {
		for to := from; to <= len(l); to++ {
			mustRoot(t, l[from:to])
		}
	}
}

// Where all hashes are alike, only how many there are is told by the root.
func TestRootOfHashesThatAreAlike(t *testing.T) {
	for _, h := range []api.Hash{{}, alike(1), alike(0xff), leaves.Empty(), leaves.Leaf("")} {
		seen := map[api.Hash]int{}
		for n := range 140 {
			root := mustRoot(t, slices.Repeat([]api.Hash{h}, n))
			// No hash is the root of none, as one hash of none is.
			if other, there := seen[root]; there && (other != 0 || n != 1 || h != leaves.Empty()) {
				t.Errorf("%d and %d times %x: one root", other, n, h)
			}
			seen[root] = n
		}
	}
}

// The order counts, and a hash ahead or behind does, too.
func TestRootHangsOnTheOrder(t *testing.T) {
	x := dice(97)
	for n := 2; n < 24; n++ {
		l := x.hashes(n)
		root := mustRoot(t, l)
		for i := range n {
			for j := range i {
				other := slices.Clone(l)
				other[i], other[j] = other[j], other[i]
				if mustRoot(t, other) == root {
					t.Errorf("%d hashes, %d and %d in each other's place: one root", n, j, i)
				}
			}
			if mustRoot(t, slices.Insert(slices.Clone(l), i, api.Hash{})) == root || mustRoot(t, slices.Delete(slices.Clone(l), i, i+1)) == root {
				t.Errorf("%d hashes, one more or one less at %d: one root", n, i)
			}
		}
	}
}

// The root is the node of the roots of both parts, however far down one looks.
func TestRootOfBothParts(t *testing.T) {
	x := dice(98)
	for n := 2; n <= 300; n++ {
		l := x.hashes(n)
		k := mustSplit(t, n)
		if got, want := roots.Root(l), leaves.Node(roots.Root(l[:k]), roots.Root(l[k:])); got != want {
			t.Errorf("Root of %d: %x, want %x", n, got, want)
		}
	}
	for n := 2; n <= 40; n++ {
		l := x.hashes(n)
		for at := 1; at < n; at++ {
			if at != mustSplit(t, n) && leaves.Node(roots.Root(l[:at]), roots.Root(l[at:])) == roots.Root(l) {
				t.Errorf("%d hashes are parted at %d, too", n, at)
			}
		}
	}
}

func TestRootOfAnyHashes(t *testing.T) {
	x := dice(99)
	for range 400 {
		mustRoot(t, x.hashes(x.below(200)))
	}
}

// What is handed in is not kept: a root hangs on the list as it is just now.
func TestTheListIsNotKept(t *testing.T) {
	x := dice(100)
	l := x.hashes(21)
	was := slices.Clone(l)
	root := mustRoot(t, l)
	for i := range l {
		l[i] = alike(5)
	}
	if other := mustRoot(t, l); other == root {
		t.Error("a list that was overwritten: the root is the one from ahead")
	}
	copy(l, was)
	if mustRoot(t, l) != root {
		t.Error("a list that is what it was: another root")
	}
}

func TestTheSameAgain(t *testing.T) {
	x := dice(101)
	l, m := x.hashes(33), x.hashes(70)
	root, k := roots.Root(l), roots.Split(33)
	roots.Root(m)
	roots.Root(nil)
	roots.Split(70)
	if roots.Root(l) != root || roots.Split(33) != k {
		t.Error("an answer hangs on what was asked ahead of it")
	}
}

func TestSideBySide(t *testing.T) {
	x := dice(102)
	l := x.hashes(100)
	var all sync.WaitGroup
	for seed := 1; seed < 9; seed++ {
		all.Go(func() {
			x := dice(seed)
			for range 50 {
				n := x.below(len(l) + 1)
				if roots.Root(l[:n]) != rootOf(l[:n]) || roots.Split(n) != splitOf(n) {
					t.Error("an answer hangs on what is asked beside it")
				}
			}
		})
	}
	all.Wait()
}
