package frontier_test

import (
	"slices"
	"testing"

	"sealingwax/api"
	"sealingwax/frontier"
	"sealingwax/roots"
)

// P10.3

// The root is roots' own, and each hash is that of its tree, behind each leaf.
func TestRootIsThatOfRoots(t *testing.T) {
	x := dice(151)
	l := x.hashes(530)
	f := frontier.New()
	for n := range len(l) + 1 {
		want := rootOf(l[:n])
		if got := f.Root(); got != roots.Root(l[:n]) || got != want {
			t.Fatalf("Root of %d leaves: %x, want %x", n, got, want)
		}
		if got := frontier.Of(l[:n]).Root(); got != want {
			t.Fatalf("Root of a frontier of %d: %x, want %x", n, got, want)
		}
		mustBeRootsOfTrees(t, f.Hashes(), l[:n])
		if n < len(l) {
			mustAppend(t, f, l[n])
		}
	}
}

// mustBeRootsOfTrees holds hashes against roots' word on each of the trees, whose
// sizes are the 1 bits of how many leaves there are.
func mustBeRootsOfTrees(t *testing.T, hashes, l []api.Hash) {
	t.Helper()
	at, next := 0, 0
	for bit := 62; bit >= 0; bit-- {
		size := 1 << bit
		if len(l)&size == 0 {
			continue
		}
		if next == len(hashes) || hashes[next] != roots.Root(l[at:at+size]) {
			t.Fatalf("%d leaves: the tree of %d from %d on has another hash", len(l), size, at)
		}
		at, next = at+size, next+1
	}
	if next != len(hashes) {
		t.Fatalf("%d leaves: %d hashes, want %d", len(l), len(hashes), next)
	}
}

func TestRootOfManyLeaves(t *testing.T) {
	x := dice(152)
	l := x.hashes(1<<14 + 1)
	f := frontier.New()
	for i, h := range l {
		mustAppend(t, f, h)
		switch n := i + 1; n {
		case 1000, 1023, 1024, 1025, 2047, 2049, 4095, 4096, 4097, 10000, 1<<14 - 1, 1 << 14, 1<<14 + 1:
			if f.Root() != rootOf(l[:n]) || f.Root() != roots.Root(l[:n]) {
				t.Errorf("Root of %d leaves: %x", n, f.Root())
			}
			mustBeRootsOfTrees(t, f.Hashes(), l[:n])
		}
	}
}

func TestRootOfAnyLeaves(t *testing.T) {
	x := dice(153)
	for range 300 {
		l := x.hashes(x.below(200))
		if got := frontier.Of(l).Root(); got != roots.Root(l) || got != rootOf(l) {
			t.Errorf("Root of %d leaves: %x", len(l), got)
		}
	}
}

// One that is loaded at any place goes on as the one does that it was loaded
// from, leaf by leaf.
func TestLoadedGoesOn(t *testing.T) {
	x := dice(154)
	l := x.hashes(150)
	for at := range 80 {
		f := frontier.Of(l[:at])
		g := loaded(t, f.Len(), f.Hashes())
		for n := at; n < len(l); n++ {
			if g.Root() != f.Root() || g.Len() != f.Len() || !slices.Equal(g.Hashes(), f.Hashes()) {
				t.Fatalf("loaded behind %d leaves: another one behind %d", at, n)
			}
			mustAppend(t, f, l[n])
			mustAppend(t, g, l[n])
		}
		mustBeOf(t, g, l)
	}
}

// One that is loaded anew behind each leaf.
func TestLoadedBehindEachLeaf(t *testing.T) {
	x := dice(155)
	l := x.hashes(300)
	f := frontier.New()
	for i, h := range l {
		f = loaded(t, f.Len(), f.Hashes())
		mustAppend(t, f, h)
		mustBeOf(t, f, l[:i+1])
	}
}

// One leaf that is another one, or one more or less, is told by the root and by
// the hash of its tree.
func TestEachLeafCounts(t *testing.T) {
	x := dice(156)
	for n := 1; n <= 70; n++ {
		l := x.hashes(n)
		f := frontier.Of(l)
		for at := range n {
			other := slices.Clone(l)
			other[at][x.below(32)] ^= 1 << x.below(8)
			g := mustOf(t, other)
			if g.Root() == f.Root() || slices.Equal(g.Hashes(), f.Hashes()) {
				t.Errorf("%d leaves, %d is another one: one root, or the same hashes", n, at)
			}
		}
	}
}
