package frontier_test

import (
	"math"
	"slices"
	"sync"
	"testing"

	"sealingwax/api"
	"sealingwax/frontier"
	"sealingwax/leaves"
)

// counts are numbers of leaves around each power of two, and at the end of what
// an int can say.
func counts() []int {
	out := []int{0, math.MaxInt, math.MaxInt - 1, math.MaxInt - 2, math.MaxInt / 2, 0x5555555555555555, 0x2aaaaaaaaaaaaaaa}
	for bit := range 63 {
		power := 1 << bit
		out = append(out, power-1, power, power+1, power+power/2, math.MaxInt-power, math.MaxInt^(power-1))
	}
	return out
}

// P10.1

func TestNew(t *testing.T) {
	f, g := frontier.New(), frontier.New()
	mustBeOf(t, f, nil)
	if f.Root() != leaves.Empty() {
		t.Errorf("Root of no leaves: %x", f.Root())
	}
	mustAppend(t, f, alike(1))
	mustBeOf(t, f, []api.Hash{alike(1)})
	mustBeOf(t, g, nil)
	mustBeOf(t, frontier.New(), nil)
}

func TestOfExample(t *testing.T) {
	a, b, c := alike(1), alike(2), alike(3)
	f := mustOf(t, []api.Hash{a, b, c})
	if f.Len() != 3 || !slices.Equal(f.Hashes(), []api.Hash{leaves.Node(a, b), c}) || f.Root() != leaves.Node(leaves.Node(a, b), c) {
		t.Errorf("Of three: %d, %x, %x", f.Len(), f.Hashes(), f.Root())
	}
}

func TestLoadExamples(t *testing.T) {
	for _, x := range []struct {
		n, many int
		want    api.Errno
	}{{3, 1, api.ErrArg}, {-1, 0, api.ErrArg}, {0, 0, api.OK}} {
		if _, e := mustLoad(t, x.n, make([]api.Hash, x.many)); e != x.want {
			t.Errorf("Load of %d and %d hashes: %v, want %v", x.n, x.many, e, x.want)
		}
	}
}

func TestOfNone(t *testing.T) {
	two := []api.Hash{alike(1), alike(2)}
	for _, l := range [][]api.Hash{nil, {}, make([]api.Hash, 0, 5), two[:0], two[1:1], two[2:]} {
		f := mustOf(t, l)
		mustAppend(t, f, alike(3))
		mustBeOf(t, f, []api.Hash{alike(3)})
	}
	if two[0] != alike(1) || two[1] != alike(2) {
		t.Error("a list that was handed in is written to")
	}
}

// One leaf is hash and root as it is, whatever it is.
func TestOfOne(t *testing.T) {
	x := dice(121)
	for _, h := range []api.Hash{{}, alike(1), alike(0xff), leaves.Empty(), leaves.Leaf(""), x.hash()} {
		f := mustOf(t, []api.Hash{h})
		if f.Root() != h || !slices.Equal(f.Hashes(), []api.Hash{h}) {
			t.Errorf("Of %x alone: %x, %x", h, f.Root(), f.Hashes())
		}
	}
}

func TestOfAllLengths(t *testing.T) {
	x := dice(122)
	l := x.hashes(300)
	seen := map[api.Hash]int{}
	for n := range len(l) + 1 {
		root := mustOf(t, l[:n]).Root()
		if other, there := seen[root]; there {
			t.Errorf("the first %d and the first %d: one root", other, n)
		}
		seen[root] = n
	}
}

func TestOfParts(t *testing.T) {
	x := dice(123)
	l := x.hashes(20)
	for from := range len(l) + 1 {
		for to := from; to <= len(l); to++ {
			mustOf(t, l[from:to])
		}
	}
}

func TestOfMany(t *testing.T) {
	x := dice(124)
	l := x.hashes(1<<13 + 1)
	for _, n := range []int{1000, 1023, 1024, 1025, 4095, 4096, 4097, 1<<13 - 1, 1 << 13, 1<<13 + 1} {
		mustBeOf(t, frontier.Of(l[:n]), l[:n])
	}
}

func TestOfLeavesThatAreAlike(t *testing.T) {
	for _, h := range []api.Hash{{}, alike(0xff), leaves.Empty()} {
		for n := range 140 {
			mustOf(t, slices.Repeat([]api.Hash{h}, n))
		}
	}
}

// Numbers below 0, with any number of hashes: those among them that say of such a
// number how many 1 bits it has.
func TestLoadBelowNought(t *testing.T) {
	x := dice(125)
	l := x.hashes(70)
	for _, n := range []int{-1, -2, -3, -4, -8, -1 << 31, -1<<31 - 1, -1 << 62, -math.MaxInt, math.MinInt + 1, math.MinInt} {
		for many := range len(l) + 1 {
			if _, e := mustLoad(t, n, l[:many]); e != api.ErrArg {
				t.Errorf("Load of %d and %d hashes: %v", n, many, e)
			}
		}
	}
}

func TestLoadOfSmallNumbers(t *testing.T) {
	x := dice(126)
	l := x.hashes(12)
	for n := range 530 {
		for many := range len(l) + 1 {
			mustLoad(t, n, l[:many])
		}
	}
}

// As many hashes as it takes, one less, one more, and other wrong numbers.
func TestLoadAroundPowersOfTwo(t *testing.T) {
	x := dice(127)
	l := x.hashes(70)
	for _, n := range counts() {
		many := ones(n)
		loaded(t, n, l[:many])
		for _, wrong := range []int{0, 1, 2, many - 1, many + 1, many + 2, 62, 63, 64, 65, 70} {
			if wrong >= 0 && wrong != many {
				if _, e := mustLoad(t, n, l[:wrong]); e != api.ErrArg {
					t.Errorf("Load of %d and %d hashes: %v", n, wrong, e)
				}
			}
		}
	}
	if f := loaded(t, math.MaxInt, l[:63]); f.Len() != math.MaxInt {
		t.Errorf("Load of as many leaves as an int can say: %d", f.Len())
	}
}

func TestLoadOfAnyNumbers(t *testing.T) {
	x := dice(128)
	for range 2000 {
		n := x.number()
		loaded(t, n, x.hashes(ones(n)))
		mustLoad(t, n, x.hashes(x.below(70)))
		mustLoad(t, -n, x.hashes(x.below(70)))
	}
}

// Of no leaves, however it was made: it is one, and goes on as New's does.
func TestLoadOfNoLeaves(t *testing.T) {
	for _, l := range [][]api.Hash{nil, {}, make([]api.Hash, 0, 5)} {
		f := loaded(t, 0, l)
		mustBeOf(t, f, nil)
		mustAppend(t, f, alike(1))
		mustAppend(t, f, alike(2))
		mustBeOf(t, f, []api.Hash{alike(1), alike(2)})
	}
	if _, e := mustLoad(t, 0, make([]api.Hash, 1)); e != api.ErrArg {
		t.Errorf("Load of 0 and one hash: %v", e)
	}
}

// What hashes are handed in is not looked into: any may be some trees' roots.
func TestLoadOfAnyHashes(t *testing.T) {
	for _, h := range []api.Hash{{}, alike(0xff), leaves.Empty()} {
		for n := range 70 {
			f := loaded(t, n, slices.Repeat([]api.Hash{h}, ones(n)))
			mustAppend(t, f, h)
		}
	}
}

// P10.2

func TestNil(t *testing.T) {
	var f *frontier.Frontier
	for range 3 {
		if e := f.Append(alike(1)); e != api.ErrNil {
			t.Errorf("Append to one that is nil: %v", e)
		}
		if f.Root() != (api.Hash{}) || f.Len() != 0 || len(f.Hashes()) != 0 {
			t.Errorf("one that is nil: %x, %d, %x", f.Root(), f.Len(), f.Hashes())
		}
	}
}

// One that the package did not make is none, too.
func TestNotMade(t *testing.T) {
	var zero frontier.Frontier
	for _, f := range []*frontier.Frontier{&zero, new(frontier.Frontier), {}} {
		for range 3 {
			if e := f.Append(alike(1)); e != api.ErrNil {
				t.Errorf("Append to one that was not made: %v", e)
			}
			if f.Root() != (api.Hash{}) || f.Len() != 0 || len(f.Hashes()) != 0 {
				t.Errorf("one that was not made: %x, %d, %x", f.Root(), f.Len(), f.Hashes())
			}
		}
	}
}

// Roots that are written out, so that nothing leans on another program alone.
func TestKnownRoots(t *testing.T) {
	f := frontier.New()
	var l []api.Hash
	for i, x := range []struct{ data, digits string }{
		{"", "6e340b9cffb37a989ca544e6bb780a2c78901d3fb33738768511a30617afa01d"},
		{"\x00", "fac54203e7cc696cf0dfcb42c92a1d9dbaf70ad9e621f4bd8d98662f00e3c125"},
		{"\x10", "aeb6bcfe274b70a14fb067a5e5578264db0fa9b51af5e0ba159158f329e06e77"},
		{"\x20\x21", "d37ee418976dd95753c1c73862b9398fa2a2cf9b4ff0fdfe8b30cd95209614b7"},
		{"\x30\x31", "4e3bbb1f7b478dcfe71fb631631519a3bca12c9aefca1612bfce4c13a86264d4"},
		{"\x40\x41\x42\x43", "76e67dadbcdf1e10e1b74ddc608abd2f98dfb16fbce75277b5232a127f2087ef"},
		{"\x50\x51\x52\x53\x54\x55\x56\x57", "ddb89be403809e325750d3d263cd78929c2942b7942a34b77e122c9594a74c8c"},
		{"\x60\x61\x62\x63\x64\x65\x66\x67\x68\x69\x6a\x6b\x6c\x6d\x6e\x6f", "5dc9da79a70659a9ad559cb701ded9a2ab9d823aad2f4960cfe370eff4604328"},
	} {
		if i == 0 && f.Root() != written(t, "e3b0c44298fc1c149afbf4c8996fb92427ae41e4649b934ca495991b7852b855") {
			t.Errorf("Root of no leaves: %x", f.Root())
		}
		l = append(l, leaves.Leaf(x.data))
		mustAppend(t, f, l[i])
		mustBeOf(t, f, l)
		if got, want := f.Root(), written(t, x.digits); got != want {
			t.Errorf("Root of %d leaves: %x, want %x", i+1, got, want)
		}
	}
}

// Hashes and roots whose nodes are written out one by one.
func TestFewLeaves(t *testing.T) {
	x := dice(129)
	l := x.hashes(9)
	node := leaves.Node
	two := func(i int) api.Hash { return node(l[i], l[i+1]) }
	four := func(i int) api.Hash { return node(two(i), two(i+2)) }
	f := frontier.New()
	for i, want := range []struct {
		hashes []api.Hash
		root   api.Hash
	}{
		{[]api.Hash{l[0]}, l[0]},
		{[]api.Hash{two(0)}, two(0)},
		{[]api.Hash{two(0), l[2]}, node(two(0), l[2])},
		{[]api.Hash{four(0)}, four(0)},
		{[]api.Hash{four(0), l[4]}, node(four(0), l[4])},
		{[]api.Hash{four(0), two(4)}, node(four(0), two(4))},
		{[]api.Hash{four(0), two(4), l[6]}, node(four(0), node(two(4), l[6]))},
		{[]api.Hash{node(four(0), four(4))}, node(four(0), four(4))},
		{[]api.Hash{node(four(0), four(4)), l[8]}, node(node(four(0), four(4)), l[8])},
	} {
		mustAppend(t, f, l[i])
		mustTell(t, f, i+1, want.hashes, want.root)
	}
}

// Behind each leaf, up to and beyond some powers of two.
func TestAppendLeafByLeaf(t *testing.T) {
	x := dice(130)
	l := x.hashes(530)
	f := frontier.New()
	for i, h := range l {
		mustBeOf(t, f, l[:i])
		mustAppend(t, f, h)
	}
	mustBeOf(t, f, l)
}

// It goes on alike whether it was asked between the leaves or not.
func TestAskingChangesNothing(t *testing.T) {
	x := dice(131)
	l := x.hashes(140)
	for n := range len(l) + 1 {
		f := frontier.New()
		for i, h := range l[:n] {
			if i%3 == 0 {
				f.Root()
				f.Len()
				f.Hashes()
			}
			mustAppend(t, f, h)
		}
		mustBeOf(t, f, l[:n])
	}
}

// The carry goes over many trees at once: counts that end in 1 bits, with nothing
// ahead of these, and with other trees ahead.
func TestAppendToManyOnes(t *testing.T) {
	x := dice(132)
	for bit := 1; bit < 63; bit++ {
		for _, ahead := range []int{0, 1, 2, 5, x.number()} {
			n := 1<<bit - 1 | ahead<<(bit+1)&math.MaxInt
			mustGoOn(t, &x, n)
		}
	}
}

func TestAppendToAnyCount(t *testing.T) {
	x := dice(133)
	list := counts()
	for range 500 {
		list = append(list, x.number())
	}
	for _, n := range list {
		mustGoOn(t, &x, n)
	}
}

// No leaf more goes where there are as many as an int can say, and nothing is
// changed.
func TestAppendToTheGreatestCount(t *testing.T) {
	x := dice(134)
	for short := range 5 {
		n := math.MaxInt - short
		l := x.hashes(ones(n))
		f, p := loaded(t, n, l), plainOf(n, l)
		for range short {
			h := x.hash()
			mustAppend(t, f, h)
			p.append(h)
		}
		mustBe(t, f, p)
		for _, h := range []api.Hash{{}, alike(1), x.hash(), leaves.Empty()} {
			if e := f.Append(h); e != api.ErrLong {
				t.Errorf("Append to the greatest count: %v", e)
			}
			mustBe(t, f, p)
		}
		if f.Len() != math.MaxInt || len(f.Hashes()) != 63 {
			t.Errorf("behind Appends that are too many: %d leaves, %d hashes", f.Len(), len(f.Hashes()))
		}
	}
}

func TestAppendOfAnyHash(t *testing.T) {
	f := frontier.New()
	var l []api.Hash
	for range 20 {
		for _, h := range []api.Hash{{}, alike(0xff), leaves.Empty(), leaves.Leaf(""), f.Root()} {
			l = append(l, h)
			mustAppend(t, f, h)
			mustBeOf(t, f, l)
		}
	}
}

// Lists that were told stay as they were, whatever comes behind.
func TestListsThatWereToldStay(t *testing.T) {
	x := dice(135)
	l := x.hashes(140)
	f := frontier.New()
	var told [][]api.Hash
	for _, h := range l {
		told = append(told, f.Hashes())
		mustAppend(t, f, h)
	}
	for n, hashes := range told {
		if !slices.Equal(hashes, hashesOf(l[:n])) {
			t.Errorf("Hashes of %d leaves are other ones behind more leaves", n)
		}
	}
}

// What is put behind a list that was told, or into it, is no leaf.
func TestListsThatWereToldAreNotLookedAt(t *testing.T) {
	x := dice(136)
	l := x.hashes(140)
	f := frontier.New()
	for i, h := range l {
		told := f.Hashes()
		mustAppend(t, f, h)
		told = append(told, alike(5), alike(6))
		for at := range told {
			told[at] = alike(4)
		}
		mustBeOf(t, f, l[:i+1])
	}
}

// Frontiers that begin with one and the same know nothing of one another: two of
// one list, one that is loaded with another one's hashes, one that is a plain
// copy of another.
func TestFrontiersKnowNothingOfOneAnother(t *testing.T) {
	x := dice(137)
	for n := range 80 {
		l := x.hashes(n)
		f := frontier.Of(l)
		loadedOne, _ := frontier.Load(f.Len(), f.Hashes())
		copied := *f
		all := []*frontier.Frontier{f, frontier.Of(l), loadedOne, &copied}
		have := make([][]api.Hash, len(all))
		for i := range all {
			have[i] = slices.Clone(l)
		}
		for range 12 {
			for range 1 + x.below(2) {
				at, h := x.below(len(all)), x.hash()
				mustAppend(t, all[at], h)
				have[at] = append(have[at], h)
			}
			for i, other := range all {
				mustBeOf(t, other, have[i])
			}
		}
	}
}

// One that is loaded twice out of one list.
func TestLoadsOfOneList(t *testing.T) {
	x := dice(138)
	for n := range 70 {
		hashes := x.hashes(ones(n))
		was := slices.Clone(hashes)
		f, _ := frontier.Load(n, hashes)
		g, _ := frontier.Load(n, hashes)
		p, q := plainOf(n, hashes), plainOf(n, hashes)
		for range 5 {
			a, b := x.hash(), x.hash()
			mustAppend(t, f, a)
			p.append(a)
			mustAppend(t, g, b)
			q.append(b)
			mustBe(t, f, p)
			mustBe(t, g, q)
		}
		if !slices.Equal(hashes, was) {
			t.Fatalf("%d leaves: the list that was handed in is written to", n)
		}
	}
}

func TestTheSameAgain(t *testing.T) {
	x := dice(139)
	l, m := x.hashes(33), x.hashes(70)
	first := frontier.Of(l)
	root, hashes := first.Root(), first.Hashes()
	frontier.Of(m).Root()
	frontier.New()
	frontier.Load(-1, m)
	again := frontier.Of(l)
	if again.Root() != root || !slices.Equal(again.Hashes(), hashes) || first.Root() != root {
		t.Error("an answer hangs on what was asked ahead of it")
	}
}

func TestSideBySide(t *testing.T) {
	x := dice(140)
	l := x.hashes(70)
	shared := frontier.Of(l)
	var all sync.WaitGroup
	for seed := 1; seed < 9; seed++ {
		all.Go(func() {
			x := dice(seed)
			for range 50 {
				n := x.below(len(l) + 1)
				f := frontier.Of(l[:n])
				if f.Root() != rootOf(l[:n]) || shared.Root() != rootOf(l) || !slices.Equal(shared.Hashes(), hashesOf(l)) {
					t.Error("an answer hangs on what is asked beside it")
				}
			}
		})
	}
	all.Wait()
}
