package include_test

import (
	"math"
	"slices"
	"sync"
	"testing"

	"sealingwax/api"
	"sealingwax/include"
	"sealingwax/leaves"
)

// counts are numbers of leaves around each power of two, and at the end of what
// an int can say; none is below 1.
func counts() []int {
	out := []int{math.MaxInt, math.MaxInt - 1, math.MaxInt - 2, 0x5555555555555555, 0x2aaaaaaaaaaaaaaa}
	for bit := 1; bit < 63; bit++ {
		power := 1 << bit
		out = append(out, power-1, power, power+1, math.MaxInt-power)
	}
	return out
}

// placesOf are some of n leaves: the first ones, the last ones, and those around
// each power of two.
func placesOf(n int) []int {
	var out []int
	for bit := range 63 {
		power := 1 << bit
		for _, i := range []int{power - 2, power - 1, power, power + 1, n - power - 1, n - power, n - power + 1} {
			if i >= 0 && i < n {
				out = append(out, i)
			}
		}
	}
	return out
}

// P11.1

func TestProveExamples(t *testing.T) {
	a, b, c := alike(1), alike(2), alike(3)
	l := []api.Hash{a, b, c}
	if proof := proved(t, l, 0); !slices.Equal(proof, []api.Hash{b, c}) {
		t.Errorf("Prove of 0: %x", proof)
	}
	if proof := proved(t, l, 2); !slices.Equal(proof, []api.Hash{leaves.Node(a, b)}) {
		t.Errorf("Prove of 2: %x", proof)
	}
	if _, e := mustProve(t, l, 3); e != api.ErrArg {
		t.Errorf("Prove of 3: %v", e)
	}
}

func TestProveOfNoLeaves(t *testing.T) {
	two := []api.Hash{alike(1), alike(2)}
	for _, l := range [][]api.Hash{nil, {}, make([]api.Hash, 0, 5), two[:0], two[1:1], two[2:]} {
		for _, i := range []int{0, -1, 1, math.MinInt, math.MaxInt} {
			if proof, e := include.Prove(l, i); e != api.ErrArg || proof != nil {
				t.Errorf("Prove of %d of none: %x, %v", i, proof, e)
			}
			mustProve(t, l, i)
		}
	}
}

// The only one has the proof of no hashes, whatever it is.
func TestProveOfOne(t *testing.T) {
	x := dice(161)
	for _, h := range []api.Hash{{}, alike(1), alike(0xff), leaves.Empty(), leaves.Leaf(""), x.hash()} {
		if proof := proved(t, []api.Hash{h}, 0); len(proof) != 0 {
			t.Errorf("Prove of the only one: %x", proof)
		}
		if proof, e := include.Prove([]api.Hash{h}, 0); len(proof) != 0 || e != api.OK {
			t.Errorf("Prove of the only one: %x, %v", proof, e)
		}
	}
}

func TestProveOfNoPlace(t *testing.T) {
	x := dice(162)
	l := x.hashes(40)
	for n := range len(l) + 1 {
		for _, i := range []int{-1, -2, -n, -n - 1, n, n + 1, 2*n + 1, 1 << 32, -1 << 32, math.MaxInt, math.MaxInt - 1, math.MinInt, math.MinInt + 1, math.MinInt + n} {
			if i >= 0 && i < n {
				continue
			}
			if proof, e := include.Prove(l[:n], i); e != api.ErrArg || proof != nil {
				t.Errorf("Prove of %d of %d: %x, %v", i, n, proof, e)
			}
			mustProve(t, l[:n], i)
		}
	}
}

func TestProveOfEachPlace(t *testing.T) {
	x := dice(163)
	l := x.hashes(70)
	for n := 1; n <= len(l); n++ {
		for i := range n {
			proved(t, l[:n], i)
		}
	}
}

// Around each power of two, at the first, the last and each place between.
func TestProveAroundPowersOfTwo(t *testing.T) {
	x := dice(164)
	l := x.hashes(257)
	for _, n := range []int{1, 2, 3, 4, 5, 7, 8, 9, 15, 16, 17, 31, 32, 33, 63, 64, 65, 127, 128, 129} {
		for i := -1; i <= n; i++ {
			mustProve(t, l[:n], i)
		}
	}
	for _, n := range []int{255, 256, 257} {
		for _, i := range placesOf(n) {
			proved(t, l[:n], i)
		}
	}
}

func TestProveOfMany(t *testing.T) {
	x := dice(165)
	l := x.hashes(1<<12 + 1)
	for _, n := range []int{1000, 1023, 1024, 1025, 1<<12 - 1, 1 << 12, 1<<12 + 1} {
		for _, i := range []int{0, 1, n / 2, n - 2, n - 1, x.below(n)} {
			proved(t, l[:n], i)
		}
	}
}

// A part of a list is a list of its own.
func TestProveOfParts(t *testing.T) {
	x := dice(166)
	l := x.hashes(14)
	for from := range l {
		for to := from + 1; to <= len(l); to++ {
			for i := range to - from {
				proved(t, l[from:to], i)
			}
		}
	}
}

func TestProveOfLeavesThatAreAlike(t *testing.T) {
	for _, h := range []api.Hash{{}, alike(0xff), leaves.Empty()} {
		for n := 1; n <= 20; n++ {
			for i := range n {
				proved(t, slices.Repeat([]api.Hash{h}, n), i)
			}
		}
	}
}

// knownLeaves are eight, by which roots and proofs are written out.
func knownLeaves() []api.Hash {
	var l []api.Hash
	for _, data := range []string{"", "\x00", "\x10", "\x20\x21", "\x30\x31", "\x40\x41\x42\x43",
		"\x50\x51\x52\x53\x54\x55\x56\x57", "\x60\x61\x62\x63\x64\x65\x66\x67\x68\x69\x6a\x6b\x6c\x6d\x6e\x6f"} {
		l = append(l, leaves.Leaf(data))
	}
	return l
}

// Proofs that are written out, so that nothing leans on another program alone.
func TestKnownProofs(t *testing.T) {
	l := knownLeaves()
	for _, x := range []struct {
		i, n  int
		root  string
		proof []string
	}{
		{0, 1, "6e340b9cffb37a989ca544e6bb780a2c78901d3fb33738768511a30617afa01d", nil},
		{0, 8, "5dc9da79a70659a9ad559cb701ded9a2ab9d823aad2f4960cfe370eff4604328", []string{
			"96a296d224f285c67bee93c30f8a309157f0daa35dc5b87e410b78630a09cfc7",
			"5f083f0a1a33ca076a95279832580db3e0ef4584bdff1f54c8a360f50de3031e",
			"6b47aaf29ee3c2af9af889bc1fb9254dabd31177f16232dd6aab035ca39bf6e4"}},
		{5, 8, "5dc9da79a70659a9ad559cb701ded9a2ab9d823aad2f4960cfe370eff4604328", []string{
			"bc1a0643b12e4d2d7c77918f44e0f4f79a838b6cf9ec5b5c283e1f4d88599e6b",
			"ca854ea128ed050b41b35ffc1b87b8eb2bde461e9e3b5596ece6b9d5975a0ae0",
			"d37ee418976dd95753c1c73862b9398fa2a2cf9b4ff0fdfe8b30cd95209614b7"}},
		{2, 3, "aeb6bcfe274b70a14fb067a5e5578264db0fa9b51af5e0ba159158f329e06e77", []string{
			"fac54203e7cc696cf0dfcb42c92a1d9dbaf70ad9e621f4bd8d98662f00e3c125"}},
		{1, 5, "4e3bbb1f7b478dcfe71fb631631519a3bca12c9aefca1612bfce4c13a86264d4", []string{
			"6e340b9cffb37a989ca544e6bb780a2c78901d3fb33738768511a30617afa01d",
			"5f083f0a1a33ca076a95279832580db3e0ef4584bdff1f54c8a360f50de3031e",
			"bc1a0643b12e4d2d7c77918f44e0f4f79a838b6cf9ec5b5c283e1f4d88599e6b"}},
	} {
		var want []api.Hash
		for _, digits := range x.proof {
			want = append(want, written(t, digits))
		}
		if proof := proved(t, l[:x.n], x.i); !slices.Equal(proof, want) {
			t.Errorf("Prove of %d of %d: %x", x.i, x.n, proof)
		}
		mustPass(t, l[x.i], x.i, x.n, want, written(t, x.root))
	}
}

// Proofs whose nodes are written out one by one.
func TestProveOfFew(t *testing.T) {
	x := dice(167)
	l := x.hashes(7)
	node := leaves.Node
	two := func(i int) api.Hash { return node(l[i], l[i+1]) }
	four := node(two(0), two(2))
	for _, want := range []struct {
		n, i  int
		proof []api.Hash
	}{
		{2, 0, []api.Hash{l[1]}},
		{2, 1, []api.Hash{l[0]}},
		{3, 0, []api.Hash{l[1], l[2]}},
		{3, 1, []api.Hash{l[0], l[2]}},
		{3, 2, []api.Hash{two(0)}},
		{4, 0, []api.Hash{l[1], two(2)}},
		{4, 1, []api.Hash{l[0], two(2)}},
		{4, 2, []api.Hash{l[3], two(0)}},
		{4, 3, []api.Hash{l[2], two(0)}},
		{5, 3, []api.Hash{l[2], two(0), l[4]}},
		{5, 4, []api.Hash{four}},
		{6, 0, []api.Hash{l[1], two(2), two(4)}},
		{6, 4, []api.Hash{l[5], four}},
		{6, 5, []api.Hash{l[4], four}},
		{7, 2, []api.Hash{l[3], two(0), node(two(4), l[6])}},
		{7, 5, []api.Hash{l[4], l[6], four}},
		{7, 6, []api.Hash{two(4), four}},
	} {
		if proof := proved(t, l[:want.n], want.i); !slices.Equal(proof, want.proof) {
			t.Errorf("Prove of %d of %d: %x", want.i, want.n, proof)
		}
	}
}

// P11.2

func TestCheckExamples(t *testing.T) {
	a := alike(1)
	for _, x := range []struct {
		i, n int
		want api.Errno
	}{{0, 1, api.OK}, {0, 2, api.ErrProof}, {1, 1, api.ErrArg}} {
		if e := mustCheck(t, a, x.i, x.n, nil, a); e != x.want {
			t.Errorf("Check of %d of %d: %v, want %v", x.i, x.n, e, x.want)
		}
	}
}

// No place, whatever else is handed in: a proof that leads to the root of what
// there is, too.
func TestCheckOfNoPlace(t *testing.T) {
	x := dice(171)
	l := x.hashes(9)
	ends := []int{math.MinInt, math.MinInt + 1, -1 << 32, -2, -1, 0, 1, 2, 8, 9, 10, 1 << 32, 1 << 62, math.MaxInt - 1, math.MaxInt}
	for _, n := range ends {
		for _, i := range append([]int{n - 1, n, n + 1}, ends...) {
			if i >= 0 && i < n {
				continue
			}
			for _, many := range []int{0, 1, 2, 4, 9} {
				for _, root := range []api.Hash{l[0], rootOf(l), {}} {
					if e := mustCheck(t, l[0], i, n, l[:many], root); e != api.ErrArg {
						t.Errorf("Check of %d of %d: %v", i, n, e)
					}
				}
			}
		}
	}
	for i := range l {
		proof := proved(t, l, i)
		for _, n := range []int{i, 0, -1, -9, math.MinInt} {
			if e := mustCheck(t, l[i], i, n, proof, rootOf(l)); e != api.ErrArg {
				t.Errorf("Check of %d of %d: %v", i, n, e)
			}
		}
		for _, wrong := range []int{i - 9, i + 9, -1 - i, math.MinInt + i, math.MaxInt - i} {
			if e := mustCheck(t, l[i], wrong, 9, proof, rootOf(l)); e != api.ErrArg {
				t.Errorf("Check of %d of 9: %v", wrong, e)
			}
		}
	}
}

// The only one: its own hash is the root, by no hashes.
func TestCheckOfOne(t *testing.T) {
	x := dice(172)
	for _, h := range []api.Hash{{}, alike(1), alike(0xff), leaves.Empty(), leaves.Leaf(""), x.hash()} {
		for _, proof := range [][]api.Hash{nil, {}, make([]api.Hash, 0, 5)} {
			mustPass(t, h, 0, 1, proof, h)
			mustFail(t, h, 0, 1, proof, turned(h, 31, 1))
			mustFail(t, h, 0, 1, proof, leaves.Node(h, h))
		}
		for _, other := range []api.Hash{h, {}, leaves.Empty(), x.hash()} {
			mustFail(t, h, 0, 1, []api.Hash{other}, h)
			mustFail(t, h, 0, 1, []api.Hash{other}, leaves.Node(h, other))
			mustFail(t, h, 0, 1, []api.Hash{other}, leaves.Node(other, h))
		}
	}
}

// No hashes at all lead to nothing, if there is one leaf more than one.
func TestCheckOfNoHashes(t *testing.T) {
	x := dice(173)
	for _, n := range counts() {
		if n == 1 {
			continue
		}
		for _, i := range []int{0, 1, n / 2, n - 1} {
			leaf := x.hash()
			for _, root := range []api.Hash{leaf, {}, leaves.Empty(), leaves.Node(leaf, leaf)} {
				mustFail(t, leaf, i, n, nil, root)
				mustFail(t, leaf, i, n, []api.Hash{}, root)
			}
		}
	}
}

// As many hashes as there are partings, one less and one more, of any number of
// leaves: with the root that they lead to, as far as they do.
func TestCheckOfAsManyHashes(t *testing.T) {
	x := dice(174)
	l := x.hashes(70)
	for _, n := range counts() {
		for _, i := range []int{0, n / 3, n - 1, splitOf(n), splitOf(n) - 1} {
			if i < 0 || i >= n {
				continue
			}
			many := partings(i, n)
			leaf := x.hash()
			root, ok := ledOf(leaf, i, n, l[:many])
			if !ok {
				t.Fatalf("%d of %d has other than %d hashes", i, n, many)
			}
			mustPass(t, leaf, i, n, l[:many], root)
			mustFail(t, leaf, i, n, l[:many], turned(root, x.below(32), 1<<x.below(8)))
			for _, wrong := range []int{many - 1, many + 1, 64} {
				if wrong >= 0 && wrong != many {
					mustFail(t, leaf, i, n, l[:wrong], root)
				}
			}
			mustFail(t, leaf, i, n, slices.Concat([]api.Hash{root}, l[:many]), root)
		}
	}
}

// The greatest number of leaves has 63 partings on its left, and fewer at its end.
func TestCheckOfTheGreatestNumber(t *testing.T) {
	x := dice(175)
	l := x.hashes(64)
	for _, at := range []struct{ i, many int }{{0, 63}, {5, 63}, {1<<62 - 1, 63}, {1 << 62, 63}, {math.MaxInt - 1, 62}} {
		if many := partings(at.i, math.MaxInt); many != at.many {
			t.Errorf("%d of the greatest number: %d partings", at.i, many)
		}
		root, _ := ledOf(l[63], at.i, math.MaxInt, l[:at.many])
		mustPass(t, l[63], at.i, math.MaxInt, l[:at.many], root)
		mustFail(t, l[63], at.i, math.MaxInt, l[:at.many-1], root)
		mustFail(t, l[63], at.i, math.MaxInt, l[:at.many+1], root)
		mustFail(t, l[63], at.i, math.MaxInt, changed(l[:at.many], 0, l[63]), root)
	}
	if e := mustCheck(t, l[0], math.MaxInt, math.MaxInt, l[:63], l[0]); e != api.ErrArg {
		t.Errorf("as many as there are: %v", e)
	}
}

func TestCheckOfAnyNumbers(t *testing.T) {
	x := dice(176)
	l := x.hashes(64)
	for range 2000 {
		n := 1 + x.number()%(math.MaxInt-1)
		i := x.number() % n
		many := partings(i, n)
		leaf := x.hash()
		root, _ := ledOf(leaf, i, n, l[:many])
		mustPass(t, leaf, i, n, l[:many], root)
		mustCheck(t, leaf, x.number()-x.number(), n, l[:many], root)
		mustCheck(t, leaf, i, x.number()-x.number(), l[:many], root)
		mustFail(t, leaf, i, n, l[:many], x.hash())
	}
}

// Roots whose nodes are written out one by one: each hash on its own side.
func TestCheckOfFew(t *testing.T) {
	x := dice(177)
	a, p, q, r := x.hash(), x.hash(), x.hash(), x.hash()
	node := leaves.Node
	for _, way := range []struct {
		i, n  int
		proof []api.Hash
		root  api.Hash
	}{
		{0, 2, []api.Hash{p}, node(a, p)},
		{1, 2, []api.Hash{p}, node(p, a)},
		{0, 3, []api.Hash{p, q}, node(node(a, p), q)},
		{1, 3, []api.Hash{p, q}, node(node(p, a), q)},
		{2, 3, []api.Hash{p}, node(p, a)},
		{2, 4, []api.Hash{p, q}, node(q, node(a, p))},
		{3, 4, []api.Hash{p, q}, node(q, node(p, a))},
		{4, 5, []api.Hash{p}, node(p, a)},
		{4, 6, []api.Hash{p, q}, node(q, node(a, p))},
		{5, 7, []api.Hash{p, q, r}, node(r, node(node(p, a), q))},
		{6, 7, []api.Hash{p, q}, node(q, node(p, a))},
		{5, 8, []api.Hash{p, q, r}, node(r, node(node(p, a), q))},
	} {
		mustPass(t, a, way.i, way.n, way.proof, way.root)
		for _, other := range []api.Hash{node(a, p), node(p, a), node(node(a, p), q), node(node(p, a), q), node(q, node(a, p)), node(q, node(p, a)), a, p, {}} {
			if other != way.root {
				mustFail(t, a, way.i, way.n, way.proof, other)
			}
		}
	}
}

// A proof of very many hashes ends, and is none.
func TestCheckOfALongProof(t *testing.T) {
	x := dice(178)
	l := x.hashes(6)
	proof := proved(t, l, 2)
	long := slices.Concat(proof, make([]api.Hash, 1<<16))
	mustFail(t, l[2], 2, 6, long, rootOf(l))
	mustFail(t, l[2], 2, math.MaxInt, long, rootOf(l))
}

// Nothing of a list is looked at later, and no answer hangs on an earlier one.
func TestTheSameAgain(t *testing.T) {
	x := dice(179)
	l, m := x.hashes(33), x.hashes(70)
	first, _ := include.Prove(l, 20)
	was := slices.Clone(first)
	second, _ := include.Prove(m, 20)
	if e := include.Check(m[20], 20, 70, second, rootOf(m)); e != api.OK {
		t.Errorf("Check: %v", e)
	}
	if e := include.Check(m[20], 21, 70, second, rootOf(m)); e != api.ErrProof {
		t.Errorf("Check of another place: %v", e)
	}
	again, _ := include.Prove(l, 20)
	if !slices.Equal(first, was) || !slices.Equal(again, was) {
		t.Error("an answer hangs on what was asked ahead of it, or behind")
	}
	overwrite(first, 0xee)
	if !slices.Equal(again, was) {
		t.Error("two answers of one memory")
	}
}

func TestSideBySide(t *testing.T) {
	x := dice(180)
	l := x.hashes(70)
	root := rootOf(l)
	var all sync.WaitGroup
	for seed := 1; seed < 9; seed++ {
		all.Go(func() {
			x := dice(seed)
			for range 30 {
				i := x.below(len(l))
				proof, e := include.Prove(l, i)
				if e != api.OK || !slices.Equal(proof, proofOf(l, i)) || include.Check(l[i], i, len(l), proof, root) != api.OK {
					t.Error("an answer hangs on what is asked beside it")
				}
			}
		})
	}
	all.Wait()
}
