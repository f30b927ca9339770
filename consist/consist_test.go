package consist_test

import (
	"math"
	"slices"
	"sync"
	"testing"

	"sealingwax/api"
	"sealingwax/consist"
	"sealingwax/leaves"
)

// counts are numbers of leaves around each power of two, and at the end of what
// an int can say; none is below 1.
func counts() []int {
	out := []int{math.MaxInt, math.MaxInt - 1, math.MaxInt - 2, 0x5555555555555555, 0x2aaaaaaaaaaaaaaa}
	for bit := 1; bit < 63; bit++ {
		power := 1 << bit
		out = append(out, power-1, power, power+1, math.MaxInt-power)
	}
	return out
}

// firstsOf are some numbers of first leaves, of n: small ones, great ones, and
// those around each power of two.
func firstsOf(n int) []int {
	out := []int{1, n, n/2 + 1, n/3 + 1}
	for bit := range 63 {
		power := 1 << bit
		for _, m := range []int{power - 1, power, power + 1, n - power - 1, n - power, n - power + 1} {
			if m >= 1 && m <= n {
				out = append(out, m)
			}
		}
	}
	slices.Sort(out)
	return slices.Compact(out)
}

// P12.1

func TestProveExamples(t *testing.T) {
	a, b, c := alike(1), alike(2), alike(3)
	l := []api.Hash{a, b, c}
	for _, x := range []struct {
		m     int
		proof []api.Hash
		errno api.Errno
	}{
		{1, []api.Hash{b, c}, api.OK},
		{2, []api.Hash{c}, api.OK},
		{3, nil, api.OK},
		{0, nil, api.ErrArg},
	} {
		if proof, e := mustProve(t, l, x.m); e != x.errno || !slices.Equal(proof, x.proof) {
			t.Errorf("Prove of %d: %x, %v", x.m, proof, e)
		}
	}
}

func TestProveOfNoLeaves(t *testing.T) {
	two := []api.Hash{alike(1), alike(2)}
	for _, l := range [][]api.Hash{nil, {}, make([]api.Hash, 0, 5), two[:0], two[1:1], two[2:]} {
		for _, m := range []int{0, -1, 1, 2, math.MinInt, math.MaxInt} {
			if proof, e := consist.Prove(l, m); e != api.ErrArg || proof != nil {
				t.Errorf("Prove of %d of none: %x, %v", m, proof, e)
			}
			mustProve(t, l, m)
		}
	}
}

// Of all of them there is the proof of no hashes, whatever they are.
func TestProveOfAll(t *testing.T) {
	x := dice(201)
	for _, h := range []api.Hash{{}, alike(1), alike(0xff), leaves.Empty(), leaves.Leaf(""), x.hash()} {
		if proof, e := consist.Prove([]api.Hash{h}, 1); len(proof) != 0 || e != api.OK {
			t.Errorf("Prove of the only one: %x, %v", proof, e)
		}
		proved(t, []api.Hash{h}, 1)
	}
	l := x.hashes(130)
	for n := 1; n <= len(l); n++ {
		if proof, e := consist.Prove(l[:n], n); len(proof) != 0 || e != api.OK {
			t.Errorf("Prove of all %d: %x, %v", n, proof, e)
		}
		proved(t, l[:n], n)
	}
}

func TestProveOfNoBeginning(t *testing.T) {
	x := dice(202)
	l := x.hashes(40)
	for n := range len(l) + 1 {
		for _, m := range []int{0, -1, -2, -n, -n - 1, n + 1, n + 2, 2*n + 1, 1 << 32, -1 << 32, 1<<32 + n, math.MaxInt, math.MaxInt - 1, math.MinInt, math.MinInt + 1, math.MinInt + n} {
			if proof, e := consist.Prove(l[:n], m); e != api.ErrArg || proof != nil {
				t.Errorf("Prove of %d of %d: %x, %v", m, n, proof, e)
			}
			mustProve(t, l[:n], m)
		}
	}
}

func TestProveOfEachBeginning(t *testing.T) {
	x := dice(203)
	l := x.hashes(66)
	for n := 1; n <= len(l); n++ {
		for m := 1; m <= n; m++ {
			proved(t, l[:n], m)
		}
	}
}

// Around each power of two, of none, of each beginning, and of one more than all.
func TestProveAroundPowersOfTwo(t *testing.T) {
	x := dice(204)
	l := x.hashes(257)
	for _, n := range []int{1, 2, 3, 4, 5, 7, 8, 9, 15, 16, 17, 31, 32, 33, 127, 128, 129} {
		for m := -1; m <= n+1; m++ {
			mustProve(t, l[:n], m)
		}
	}
	for _, n := range []int{255, 256, 257} {
		for _, m := range firstsOf(n) {
			proved(t, l[:n], m)
		}
	}
}

func TestProveOfMany(t *testing.T) {
	x := dice(205)
	l := x.hashes(1<<12 + 1)
	for _, n := range []int{1000, 1023, 1024, 1025, 1<<12 - 1, 1 << 12, 1<<12 + 1} {
		for _, m := range []int{1, 2, n / 2, splitOf(n), splitOf(n) + 1, n - 1, n, 1 + x.below(n)} {
			proved(t, l[:n], m)
		}
	}
}

// A part of a list is a list of its own.
func TestProveOfParts(t *testing.T) {
	x := dice(206)
	l := x.hashes(14)
	for from := range l {
		for to := from + 1; to <= len(l); to++ {
			for m := 1; m <= to-from; m++ {
				proved(t, l[from:to], m)
			}
		}
	}
}

func TestProveOfLeavesThatAreAlike(t *testing.T) {
	for _, h := range []api.Hash{{}, alike(0xff), leaves.Empty()} {
		for n := 1; n <= 18; n++ {
			for m := 1; m <= n; m++ {
				proved(t, slices.Repeat([]api.Hash{h}, n), m)
			}
		}
	}
}

// knownLeaves are eight, by which roots and proofs are written out.
func knownLeaves() []api.Hash {
	var l []api.Hash
	for _, data := range []string{"", "\x00", "\x10", "\x20\x21", "\x30\x31", "\x40\x41\x42\x43",
		"\x50\x51\x52\x53\x54\x55\x56\x57", "\x60\x61\x62\x63\x64\x65\x66\x67\x68\x69\x6a\x6b\x6c\x6d\x6e\x6f"} {
		l = append(l, leaves.Leaf(data))
	}
	return l
}

// knownRoot is the root of the first m of the known leaves, written out.
func knownRoot(t *testing.T, m int) api.Hash {
	t.Helper()
	return written(t, []string{
		"6e340b9cffb37a989ca544e6bb780a2c78901d3fb33738768511a30617afa01d",
		"fac54203e7cc696cf0dfcb42c92a1d9dbaf70ad9e621f4bd8d98662f00e3c125",
		"aeb6bcfe274b70a14fb067a5e5578264db0fa9b51af5e0ba159158f329e06e77",
		"d37ee418976dd95753c1c73862b9398fa2a2cf9b4ff0fdfe8b30cd95209614b7",
		"4e3bbb1f7b478dcfe71fb631631519a3bca12c9aefca1612bfce4c13a86264d4",
		"76e67dadbcdf1e10e1b74ddc608abd2f98dfb16fbce75277b5232a127f2087ef",
		"ddb89be403809e325750d3d263cd78929c2942b7942a34b77e122c9594a74c8c",
		"5dc9da79a70659a9ad559cb701ded9a2ab9d823aad2f4960cfe370eff4604328",
	}[m-1])
}

// Proofs that are written out, so that nothing leans on another program alone.
func TestKnownProofs(t *testing.T) {
	l := knownLeaves()
	for _, x := range []struct {
		m, n  int
		proof []string
	}{
		{1, 1, nil},
		{1, 8, []string{
			"96a296d224f285c67bee93c30f8a309157f0daa35dc5b87e410b78630a09cfc7",
			"5f083f0a1a33ca076a95279832580db3e0ef4584bdff1f54c8a360f50de3031e",
			"6b47aaf29ee3c2af9af889bc1fb9254dabd31177f16232dd6aab035ca39bf6e4"}},
		{6, 8, []string{
			"0ebc5d3437fbe2db158b9f126a1d118e308181031d0a949f8dededebc558ef6a",
			"ca854ea128ed050b41b35ffc1b87b8eb2bde461e9e3b5596ece6b9d5975a0ae0",
			"d37ee418976dd95753c1c73862b9398fa2a2cf9b4ff0fdfe8b30cd95209614b7"}},
		{2, 5, []string{
			"5f083f0a1a33ca076a95279832580db3e0ef4584bdff1f54c8a360f50de3031e",
			"bc1a0643b12e4d2d7c77918f44e0f4f79a838b6cf9ec5b5c283e1f4d88599e6b"}},
		{4, 8, []string{"6b47aaf29ee3c2af9af889bc1fb9254dabd31177f16232dd6aab035ca39bf6e4"}},
		{8, 8, nil},
	} {
		var want []api.Hash
		for _, digits := range x.proof {
			want = append(want, written(t, digits))
		}
		if proof := proved(t, l[:x.n], x.m); !slices.Equal(proof, want) {
			t.Errorf("Prove of the first %d of %d: %x", x.m, x.n, proof)
		}
		mustPass(t, x.m, x.n, knownRoot(t, x.m), knownRoot(t, x.n), want)
	}
}

// Proofs whose nodes are written out one by one.
func TestProveOfFew(t *testing.T) {
	x := dice(207)
	l := x.hashes(8)
	node := leaves.Node
	pair := func(i int) api.Hash { return node(l[i], l[i+1]) }
	four := node(pair(0), pair(2))
	for _, want := range []struct {
		m, n  int
		proof []api.Hash
	}{
		{1, 2, []api.Hash{l[1]}},
		{1, 3, []api.Hash{l[1], l[2]}},
		{2, 3, []api.Hash{l[2]}},
		{1, 4, []api.Hash{l[1], pair(2)}},
		{2, 4, []api.Hash{pair(2)}},
		{3, 4, []api.Hash{l[2], l[3], pair(0)}},
		{3, 5, []api.Hash{l[2], l[3], pair(0), l[4]}},
		{4, 5, []api.Hash{l[4]}},
		{4, 6, []api.Hash{pair(4)}},
		{5, 6, []api.Hash{l[4], l[5], four}},
		{3, 7, []api.Hash{l[2], l[3], pair(0), node(pair(4), l[6])}},
		{4, 7, []api.Hash{node(pair(4), l[6])}},
		{5, 7, []api.Hash{l[4], l[5], l[6], four}},
		{6, 7, []api.Hash{pair(4), l[6], four}},
		{6, 8, []api.Hash{pair(4), pair(6), four}},
		{7, 8, []api.Hash{l[6], l[7], pair(4), four}},
	} {
		if proof := proved(t, l[:want.n], want.m); !slices.Equal(proof, want.proof) {
			t.Errorf("Prove of the first %d of %d: %x", want.m, want.n, proof)
		}
	}
}

// P12.2

func TestCheckExamples(t *testing.T) {
	a, b, c, r := alike(1), alike(2), alike(3), alike(4)
	first := leaves.Node(a, b)
	mustPass(t, 2, 3, first, leaves.Node(first, c), []api.Hash{c})
	mustPass(t, 3, 3, r, r, nil)
	if e := mustCheck(t, 3, 2, r, r, nil); e != api.ErrArg {
		t.Errorf("Check of 3, 2: %v", e)
	}
}

// No beginning, whatever else is handed in: a proof that leads to the roots of what
// there is, too.
func TestCheckOfNoBeginning(t *testing.T) {
	x := dice(211)
	l := x.hashes(9)
	ends := []int{math.MinInt, math.MinInt + 1, -1 << 32, -2, -1, 0, 1, 2, 8, 9, 10, 1 << 32, 1 << 62, math.MaxInt - 1, math.MaxInt}
	for _, n := range ends {
		for _, m := range append([]int{n - 1, n, n + 1}, ends...) {
			if m >= 1 && m <= n {
				continue
			}
			for _, many := range []int{0, 1, 2, 4, 9} {
				for _, root := range []api.Hash{l[0], rootOf(l), {}} {
					if e := mustCheck(t, m, n, l[0], root, l[:many]); e != api.ErrArg {
						t.Errorf("Check of the first %d of %d: %v", m, n, e)
					}
				}
			}
		}
	}
	for m := 1; m <= 9; m++ {
		proof := proved(t, l, m)
		a, b := rootOf(l[:m]), rootOf(l)
		for _, n := range []int{m - 1, 0, -1, -9, math.MinInt} {
			if e := mustCheck(t, m, n, a, b, proof); e != api.ErrArg {
				t.Errorf("Check of the first %d of %d: %v", m, n, e)
			}
		}
		for _, wrong := range []int{m - 9, m + 9, -m, math.MinInt + m, math.MaxInt - m} {
			if e := mustCheck(t, wrong, 9, a, b, proof); e != api.ErrArg {
				t.Errorf("Check of the first %d of 9: %v", wrong, e)
			}
		}
	}
}

// All of them: both roots are one, by no hashes.
func TestCheckOfAll(t *testing.T) {
	x := dice(212)
	for _, n := range counts() {
		h := x.hash()
		for _, proof := range [][]api.Hash{nil, {}, make([]api.Hash, 0, 5)} {
			mustPass(t, n, n, h, h, proof)
			mustFail(t, n, n, h, turned(h, 31, 1), proof)
			mustFail(t, n, n, turned(h, 0, 0x80), h, proof)
			mustFail(t, n, n, h, leaves.Node(h, h), proof)
		}
		for _, other := range []api.Hash{h, {}, x.hash()} {
			mustFail(t, n, n, h, h, []api.Hash{other})
			mustFail(t, n, n, h, leaves.Node(h, other), []api.Hash{other})
			mustFail(t, n, n, h, leaves.Node(other, h), []api.Hash{other})
			mustFail(t, n, n, leaves.Node(other, h), leaves.Node(other, h), []api.Hash{h, other})
			mustFail(t, n, n, h, h, []api.Hash{h, other})
		}
	}
	for _, h := range []api.Hash{{}, alike(0xff), leaves.Empty(), leaves.Leaf("")} {
		mustPass(t, 1, 1, h, h, nil)
		mustPass(t, math.MaxInt, math.MaxInt, h, h, nil)
	}
}

// No hashes at all lead to nothing, if there is one leaf more than the first ones.
func TestCheckOfNoHashes(t *testing.T) {
	x := dice(213)
	for _, n := range counts() {
		for _, m := range []int{1, 2, n / 2, splitOf(n), n - 1} {
			if m < 1 || m >= n {
				continue
			}
			h := x.hash()
			for _, b := range []api.Hash{h, {}, leaves.Empty(), leaves.Node(h, h)} {
				mustFail(t, m, n, h, b, nil)
				mustFail(t, m, n, b, b, []api.Hash{})
				mustFail(t, m, n, b, h, nil)
			}
		}
	}
}

// As many hashes as are asked for, one less and one more, of any number of leaves:
// with the roots that they lead to.
func TestCheckOfAsManyHashes(t *testing.T) {
	x := dice(214)
	l := x.hashes(70)
	for _, n := range counts() {
		for _, m := range []int{1, 2, n/3 + 1, splitOf(n) - 1, splitOf(n), splitOf(n) + 1, n - 1, n} {
			if m < 1 || m > n {
				continue
			}
			many := asked(m, n)
			a, b := led(t, m, n, x.hash(), l[:many])
			mustPass(t, m, n, a, b, l[:many])
			mustFail(t, m, n, a, turned(b, x.below(32), 1<<x.below(8)), l[:many])
			mustFail(t, m, n, turned(a, x.below(32), 1<<x.below(8)), b, l[:many])
			for _, wrong := range []int{many - 1, many + 1, 70} {
				if wrong >= 0 {
					mustFail(t, m, n, a, b, l[:wrong])
				}
			}
			mustFail(t, m, n, a, b, slices.Concat([]api.Hash{a}, l[:many]))
		}
	}
}

// Each number of first leaves around each power of two, of the greatest numbers.
func TestCheckAroundPowersOfTwo(t *testing.T) {
	x := dice(215)
	l := x.hashes(64)
	for _, n := range []int{math.MaxInt, math.MaxInt - 1, 1 << 62, 1<<62 + 1, 1<<62 - 1, 1 << 32, 1<<31 + 1, 1000} {
		for _, m := range firstsOf(n) {
			proof := l[:asked(m, n)]
			a, b := led(t, m, n, l[63], proof)
			mustPass(t, m, n, a, b, proof)
			if m < n {
				mustFail(t, m, n, b, a, proof)
			}
		}
	}
}

// The greatest number of leaves: at the most there are 64 hashes.
func TestCheckOfTheGreatestNumber(t *testing.T) {
	x := dice(216)
	l := x.hashes(66)
	for _, first := range []struct{ m, many int }{
		{1, 63}, {2, 62}, {3, 64}, {1<<62 - 1, 64}, {1 << 62, 1}, {1<<62 + 1, 64}, {math.MaxInt - 1, 63}, {math.MaxInt, 0},
	} {
		if many := asked(first.m, math.MaxInt); many != first.many {
			t.Errorf("the first %d of the greatest number: %d hashes", first.m, many)
			continue
		}
		proof := l[:first.many]
		a, b := led(t, first.m, math.MaxInt, l[65], proof)
		mustPass(t, first.m, math.MaxInt, a, b, proof)
		mustFail(t, first.m, math.MaxInt, a, b, l[:first.many+1])
		if first.many > 0 {
			mustFail(t, first.m, math.MaxInt, a, b, l[:first.many-1])
			mustFail(t, first.m, math.MaxInt, a, b, changed(proof, 0, l[65]))
		}
	}
	if e := mustCheck(t, math.MaxInt, math.MaxInt-1, l[0], l[0], nil); e != api.ErrArg {
		t.Errorf("one more than there are: %v", e)
	}
}

func TestCheckOfAnyNumbers(t *testing.T) {
	x := dice(217)
	l := x.hashes(64)
	for range 1500 {
		n := 1 + x.number()%(math.MaxInt-1)
		m := 1 + x.number()%n
		proof := l[:asked(m, n)]
		a, b := led(t, m, n, x.hash(), proof)
		mustPass(t, m, n, a, b, proof)
		mustCheck(t, x.number()-x.number(), n, a, b, proof)
		mustCheck(t, m, x.number()-x.number(), a, b, proof)
		mustFail(t, m, n, a, x.hash(), proof)
		mustFail(t, m, n, x.hash(), b, proof)
	}
}

// Roots whose nodes are written out one by one: each hash on its own side.
func TestCheckOfFew(t *testing.T) {
	x := dice(218)
	a, p, q, r, s := x.hash(), x.hash(), x.hash(), x.hash(), x.hash()
	node := leaves.Node
	for _, way := range []struct {
		m, n  int
		proof []api.Hash
		a, b  api.Hash
	}{
		{1, 2, []api.Hash{p}, a, node(a, p)},
		{1, 3, []api.Hash{p, q}, a, node(node(a, p), q)},
		{2, 3, []api.Hash{p}, a, node(a, p)},
		{1, 4, []api.Hash{p, q}, a, node(node(a, p), q)},
		{3, 4, []api.Hash{p, q, r}, node(r, p), node(r, node(p, q))},
		{3, 5, []api.Hash{p, q, r, s}, node(r, p), node(node(r, node(p, q)), s)},
		{4, 5, []api.Hash{p}, a, node(a, p)},
		{5, 6, []api.Hash{p, q, r}, node(r, p), node(r, node(p, q))},
		{5, 7, []api.Hash{p, q, r, s}, node(s, p), node(s, node(node(p, q), r))},
		{6, 7, []api.Hash{p, q, r}, node(r, p), node(r, node(p, q))},
		{7, 8, []api.Hash{p, q, r, s}, node(s, node(r, p)), node(s, node(r, node(p, q)))},
		{12, 13, []api.Hash{p, q, r}, node(r, p), node(r, node(p, q))},
		{12, 16, []api.Hash{p, q, r}, node(r, p), node(r, node(p, q))},
		{8, 16, []api.Hash{p}, a, node(a, p)},
	} {
		mustPass(t, way.m, way.n, way.a, way.b, way.proof)
		mustFail(t, way.m, way.n, way.b, way.a, way.proof)
		others := []api.Hash{node(p, a), node(p, r), node(node(p, q), r), node(r, node(q, p)), node(s, node(p, r)), way.a, p, q, r, s, {}}
		for _, other := range others {
			if other != way.b {
				mustFail(t, way.m, way.n, way.a, other, way.proof)
			}
			if other != way.a {
				mustFail(t, way.m, way.n, other, way.b, way.proof)
			}
		}
	}
}

// With no part on the left the root of the first ones is in no hash of the proof:
// it leads to all from the one that is handed in.
func TestCheckGoesOnFromTheFirstRoot(t *testing.T) {
	x := dice(219)
	for bit := range 6 {
		m := 1 << bit
		for n := m + 1; n <= 70; n++ {
			proof := x.hashes(asked(m, n))
			a, other := x.hash(), x.hash()
			_, b := led(t, m, n, a, proof)
			_, c := led(t, m, n, other, proof)
			mustPass(t, m, n, a, b, proof)
			mustPass(t, m, n, other, c, proof)
			mustFail(t, m, n, a, c, proof)
			mustFail(t, m, n, other, b, proof)
		}
	}
}

// A hash that the proof lacks is none, and not one of zeros: be the first one, the
// last one, or all of them of zeros.
func TestCheckOfHashesOfZeros(t *testing.T) {
	x := dice(224)
	for n := 2; n <= 20; n++ {
		for m := 1; m < n; m++ {
			many := asked(m, n)
			some := x.hashes(many)
			for _, proof := range [][]api.Hash{
				make([]api.Hash, many),
				changed(some, 0, api.Hash{}),
				changed(some, many-1, api.Hash{}),
			} {
				a, b := led(t, m, n, x.hash(), proof)
				mustPass(t, m, n, a, b, proof)
				mustFail(t, m, n, a, b, proof[1:])
				mustFail(t, m, n, a, b, proof[:many-1])
				mustFail(t, m, n, a, b, nil)
				mustFail(t, m, n, a, b, slices.Concat(proof, make([]api.Hash, 1)))
				mustFail(t, m, n, a, b, slices.Concat(make([]api.Hash, 1), proof))
			}
		}
	}
}

// A proof of very many hashes ends, and is none.
func TestCheckOfALongProof(t *testing.T) {
	x := dice(220)
	l := x.hashes(7)
	proof := proved(t, l, 5)
	long := slices.Concat(proof, make([]api.Hash, 1<<16))
	a, b := rootOf(l[:5]), rootOf(l)
	if e := consist.Check(5, 7, a, b, long); e != api.ErrProof {
		t.Errorf("Check of 5 of 7: %v", e)
	}
	for _, m := range []int{1, 5, 1 << 62, math.MaxInt} {
		if e := consist.Check(m, math.MaxInt, a, b, long); e != api.ErrProof {
			t.Errorf("Check of %d of the greatest number: %v", m, e)
		}
	}
}

// Nothing of a list is looked at later, and no answer hangs on an earlier one.
func TestTheSameAgain(t *testing.T) {
	x := dice(221)
	l, o := x.hashes(33), x.hashes(70)
	first, _ := consist.Prove(l, 21)
	was := slices.Clone(first)
	second, _ := consist.Prove(o, 21)
	if e := consist.Check(21, 70, rootOf(o[:21]), rootOf(o), second); e != api.OK {
		t.Errorf("Check: %v", e)
	}
	if e := consist.Check(22, 70, rootOf(o[:21]), rootOf(o), second); e != api.ErrProof {
		t.Errorf("Check of another beginning: %v", e)
	}
	again, _ := consist.Prove(l, 21)
	if !slices.Equal(first, was) || !slices.Equal(again, was) {
		t.Error("an answer hangs on what was asked ahead of it, or behind")
	}
	overwrite(first, 0xee)
	if !slices.Equal(again, was) {
		t.Error("two answers of one memory")
	}
}

// With a no at the end, and one leaf there, the proof's first hash is the leaf: it
// is told, but not as the list's own memory.
func TestProvedLeavesAreNotTheListsOwn(t *testing.T) {
	x := dice(222)
	for n := 2; n <= 20; n++ {
		for m := 1; m <= n; m++ {
			l := x.hashes(n)
			was := slices.Clone(l)
			proof, _ := consist.Prove(l, m)
			overwrite(proof, 0xee)
			if !slices.Equal(l, was) {
				t.Fatalf("the first %d of %d: what was told is the list's own", m, n)
			}
		}
	}
}

func TestSideBySide(t *testing.T) {
	x := dice(223)
	l := x.hashes(70)
	root := rootOf(l)
	var all sync.WaitGroup
	for seed := 1; seed < 9; seed++ {
		all.Go(func() {
			x := dice(seed)
			for range 30 {
				m := 1 + x.below(len(l))
				proof, e := consist.Prove(l, m)
				if e != api.OK || !slices.Equal(proof, proofOf(l, m)) || consist.Check(m, len(l), rootOf(l[:m]), root, proof) != api.OK {
					t.Error("an answer hangs on what is asked beside it")
				}
			}
		})
	}
	all.Wait()
}
