package runs_test

import (
	"math/big"
	"slices"
	"testing"

	"sealingwax/api"
	"sealingwax/runs"
)

// All blocks' numbers are below it: 2^40, as a number, so that nothing here leans
// on the program's own.
const bound = 1099511627776

// of is runs out of pairs of a Start and a Count.
func of(pairs ...int) []api.Run {
	var out []api.Run
	for i := 0; i < len(pairs); i += 2 {
		out = append(out, api.Run{Start: pairs[i], Count: pairs[i+1]})
	}
	return out
}

// inOrder is Check in the chapter's own words, by numbers without a bound.
func inOrder(l []api.Run) bool {
	behind := big.NewInt(-1) // the end of none: the first run may begin at 0
	for _, r := range l {
		start, count := big.NewInt(int64(r.Start)), big.NewInt(int64(r.Count))
		stop := new(big.Int).Add(start, count)
		if start.Sign() < 0 || count.Sign() < 1 || stop.Cmp(big.NewInt(bound)) > 0 {
			return false
		}
		if start.Cmp(behind) <= 0 {
			return false
		}
		behind = stop
	}
	return true
}

// blocksOf is the numbers of all blocks of runs, one by one.
func blocksOf(l []api.Run) []int {
	var out []int
	for _, r := range l {
		for i := range r.Count {
			out = append(out, r.Start+i)
		}
	}
	return out
}

// runsOf is the runs in order of blocks: one begins where the block ahead is none
// of them.
func runsOf(blocks []int) []api.Run {
	blocks = slices.Sorted(slices.Values(blocks))
	var out []api.Run
	for i, b := range blocks {
		if i == 0 || blocks[i-1] != b-1 {
			out = append(out, api.Run{Start: b})
		}
		out[len(out)-1].Count++
	}
	return out
}

// free is Free in the chapter's own words.
func free(states []int) []api.Run {
	var blocks []int
	for i, s := range states {
		if s == 0 {
			blocks = append(blocks, i)
		}
	}
	return runsOf(blocks)
}

// take is Take in the chapter's own words.
func take(l []api.Run, n int) (api.Run, []api.Run, bool) {
	if !inOrder(l) || n < 1 {
		return api.Run{}, nil, false
	}
	for _, x := range l {
		blocks := blocksOf([]api.Run{x})
		if len(blocks) < n {
			continue
		}
		left := slices.DeleteFunc(blocksOf(l), func(b int) bool { return slices.Contains(blocks[:n], b) })
		return runsOf(blocks[:n])[0], runsOf(left), true
	}
	return api.Run{}, nil, false
}

// give is Give in the chapter's own words.
func give(l []api.Run, r api.Run) ([]api.Run, bool) {
	if !inOrder(l) || !inOrder([]api.Run{r}) {
		return nil, false
	}
	there, more := blocksOf(l), blocksOf([]api.Run{r})
	for _, b := range more {
		if slices.Contains(there, b) {
			return nil, false
		}
	}
	return runsOf(append(there, more...)), true
}

// total is Total in the chapter's own words.
func total(l []api.Run) int {
	if !inOrder(l) {
		return 0
	}
	return len(blocksOf(l))
}

// watched does something with a list, behind which more may stand in the same
// memory: all of it has to stay as it was.
func watched(t *testing.T, l []api.Run, do func(l []api.Run)) {
	t.Helper()
	whole := append(slices.Clone(l), of(77, 7, -5, 0, 1, 1)...)
	was := slices.Clone(whole)
	do(whole[:len(l)])
	if !slices.Equal(whole, was) {
		t.Fatalf("%v: the list is %v now", was, whole)
	}
}

// mustCheck holds Check against the chapter's words, and against what is wanted.
func mustCheck(t *testing.T, l []api.Run, want bool) {
	t.Helper()
	if inOrder(l) != want {
		t.Fatalf("%v: by the chapter, it is %v", l, !want)
	}
	watched(t, l, func(l []api.Run) {
		t.Helper()
		if got := runs.Check(l); got != want {
			t.Fatalf("Check of %v = %v", l, got)
		}
	})
}

// mustFree holds Free against the chapter's words.
func mustFree(t *testing.T, states []int) []api.Run {
	t.Helper()
	was := slices.Clone(states)
	got := runs.Free(states)
	if want := free(was); !slices.Equal(got, want) || !inOrder(got) || !runs.Check(got) {
		t.Fatalf("Free of %v = %v, want %v", was, got, want)
	}
	if !slices.Equal(states, was) {
		t.Fatalf("Free of %v: the list is %v now", was, states)
	}
	return got
}

// mustTake holds Take against the chapter's words.
func mustTake(t *testing.T, l []api.Run, n int) bool {
	t.Helper()
	r, rest, ok := take(l, n)
	mustTakeSo(t, l, n, r, rest, ok)
	return ok
}

// mustTakeSo holds Take against what is wanted.
func mustTakeSo(t *testing.T, l []api.Run, n int, wantRun api.Run, want []api.Run, wantOK bool) {
	t.Helper()
	watched(t, l, func(l []api.Run) {
		t.Helper()
		r, rest, ok := runs.Take(l, n)
		if r != wantRun || !slices.Equal(rest, want) || ok != wantOK {
			t.Fatalf("Take of %v and %d = %v, %v, %v, want %v, %v, %v", l, n, r, rest, ok, wantRun, want, wantOK)
		}
		if ok && !runs.Check(rest) {
			t.Fatalf("Take of %v and %d: %v are not in order", l, n, rest)
		}
		spoil(rest)
	})
}

// mustGive holds Give against the chapter's words.
func mustGive(t *testing.T, l []api.Run, r api.Run) bool {
	t.Helper()
	want, ok := give(l, r)
	mustGiveSo(t, l, r, want, ok)
	return ok
}

// mustGiveSo holds Give against what is wanted.
func mustGiveSo(t *testing.T, l []api.Run, r api.Run, want []api.Run, wantOK bool) {
	t.Helper()
	watched(t, l, func(l []api.Run) {
		t.Helper()
		got, ok := runs.Give(l, r)
		if !slices.Equal(got, want) || ok != wantOK {
			t.Fatalf("Give of %v and %v = %v, %v, want %v, %v", l, r, got, ok, want, wantOK)
		}
		if ok && !runs.Check(got) {
			t.Fatalf("Give of %v and %v: %v are not in order", l, r, got)
		}
		spoil(got)
	})
}

// spoil changes a list, and what stands behind it in its memory.
func spoil(l []api.Run) {
	l = l[:cap(l)]
	for i := range l {
		l[i] = api.Run{Start: -9, Count: -9}
	}
}

// mustTotal holds Total against the chapter's words, and against what is wanted.
func mustTotal(t *testing.T, l []api.Run, want int) {
	t.Helper()
	watched(t, l, func(l []api.Run) {
		t.Helper()
		if got := runs.Total(l); got != want {
			t.Fatalf("Total of %v = %d, want %d", l, got, want)
		}
	})
}

// each goes through the runs of all sets of blocks below a number.
func each(below int, do func(l []api.Run)) {
	for set := range 1 << below {
		var blocks []int
		for b := range below {
			if set>>b&1 == 1 {
				blocks = append(blocks, b)
			}
		}
		do(runsOf(blocks))
	}
}

// orders goes through all orders of a list.
func orders(l []api.Run, do func(l []api.Run)) {
	if len(l) == 0 {
		do(nil)
	}
	for i := range l {
		others := slices.Delete(slices.Clone(l), i, i+1)
		orders(others, func(m []api.Run) { do(append([]api.Run{l[i]}, m...)) })
	}
}

// dice throws numbers, the same ones each time.
type dice uint32

func (x *dice) below(n int) int {
	*x ^= *x << 13
	*x ^= *x >> 17
	*x ^= *x << 5
	return int(uint32(*x)>>4) % n
}
