package runs_test

import (
	"math"
	"slices"
	"testing"

	"sealingwax/api"
	"sealingwax/runs"
)

// P7.1

func TestFreeExample(t *testing.T) {
	if l := runs.Free([]int{api.BkBlank, api.BkBlank, api.BkWritten, api.BkBlank}); !slices.Equal(l, of(0, 2, 3, 1)) {
		t.Error(l)
	}
}

func TestFreeEdges(t *testing.T) {
	for i, x := range []struct {
		states []int
		want   []api.Run
	}{
		{nil, nil},
		{[]int{}, nil},
		{[]int{0}, of(0, 1)},
		{[]int{1}, nil},
		{[]int{2}, nil},
		{[]int{0, 1, 2}, of(0, 1)},
		{[]int{2, 1, 0}, of(2, 1)},
		{[]int{1, 0, 2}, of(1, 1)},
		{[]int{2, 0, 1}, of(1, 1)},
		{[]int{0, 0, 0, 0, 0}, of(0, 5)},
		{[]int{1, 2, 1, 1, 2}, nil},
		{[]int{0, 1, 1, 2}, of(0, 1)},
		{[]int{1, 2, 2, 0}, of(3, 1)},
		{[]int{0, 2, 1, 0}, of(0, 1, 3, 1)},
		{[]int{1, 1, 0, 2, 2}, of(2, 1)},
		{[]int{0, 0, 1, 0, 0, 2, 1, 0, 0}, of(0, 2, 3, 2, 7, 2)},
		{[]int{-1, 3, math.MaxInt, math.MinInt, 256, 1 << 32}, nil}, // no state, and none of them blank
		{[]int{-1, 0, 3, 0, 0, 1 << 32}, of(1, 1, 3, 2)},
	} {
		if got := mustFree(t, x.states); !slices.Equal(got, x.want) {
			t.Errorf("%d: Free of %v = %v, want %v", i, x.states, got, x.want)
		}
	}
}

func TestFreeOfAllShortLists(t *testing.T) {
	for n := range 8 {
		states := make([]int, n)
		for left := true; left; {
			mustFree(t, states)
			left = false
			for i := range states {
				if states[i]++; states[i] < 3 {
					left = true
					break
				}
				states[i] = 0
			}
		}
	}
}

func TestFreeOfLongLists(t *testing.T) {
	x := dice(7)
	for range 200 {
		states := make([]int, x.below(600))
		few := 1 + x.below(9)
		for i := range states {
			states[i] = max(0, x.below(2+few)+1-few)
		}
		mustFree(t, states)
	}
	all := runs.Free(make([]int, 1000000))
	if !slices.Equal(all, of(0, 1000000)) {
		t.Error(all)
	}
}

func TestFreeKeepsNothing(t *testing.T) {
	states := []int{0, 0, 1, 0, 2, 0, 1}
	first := runs.Free(states)
	second := runs.Free(states)
	spoil(second)
	clear(states)
	if !slices.Equal(first, of(0, 2, 3, 1, 5, 1)) {
		t.Error(first)
	}
	if whole := runs.Free(states); !slices.Equal(whole, of(0, 7)) {
		t.Error(whole)
	}
}

func TestCheckEdges(t *testing.T) {
	for _, x := range []struct {
		l    []api.Run
		want bool
	}{
		{nil, true},
		{[]api.Run{}, true},
		{of(0, 1), true},
		{of(5, 3), true},
		{of(0, 0), false},
		{of(-1, 1), false},
		{of(-1, 2), false},
		{of(-1, 0), false},
		{of(3, 0), false},
		{of(3, -1), false},
		{of(3, 1), true},
		{of(bound-1, 1), true},
		{of(bound-1, 2), false},
		{of(bound, 1), false},
		{of(bound-2, 2), true},
		{of(bound-5, 5), true},
		{of(bound-5, 6), false},
		{of(0, bound), true},
		{of(0, bound+1), false},
		{of(1, bound-1), true},
		{of(1, bound), false},
		{of(math.MaxInt, 1), false},
		{of(math.MaxInt, math.MaxInt), false},
		{of(1, math.MaxInt), false},
		{of(0, math.MaxInt), false},
		{of(math.MaxInt, math.MinInt), false},
		{of(math.MinInt, math.MaxInt), false},
		{of(math.MinInt, math.MinInt), false},
		{of(math.MinInt, 1), false},
		{of(1, math.MinInt), false},
		{of(bound-1, math.MaxInt), false},
		{of(math.MaxInt-bound, bound), false},
	} {
		mustCheck(t, x.l, x.want)
	}
}

func TestCheckOfTwo(t *testing.T) {
	for _, x := range []struct {
		l    []api.Run
		want bool
	}{
		{of(0, 2, 2, 1), false}, // they touch
		{of(0, 2, 3, 1), true},
		{of(0, 2, 4, 1), true},
		{of(0, 2, 1, 1), false}, // they overlap
		{of(0, 2, 1, 5), false},
		{of(0, 5, 1, 1), false}, // one lies in the other one
		{of(0, 2, 0, 2), false},
		{of(3, 1, 0, 2), false}, // the other way about
		{of(2, 1, 0, 2), false},
		{of(9, 1, 0, 2), false},
		{of(bound-1, 1, 0, 1), false},
		{of(0, bound-2, bound-1, 1), true},
		{of(0, bound-1, bound-1, 1), false},
		{of(0, bound, bound+1, 1), false},
		{of(0, 1, bound-1, 2), false},
		{of(0, 1, math.MaxInt, math.MaxInt), false},
		{of(math.MaxInt, math.MaxInt, 0, 1), false},
		{of(0, math.MaxInt, 1, 1), false},
		{of(1, math.MaxInt, 5, 1), false},
	} {
		mustCheck(t, x.l, x.want)
	}
}

// All lists of up to three small runs, most of them not in order.
func TestCheckOfAllSmallLists(t *testing.T) {
	eachList(3, func(l []api.Run) { mustCheck(t, l, inOrder(l)) })
}

func TestCheckWhereOneIsWrong(t *testing.T) {
	l := of(0, 2, 3, 4, 8, 1, 10, 90, bound-9, 9)
	mustCheck(t, l, true)
	for i := range l {
		for _, r := range of(l[i].Start, 0, -1, 1, l[i].Start-1, l[i].Count+1, l[i].Start, bound, l[i].Start, math.MaxInt, math.MaxInt, 1) {
			m := slices.Clone(l)
			m[i] = r
			mustCheck(t, m, inOrder(m))
			mustTotal(t, m, totalOf(m))
		}
		mustCheck(t, slices.Insert(slices.Clone(l), i, l[i]), false)
		mustCheck(t, slices.Delete(slices.Clone(l), i, i+1), true)
	}
}

// eachList goes through all lists of up to so many runs, each of them such as may
// be or may not be.
func eachList(most int, do func(l []api.Run)) {
	do(nil)
	if most == 0 {
		return
	}
	for start := -1; start < 7; start++ {
		for count := -1; count < 4; count++ {
			eachList(most-1, func(l []api.Run) {
				do(append(of(start, count), l...))
			})
		}
	}
}

// totalOf is what Total has to be of runs whose blocks are too many to be gone
// through.
func totalOf(l []api.Run) int {
	sum := 0
	for _, r := range l {
		sum += r.Count
	}
	if !inOrder(l) {
		return 0
	}
	return sum
}

// P7.2

func TestTakeExample(t *testing.T) {
	mustTakeSo(t, of(0, 2, 3, 4), 3, api.Run{Start: 3, Count: 3}, of(0, 2, 6, 1), true)
}

func TestTakeEdges(t *testing.T) {
	l := of(1, 2, 4, 4, 9, 3, 20, 5)
	for _, x := range []struct {
		n    int
		r    api.Run
		rest []api.Run
		ok   bool
	}{
		{math.MinInt, api.Run{}, nil, false},
		{-5, api.Run{}, nil, false},
		{-1, api.Run{}, nil, false},
		{0, api.Run{}, nil, false},
		{1, api.Run{Start: 1, Count: 1}, of(2, 1, 4, 4, 9, 3, 20, 5), true},
		{2, api.Run{Start: 1, Count: 2}, of(4, 4, 9, 3, 20, 5), true},
		{3, api.Run{Start: 4, Count: 3}, of(1, 2, 7, 1, 9, 3, 20, 5), true}, // not the one that has just as many
		{4, api.Run{Start: 4, Count: 4}, of(1, 2, 9, 3, 20, 5), true},
		{5, api.Run{Start: 20, Count: 5}, of(1, 2, 4, 4, 9, 3), true},
		{6, api.Run{}, nil, false},
		{14, api.Run{}, nil, false}, // all of them have as many
		{bound, api.Run{}, nil, false},
		{math.MaxInt, api.Run{}, nil, false},
	} {
		mustTakeSo(t, l, x.n, x.r, x.rest, x.ok)
		mustTake(t, l, x.n)
	}
}

func TestTakeOfOneRun(t *testing.T) {
	for n := -2; n < 9; n++ {
		mustTake(t, of(4, 6), n)
		mustTake(t, of(0, 6), n)
		mustTake(t, nil, n)
		mustTake(t, []api.Run{}, n)
	}
	mustTakeSo(t, of(4, 6), 6, api.Run{Start: 4, Count: 6}, nil, true)
	mustTakeSo(t, of(4, 6), 7, api.Run{}, nil, false)
	mustTakeSo(t, nil, 1, api.Run{}, nil, false)
}

func TestTakeOfTheGreatest(t *testing.T) {
	for _, x := range []struct {
		l    []api.Run
		n    int
		r    api.Run
		rest []api.Run
	}{
		{of(0, bound), bound, api.Run{Count: bound}, nil},
		{of(0, bound), bound - 1, api.Run{Count: bound - 1}, of(bound-1, 1)},
		{of(0, bound), 1, api.Run{Count: 1}, of(1, bound-1)},
		{of(0, 1, bound-1, 1), 1, api.Run{Count: 1}, of(bound-1, 1)},
		{of(0, 1, bound-2, 2), 2, api.Run{Start: bound - 2, Count: 2}, of(0, 1)},
		{of(0, 1, 2, bound-2), 1 << 39, api.Run{Start: 2, Count: 1 << 39}, of(0, 1, 2+1<<39, bound-2-1<<39)},
	} {
		mustTakeSo(t, x.l, x.n, x.r, x.rest, true)
	}
	mustTakeSo(t, of(0, bound), bound+1, api.Run{}, nil, false)
	mustTakeSo(t, of(0, bound), math.MaxInt, api.Run{}, nil, false)
	mustTakeSo(t, of(1, bound), 1, api.Run{}, nil, false)
	mustTakeSo(t, of(0, math.MaxInt), 1, api.Run{}, nil, false)
	mustTakeSo(t, of(math.MaxInt, math.MaxInt), 1, api.Run{}, nil, false)
}

func TestTakeOfAllSets(t *testing.T) {
	taken := 0
	each(9, func(l []api.Run) {
		for n := -1; n < 11; n++ {
			if mustTake(t, l, n) {
				taken++
			}
		}
	})
	if taken == 0 {
		t.Error("none was taken")
	}
}

// Where the first runs would do, but a later one may not be, there is nothing.
func TestTakeOfRunsThatAreNotInOrder(t *testing.T) {
	for _, l := range [][]api.Run{
		of(0, 2, 2, 1), of(0, 2, 1, 1), of(3, 1, 0, 2), of(0, 2, 3, 0), of(0, 2, 3, -1), of(-1, 2, 5, 5),
		of(0, 2, bound, 1), of(0, 2, bound-1, 2), of(0, 5, 6, math.MaxInt), of(0, 5, math.MaxInt, 1), of(0, 0),
	} {
		for _, n := range []int{-1, 0, 1, 2, 3, 5, bound, math.MaxInt} {
			mustTakeSo(t, l, n, api.Run{}, nil, false)
		}
	}
	eachList(2, func(l []api.Run) {
		for n := -1; n < 5; n++ {
			mustTake(t, l, n)
		}
	})
}

func TestGiveExample(t *testing.T) {
	mustGiveSo(t, of(0, 2, 5, 1), api.Run{Start: 2, Count: 3}, of(0, 6), true)
	mustGiveSo(t, of(0, 2, 5, 1), api.Run{Start: 1, Count: 1}, nil, false)
}

func TestGiveEdges(t *testing.T) {
	l := of(10, 5, 20, 5, 30, 5)
	for _, x := range []struct {
		start, count int
		want         []api.Run // none: it may not be given
	}{
		{0, 3, of(0, 3, 10, 5, 20, 5, 30, 5)}, // ahead of all
		{0, 9, of(0, 9, 10, 5, 20, 5, 30, 5)},
		{0, 10, of(0, 15, 20, 5, 30, 5)}, // touching the first one
		{0, 11, nil},
		{9, 1, of(9, 6, 20, 5, 30, 5)},
		{9, 2, nil},
		{36, 2, of(10, 5, 20, 5, 30, 5, 36, 2)}, // behind all
		{35, 2, of(10, 5, 20, 5, 30, 7)},
		{34, 2, nil},
		{17, 1, of(10, 5, 17, 1, 20, 5, 30, 5)}, // between two, touching neither
		{16, 3, of(10, 5, 16, 3, 20, 5, 30, 5)},
		{15, 1, of(10, 6, 20, 5, 30, 5)}, // the one ahead
		{15, 4, of(10, 9, 20, 5, 30, 5)},
		{19, 1, of(10, 5, 19, 6, 30, 5)}, // the one behind
		{16, 4, of(10, 5, 16, 9, 30, 5)},
		{15, 5, of(10, 15, 30, 5)}, // both
		{25, 5, of(10, 5, 20, 15)},
		{14, 2, nil}, // a block of the one ahead
		{14, 1, nil},
		{14, 6, nil},
		{16, 5, nil}, // a block of the one behind
		{20, 1, nil},
		{15, 6, nil},
		{14, 7, nil},
		{21, 3, nil}, // in another one
		{20, 4, nil},
		{21, 4, nil},
		{20, 5, nil},
		{19, 7, nil}, // with another one in it
		{16, 10, nil},
		{15, 15, nil},
		{0, 100, nil},
		{20, 10, nil},
		{15, 10, nil},
		{17, 0, nil}, // none that may be
		{17, -1, nil},
		{-1, 1, nil},
		{-1, 3, nil},
		{-3, 2, nil},
		{bound, 1, nil},
		{bound - 1, 1, of(10, 5, 20, 5, 30, 5, bound-1, 1)},
		{bound - 1, 2, nil},
		{35, bound - 35, of(10, 5, 20, 5, 30, bound-30)},
		{36, bound - 36, of(10, 5, 20, 5, 30, 5, 36, bound-36)},
		{35, bound - 34, nil},
		{40, math.MaxInt, nil},
		{math.MaxInt, 1, nil},
		{math.MaxInt, math.MaxInt, nil},
		{math.MinInt, math.MaxInt, nil},
		{math.MinInt, math.MinInt, nil},
		{40, math.MinInt, nil},
	} {
		mustGiveSo(t, l, api.Run{Start: x.start, Count: x.count}, x.want, x.want != nil)
	}
}

func TestGiveToNone(t *testing.T) {
	for start := -2; start < 5; start++ {
		for count := -2; count < 5; count++ {
			mustGive(t, nil, api.Run{Start: start, Count: count})
			mustGive(t, []api.Run{}, api.Run{Start: start, Count: count})
		}
	}
	mustGiveSo(t, nil, api.Run{Start: 7, Count: 3}, of(7, 3), true)
	mustGiveSo(t, nil, api.Run{Count: bound}, of(0, bound), true)
	mustGiveSo(t, nil, api.Run{Count: bound + 1}, nil, false)
}

func TestGiveOfTheGreatest(t *testing.T) {
	mustGiveSo(t, of(0, bound), api.Run{Count: 1}, nil, false)
	mustGiveSo(t, of(0, bound), api.Run{Start: bound - 1, Count: 1}, nil, false)
	mustGiveSo(t, of(0, bound-1), api.Run{Start: bound - 1, Count: 1}, of(0, bound), true)
	mustGiveSo(t, of(1, bound-1), api.Run{Count: 1}, of(0, bound), true)
	mustGiveSo(t, of(0, 1, bound-1, 1), api.Run{Start: 1, Count: bound - 2}, of(0, bound), true)
	mustGiveSo(t, of(0, 1, bound-1, 1), api.Run{Start: 2, Count: bound - 4}, of(0, 1, 2, bound-4, bound-1, 1), true)
	mustGiveSo(t, of(0, 1, bound-1, 1), api.Run{Start: 1, Count: bound - 1}, nil, false)
	mustGiveSo(t, of(0, 1, bound-1, 1), api.Run{Start: 0, Count: bound - 1}, nil, false)
}

func TestGiveOfAllSets(t *testing.T) {
	given, refused := 0, 0
	each(8, func(l []api.Run) {
		for start := -1; start < 10; start++ {
			for count := -1; count < 11; count++ {
				if mustGive(t, l, api.Run{Start: start, Count: count}) {
					given++
				} else {
					refused++
				}
			}
		}
	})
	if given == 0 || refused == 0 {
		t.Error(given, refused)
	}
}

// Where the run itself lies free of all of them, too.
func TestGiveToRunsThatAreNotInOrder(t *testing.T) {
	for _, l := range [][]api.Run{
		of(0, 2, 2, 1), of(0, 2, 1, 1), of(3, 1, 0, 2), of(0, 2, 3, 0), of(0, 2, 3, -1), of(-1, 2, 5, 5),
		of(0, 2, bound, 1), of(0, 2, bound-1, 2), of(0, 5, 6, math.MaxInt), of(0, 5, math.MaxInt, 1), of(0, 0),
	} {
		for _, r := range of(0, 1, 2, 1, 3, 1, 20, 2, bound-1, 1, 0, bound, -1, 1, 5, 0) {
			mustGiveSo(t, l, r, nil, false)
		}
	}
	eachList(2, func(l []api.Run) {
		for start := -1; start < 12; start += 2 {
			mustGive(t, l, api.Run{Start: start, Count: 1})
			mustGive(t, l, api.Run{Start: start, Count: 2})
		}
	})
}

func TestTotalEdges(t *testing.T) {
	for _, x := range []struct {
		l    []api.Run
		want int
	}{
		{of(0, 2, 5, 1), 3},
		{nil, 0},
		{[]api.Run{}, 0},
		{of(0, 1), 1},
		{of(7, 9), 9},
		{of(0, bound), bound},
		{of(0, 1, 2, bound-2), bound - 1},
		{of(0, 2, 2, 1), 0},
		{of(5, 1, 0, 2), 0},
		{of(0, 3, 2, 1), 0},
		{of(-1, 3), 0},
		{of(0, 3, 9, 0), 0},
		{of(0, 3, 9, -1), 0},
		{of(0, bound+1), 0},
		{of(0, 3, bound, 1), 0},
		{of(0, 3, 9, math.MaxInt), 0},
		{of(0, math.MaxInt), 0},
	} {
		mustTotal(t, x.l, x.want)
	}
}

func TestTotalOfAll(t *testing.T) {
	each(10, func(l []api.Run) { mustTotal(t, l, total(l)) })
	eachList(3, func(l []api.Run) { mustTotal(t, l, total(l)) })
}

func TestAnswersAreMemoryOfTheirOwn(t *testing.T) {
	l := append(make([]api.Run, 0, 9), of(0, 2, 5, 4, 20, 1)...)
	_, rest, _ := runs.Take(l, 3)
	_, whole, _ := runs.Take(l, 2)
	more, _ := runs.Give(l, api.Run{Start: 40, Count: 1})
	grown, _ := runs.Give(l, api.Run{Start: 2, Count: 3})
	was := [][]api.Run{slices.Clone(rest), slices.Clone(whole), slices.Clone(more), slices.Clone(grown)}
	_ = append(l, of(90, 1, 92, 1)...)
	spoil(l)
	for i, answer := range [][]api.Run{rest, whole, more, grown} {
		if !slices.Equal(answer, was[i]) {
			t.Errorf("%d: %v, and it was %v", i, answer, was[i])
		}
		spoil(answer)
	}
}
