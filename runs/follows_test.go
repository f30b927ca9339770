package runs_test

import (
	"slices"
	"testing"

	"sealingwax/api"
	"sealingwax/runs"
)

// P7.3

func mustBe(t *testing.T, what string, l, want []api.Run) {
	t.Helper()
	if !slices.Equal(l, want) {
		t.Fatalf("%s: %v, want %v", what, l, want)
	}
}

// giveAll gives runs one by one, and each of them has to be taken.
func giveAll(t *testing.T, l, given []api.Run) []api.Run {
	t.Helper()
	for _, r := range given {
		more, ok := runs.Give(l, r)
		if !ok || runs.Total(more) != runs.Total(l)+r.Count {
			t.Fatalf("%v is given to %v: %v, %v", r, l, more, ok)
		}
		l = more
	}
	return l
}

func TestTakenAndGivenBack(t *testing.T) {
	each(10, func(l []api.Run) {
		for n := 1; n < 12; n++ {
			r, rest, ok := runs.Take(l, n)
			if !ok {
				continue
			}
			if r.Count != n || runs.Total(rest) != runs.Total(l)-n {
				t.Fatalf("%d of %v: %v, and %v are left", n, l, r, rest)
			}
			mustBe(t, "taken and given back", giveAll(t, rest, []api.Run{r}), l)
		}
	})
}

// Several that are taken, one behind the other, and given back in all orders.
func TestTakenAndGivenBackInAnyOrder(t *testing.T) {
	x := dice(73)
	for range 300 {
		l := runsOf(someBlocks(&x, 40))
		rest, taken := l, []api.Run(nil)
		for range 5 {
			r, left, ok := runs.Take(rest, 1+x.below(6))
			if !ok {
				continue
			}
			if runs.Total(left) != runs.Total(rest)-r.Count {
				t.Fatalf("%v of %v: %v are left", r, rest, left)
			}
			rest, taken = left, append(taken, r)
		}
		orders(taken, func(given []api.Run) {
			mustBe(t, "given back", giveAll(t, rest, given), l)
		})
	}
}

// someBlocks is some of the blocks below a number.
func someBlocks(x *dice, below int) []int {
	var out []int
	few := 2 + x.below(3)
	for b := range below {
		if x.below(few) > 0 {
			out = append(out, b)
		}
	}
	return out
}

func TestTakenUntilThereIsNone(t *testing.T) {
	each(9, func(l []api.Run) {
		rest, total := l, 0
		for {
			r, left, ok := runs.Take(rest, 1)
			if !ok {
				break
			}
			if r != (api.Run{Start: rest[0].Start, Count: 1}) {
				t.Fatalf("%v is taken of %v", r, rest)
			}
			rest, total = left, total+1
		}
		if len(rest) != 0 || total != runs.Total(l) {
			t.Fatalf("%v: %d were taken, and %v are left", l, total, rest)
		}
	})
}

// The runs themselves, in all orders, and the same blocks in other pieces.
func TestGivenOneByOne(t *testing.T) {
	each(9, func(l []api.Run) {
		orders(l, func(given []api.Run) { mustBe(t, "given one by one", giveAll(t, nil, given), l) })
		if runs.Total(l) > 5 {
			return
		}
		var single []api.Run
		for _, b := range blocksOf(l) {
			single = append(single, api.Run{Start: b, Count: 1})
		}
		orders(single, func(given []api.Run) { mustBe(t, "given block by block", giveAll(t, nil, given), l) })
	})
}

func TestGivenInPiecesInSomeOrder(t *testing.T) {
	x := dice(733)
	for range 1000 {
		l := runsOf(someBlocks(&x, 80))
		pieces := cut(&x, l)
		for i := range pieces {
			j := x.below(i + 1)
			pieces[i], pieces[j] = pieces[j], pieces[i]
		}
		mustBe(t, "given in pieces", giveAll(t, nil, pieces), l)
		if len(pieces) > 0 {
			again := pieces[x.below(len(pieces))]
			if more, ok := runs.Give(l, again); ok || more != nil {
				t.Fatalf("%v is given twice: %v", again, more)
			}
		}
	}
}

// cut is the same blocks in pieces, of which some touch one another.
func cut(x *dice, l []api.Run) []api.Run {
	var out []api.Run
	for _, r := range l {
		for r.Count > 0 {
			n := 1 + x.below(r.Count)
			out = append(out, api.Run{Start: r.Start, Count: n})
			r = api.Run{Start: r.Start + n, Count: r.Count - n}
		}
	}
	return out
}

// What is free is what single blank blocks come to, and taking is as if a block
// were written.
func TestTakenAsIfWritten(t *testing.T) {
	x := dice(7333)
	for range 300 {
		states := make([]int, 30)
		for i := range states {
			states[i] = x.below(5) / 2
		}
		var blank []api.Run
		for i, s := range states {
			if s == api.BkBlank {
				blank = append(blank, api.Run{Start: i, Count: 1})
			}
		}
		l := runs.Free(states)
		mustBe(t, "free", giveAll(t, nil, blank), l)
		r, rest, ok := runs.Take(l, 1+x.below(4))
		if !ok {
			continue
		}
		for i := range r.Count {
			states[r.Start+i] = api.BkWritten
		}
		mustBe(t, "written", runs.Free(states), rest)
	}
}
