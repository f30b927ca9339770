package packs_test

import (
	"slices"
	"strings"
	"testing"

	"sealingwax/api"
	"sealingwax/packs"
)

// P6.3

func TestWhatIsSplitIsJoined(t *testing.T) {
	x := dice(6)
	for range 2000 {
		kind, epoch, data := "DPS"[x.below(3)], 1+x.below(greatestEpoch), x.text(x.below(900))
		blocks, e := packs.Split(kind, epoch, data)
		if e != api.OK || len(blocks) != packs.Count(len(data)) {
			t.Fatalf("%d bytes: %s, %d", len(data), say(blocks), e)
		}
		mustJoin(t, blocks, kind, epoch, data)
	}
}

// Lists out of blocks of a few data, most of them with something wrong, so that
// some are joined, and most are not.
func TestWhatIsJoinedWasSplitSo(t *testing.T) {
	x := dice(66)
	found, none := 0, 0
	for range 20000 {
		blocks, _ := split('P', 1+x.below(2), x.text([]int{0, 1, 111, 112, 113, 224, 300}[x.below(7)]))
		others, _ := split('P', 1, x.text(112*x.below(4)))
		at := x.below(len(blocks))
		switch x.below(7) {
		case 0:
			blocks = with(blocks, at, others[x.below(len(others))])
		case 1:
			blocks = lacking(blocks, at)
		case 2:
			blocks = put(blocks, at, blocks[x.below(len(blocks))])
		case 3:
			blocks = with(blocks, at, turned(blocks[at], x.below(128), byte(x.below(256))))
		case 4:
			blocks = append(slices.Clone(others), blocks[min(len(others), len(blocks)):]...)
		case 5:
			blocks = put(blocks, len(blocks), blockOf('P', 1, len(blocks), x.text(x.below(113))))
		}
		if !mustTell(t, blocks, 'P', 1) {
			none++
			continue
		}
		found++
		data, _ := packs.Join(blocks, 'P', 1)
		if again, e := packs.Split('P', 1, data); !slices.Equal(again, blocks) || e != api.OK {
			t.Fatalf("%s is joined, and split as %s, %d", say(blocks), say(again), e)
		}
	}
	if found < 4000 || none < 4000 {
		t.Errorf("%d that are joined, and %d that are not", found, none)
	}
}

// each goes through some packed data, of one frame up to five.
func each(t *testing.T, do func(blocks []string, data string)) {
	t.Helper()
	for _, n := range []int{0, 1, 112, 113, 224, 225, 300, 448, 500} {
		for _, data := range texts(n) {
			do(mustSplit(t, 'P', 3, data, api.OK), data)
		}
	}
}

func TestOneIsTorn(t *testing.T) {
	each(t, func(blocks []string, data string) {
		for at, block := range blocks {
			for there := range 15 {
				mustBeNone(t, with(blocks, at, kept(block, there)), 'P', 3)
			}
			mustJoin(t, with(blocks, at, kept(block, 15)), 'P', 3, data)
		}
	})
}

func TestOneByteIsAnotherOne(t *testing.T) {
	each(t, func(blocks []string, data string) {
		for at, block := range blocks {
			for place := range 128 {
				for _, bits := range []byte{1, 2, 0x80, 0xa5, 0xff} {
					other := with(blocks, at, turned(block, place, bits))
					if mustTell(t, other, 'P', 3) && place != 7 {
						t.Fatalf("%s is joined, with another byte at %d of block %d", say(other), place, at)
					}
				}
			}
		}
	})
}

// The eighth byte of a block says how many bytes its data has, and two frames of
// which it alone is unlike may have one sum: each is what its own block says.
func TestTheEighthByteIsAnotherOne(t *testing.T) {
	full := strings.Repeat("x", 224)
	short := full + "\xc2\x4c\x5e\x1f"
	blocks := mustSplit(t, 'P', 1, short, api.OK)
	other := with(blocks, 2, turned(blocks[2], 7, 4^5))
	mustJoin(t, blocks, 'P', 1, short)
	mustJoin(t, other, 'P', 1, short+"\x00")
	if again := mustSplit(t, 'P', 1, short+"\x00", api.OK); !slices.Equal(again, other) {
		t.Errorf("%s, want %s", say(again), say(other))
	}
}

func TestOneIsShorterOrLonger(t *testing.T) {
	each(t, func(blocks []string, data string) {
		for at, block := range blocks {
			for _, n := range []int{0, 1, 8, 12, 32, 64, 96, 127} {
				mustBeNone(t, with(blocks, at, block[:n]), 'P', 3)
				mustBeNone(t, with(blocks, at, block[128-n:]), 'P', 3)
			}
			for _, more := range []string{"\x00", "\xa5", "q", block} {
				mustBeNone(t, with(blocks, at, block+more), 'P', 3)
				mustBeNone(t, with(blocks, at, more+block), 'P', 3)
			}
		}
	})
}

// A block says its own part alone: one of another data, in its own place and as
// full, is joined with the others.
func TestOneIsOfAnotherData(t *testing.T) {
	other := strings.Repeat("other", 100)
	theirs := mustSplit(t, 'P', 3, other, api.OK)
	each(t, func(blocks []string, data string) {
		for at := range blocks {
			for from, block := range theirs {
				mixed := with(blocks, at, block)
				ahead := at < len(blocks)-1
				if from == at && (!ahead || from < len(theirs)-1) {
					start, end := at*room, min((at+1)*room, len(data))
					mustJoin(t, mixed, 'P', 3, data[:start]+other[from*room:min((from+1)*room, len(other))]+data[end:])
					continue
				}
				mustBeNone(t, mixed, 'P', 3)
			}
		}
	})
}

func TestOneLacks(t *testing.T) {
	each(t, func(blocks []string, data string) {
		last := len(blocks) - 1
		for at := range last {
			mustBeNone(t, lacking(blocks, at), 'P', 3)
			mustBeNone(t, blocks[at+1:], 'P', 3)
		}
		mustBeNone(t, blocks[:0], 'P', 3)
		// Of those that lack the last ones alone what is left is joined.
		for n := 1; n <= last; n++ {
			mustJoin(t, blocks[:n], 'P', 3, data[:n*room])
		}
	})
}

func TestOneIsThereTwice(t *testing.T) {
	each(t, func(blocks []string, data string) {
		for _, block := range blocks {
			for at := range len(blocks) + 1 {
				mustBeNone(t, put(blocks, at, block), 'P', 3)
			}
			for at := range blocks {
				if blocks[at] != block {
					mustBeNone(t, with(blocks, at, block), 'P', 3)
				}
			}
		}
		mustBeNone(t, append(slices.Clone(blocks), blocks...), 'P', 3)
	})
}

func TestOneStandsAtAnotherPlace(t *testing.T) {
	each(t, func(blocks []string, data string) {
		for i := range blocks {
			for k := range i {
				mustBeNone(t, with(with(blocks, i, blocks[k]), k, blocks[i]), 'P', 3)
				mustBeNone(t, put(lacking(blocks, i), k, blocks[i]), 'P', 3)
				mustBeNone(t, put(lacking(blocks, k), i, blocks[k]), 'P', 3)
			}
		}
		turned := slices.Clone(blocks)
		slices.Reverse(turned)
		if len(blocks) > 1 {
			mustBeNone(t, turned, 'P', 3)
		}
		mustJoin(t, blocks, 'P', 3, data)
	})
}

func TestTheSameAgain(t *testing.T) {
	data := texts(300)[0]
	blocks := mustSplit(t, 'P', 3, data, api.OK)
	packs.Split('D', 9, "something else")
	packs.Split('X', 9, "something else")
	packs.Join(blocks[1:], 'P', 3)
	packs.Count(-1)
	mustJoin(t, blocks, 'P', 3, data)
	mustSplit(t, 'P', 3, data, api.OK)
}
