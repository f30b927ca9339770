package packs_test

import (
	"math"
	"math/big"
	"slices"
	"strings"
	"testing"

	"sealingwax/api"
	"sealingwax/frames"
	"sealingwax/packs"
)

// P6.1

func TestCountExamples(t *testing.T) {
	for n, want := range map[int]int{0: 1, 1: 1, 112: 1, 113: 2, -1: 0} {
		if got := packs.Count(n); got != want {
			t.Errorf("Count(%d) = %d, want %d", n, got, want)
		}
	}
}

func TestCountEdges(t *testing.T) {
	for n, want := range map[int]int{
		2: 1, 111: 1, 223: 2, 224: 2, 225: 3, 300: 3, 336: 3, 337: 4,
		65536*112 - 1: 65536, 65536 * 112: 65536, 65536*112 + 1: 65537,
		-2: 0, -111: 0, -112: 0, -113: 0, -1 << 31: 0, -1 << 32: 0, math.MinInt + 1: 0, math.MinInt: 0,
	} {
		if got := packs.Count(n); got != want {
			t.Errorf("Count(%d) = %d, want %d", n, got, want)
		}
	}
}

func TestCountOneByOne(t *testing.T) {
	want, left := 1, room
	for n := range 100000 {
		if n > 0 && left == 0 {
			want, left = want+1, room
		}
		if n > 0 {
			left--
		}
		if got := packs.Count(n); got != want {
			t.Fatalf("Count(%d) = %d, want %d", n, got, want)
		}
	}
}

func TestCountOfTheGreatest(t *testing.T) {
	for less := range 400 {
		n := math.MaxInt - less
		up := new(big.Int).Add(big.NewInt(int64(n)), big.NewInt(room-1))
		if want := up.Div(up, big.NewInt(room)).Int64(); int64(packs.Count(n)) != want {
			t.Errorf("Count(%d) = %d, want %d", n, packs.Count(n), want)
		}
	}
}

func TestSplitExample(t *testing.T) {
	data := strings.Repeat("x", 112) + "y"
	blocks, e := packs.Split('P', 1, data)
	if e != api.OK || len(blocks) != 2 {
		t.Fatalf("%s, %d", say(blocks), e)
	}
	for i, want := range []api.Frame{
		{Kind: 'P', Epoch: 1, Index: 0, Data: strings.Repeat("x", 112)},
		{Kind: 'P', Epoch: 1, Index: 1, Data: "y"},
	} {
		if f, e := frames.Decode(blocks[i]); f != want || e != api.OK {
			t.Errorf("%d: %v, %d, want %v", i, f, e, want)
		}
	}
	mustSplit(t, 'P', 1, data, api.OK)
}

func TestSplitOfNoData(t *testing.T) {
	blocks := mustSplit(t, 'S', 9, "", api.OK)
	if len(blocks) != 1 {
		t.Fatalf("%d blocks", len(blocks))
	}
	if f, e := frames.Decode(blocks[0]); f != (api.Frame{Kind: 'S', Epoch: 9}) || e != api.OK {
		t.Errorf("%v, %d", f, e)
	}
}

func TestSplitSizes(t *testing.T) {
	for _, n := range sizes {
		for _, data := range texts(n) {
			for _, kind := range []byte{api.FrData, api.FrPayload, api.FrSeal} {
				for _, epoch := range []int{1, 2, 256, 65536, greatestEpoch - 1, greatestEpoch} {
					if blocks := mustSplit(t, kind, epoch, data, api.OK); len(blocks) != packs.Count(n) {
						t.Fatalf("%d bytes: %d blocks", n, len(blocks))
					}
				}
			}
		}
	}
}

func TestSplitKinds(t *testing.T) {
	for kind := range 256 {
		want := api.ErrArg
		if kind == 68 || kind == 80 || kind == 83 {
			want = api.OK
		}
		for _, n := range []int{0, 1, 111, 112, 113, 224, 225} {
			mustSplit(t, byte(kind), 1, texts(n)[0], want)
			mustSplit(t, byte(kind), greatestEpoch, texts(n)[0], want)
			mustSplit(t, byte(kind), 0, texts(n)[0], api.ErrArg)
		}
	}
}

func TestSplitEpochsThatMayNotBe(t *testing.T) {
	for _, epoch := range far {
		for _, n := range []int{0, 1, 111, 112, 113, 224, 225} {
			for _, kind := range []byte("DPSX") {
				mustSplit(t, kind, epoch, texts(n)[0], api.ErrArg)
			}
		}
	}
}

func TestSplitOfTheMost(t *testing.T) {
	data := strings.Repeat("seven bytes and more", 1<<19)[:greatestFrames*room]
	for _, kind := range []byte("DPS") {
		blocks := mustSplit(t, kind, greatestEpoch, data, api.OK)
		if len(blocks) != greatestFrames {
			t.Fatalf("%d blocks", len(blocks))
		}
		mustJoin(t, blocks, kind, greatestEpoch, data)
	}
	short := mustSplit(t, 'D', 1, data[1:], api.OK)
	if len(short) != greatestFrames {
		t.Fatalf("%d blocks", len(short))
	}
	mustJoin(t, short, 'D', 1, data[1:])
	mustSplit(t, 'X', 1, data, api.ErrArg)
	mustSplit(t, 'D', 0, data, api.ErrArg)
	mustSplit(t, 'D', greatestEpoch+1, data, api.ErrArg)
}

// That it is too long is named ahead of a Kind or an Epoch that may not be.
func TestSplitOfOneMoreThanTheMost(t *testing.T) {
	for _, n := range []int{greatestFrames*room + 1, greatestFrames*room + room, (greatestFrames + 1) * room, 2*greatestFrames*room + 5} {
		data := strings.Repeat("\x00", n)
		for _, kind := range []byte("DPSX\x00\xff") {
			for _, epoch := range []int{1, greatestEpoch, 0, -1, greatestEpoch + 1, math.MaxInt, math.MinInt} {
				mustSplit(t, kind, epoch, data, api.ErrLong)
			}
		}
	}
}

func TestSplitAnswersMemoryOfItsOwn(t *testing.T) {
	data := texts(300)[0]
	first := mustSplit(t, 'D', 4, data, api.OK)
	was := slices.Clone(first)
	second := mustSplit(t, 'D', 4, data, api.OK)
	clear(second)
	_ = append(second[:1], "x", "y", "z")
	if !slices.Equal(first, was) {
		t.Error("one list's change is seen in another one")
	}
	mustSplit(t, 'D', 4, data, api.OK)
}

// P6.2

func TestJoinExamples(t *testing.T) {
	data := strings.Repeat("x", 112) + "y"
	both := mustSplit(t, 'P', 1, data, api.OK)
	mustJoin(t, both, 'P', 1, data)
	mustJoin(t, both[:1], 'P', 1, data[:112])
	mustBeNone(t, []string{both[1], both[0]}, 'P', 1)
	mustBeNone(t, nil, 'P', 1)
	mustBeNone(t, both, 'D', 1)
}

func TestJoinOfNoBlocks(t *testing.T) {
	for _, none := range [][]string{nil, {}, make([]string, 0, 3), make([]string, 2)[:0]} {
		for _, kind := range []byte("DPSX\x00") {
			for _, epoch := range append([]int{1, 2, greatestEpoch}, far...) {
				mustBeNone(t, none, kind, epoch)
			}
		}
	}
}

func TestJoinSizes(t *testing.T) {
	for _, n := range sizes {
		for _, data := range texts(n) {
			for _, kind := range []byte("DPS") {
				for _, epoch := range []int{1, 2, greatestEpoch} {
					blocks, _ := split(kind, epoch, data)
					mustJoin(t, blocks, kind, epoch, data)
				}
			}
		}
	}
}

func TestJoinUnderOthers(t *testing.T) {
	for _, n := range []int{0, 1, 112, 113, 300} {
		data := texts(n)[0]
		blocks, _ := split('P', 7, data)
		for kind := range 256 {
			if kind == 'P' {
				mustJoin(t, blocks, 'P', 7, data)
				continue
			}
			mustBeNone(t, blocks, byte(kind), 7)
		}
		for _, epoch := range append([]int{1, 6, 8, 7 << 8, greatestEpoch, 1<<32 + 7, -1<<32 + 7, -7}, far...) {
			mustBeNone(t, blocks, 'P', epoch)
		}
	}
}

// Blocks that are right ones but for a Kind or an Epoch that may not be are no
// frames', and not joined under these either.
func TestJoinOfWhatMayNotBe(t *testing.T) {
	for _, n := range []int{0, 5, 200} {
		data := texts(n)[0]
		for _, x := range []struct {
			kind  byte
			epoch int
		}{{'X', 1}, {0, 1}, {'d', 7}, {'D', 0}, {'D', greatestEpoch + 1}, {'S', 1<<32 - 1}, {'P', 1 << 31}} {
			blocks := []string{blockOf(x.kind, x.epoch, 0, data[:min(n, room)])}
			if n > room {
				blocks = append(blocks, blockOf(x.kind, x.epoch, 1, data[room:]))
			}
			mustBeNone(t, blocks, x.kind, x.epoch)
		}
	}
}

func TestJoinOfOneUnderAnother(t *testing.T) {
	data := texts(300)[0]
	blocks, _ := split('P', 7, data)
	for _, x := range []struct {
		kind  byte
		epoch int
	}{{'D', 7}, {'S', 7}, {'P', 6}, {'P', 8}, {'D', 8}} {
		others, _ := split(x.kind, x.epoch, data)
		for at := range blocks {
			mustBeNone(t, with(blocks, at, others[at]), 'P', 7)
			mustBeNone(t, with(blocks, at, others[at]), x.kind, x.epoch)
		}
	}
}

func TestJoinOfOtherIndices(t *testing.T) {
	part := texts(112)[0]
	for _, start := range []int{1, 2, 255, 256, 65534, 65535} {
		mustBeNone(t, []string{blockOf('D', 3, start, "")}, 'D', 3)
		mustBeNone(t, []string{blockOf('D', 3, start, part)}, 'D', 3)
		mustBeNone(t, []string{blockOf('D', 3, start, part), blockOf('D', 3, start+1, "q")}, 'D', 3)
	}
	for _, next := range []int{0, 2, 3, 256, 257, 65535} {
		mustBeNone(t, []string{blockOf('D', 3, 0, part), blockOf('D', 3, next, "q")}, 'D', 3)
	}
	mustJoin(t, []string{blockOf('D', 3, 0, part), blockOf('D', 3, 1, "q")}, 'D', 3, part+"q")
}

func TestJoinOfRoomAheadOfTheLast(t *testing.T) {
	full := texts(112)[0]
	for short := range room {
		for _, last := range []int{0, 1, room - short, 111, 112} {
			for at := range 3 {
				parts := []string{full, full, full, full[:last]}
				parts[at] = full[:short]
				mustBeNone(t, blocksOf(parts), 'S', 2)
			}
		}
	}
	// Together these are as many as there would be in two frames.
	mustBeNone(t, blocksOf([]string{full[:111], full}), 'S', 2)
	mustBeNone(t, blocksOf([]string{full[:1], full}), 'S', 2)
	mustBeNone(t, blocksOf([]string{full, full[:100], full}), 'S', 2)
}

func TestJoinOfALastOneWithoutData(t *testing.T) {
	full := texts(112)[0]
	mustJoin(t, blocksOf([]string{""}), 'S', 2, "")
	for n := 1; n < 6; n++ {
		parts := slices.Repeat([]string{full}, n)
		mustJoin(t, blocksOf(parts), 'S', 2, strings.Repeat(full, n))
		mustBeNone(t, blocksOf(append(parts, "")), 'S', 2)
		mustBeNone(t, blocksOf(append(parts, "", "")), 'S', 2)
	}
	mustBeNone(t, blocksOf([]string{"", ""}), 'S', 2)
	mustBeNone(t, blocksOf([]string{"", full}), 'S', 2)
	mustBeNone(t, blocksOf([]string{full[:7], ""}), 'S', 2)
}

// blocksOf is the blocks of frames that have these, one by one.
func blocksOf(parts []string) []string {
	var out []string
	for i, part := range parts {
		out = append(out, blockOf('S', 2, i, part))
	}
	return out
}

func TestJoinOfMoreThanTheMost(t *testing.T) {
	part := texts(112)[0]
	blocks, e := split('D', 1, strings.Repeat(part, greatestFrames))
	if e != api.OK || len(blocks) != greatestFrames {
		t.Fatal(len(blocks), e)
	}
	// Two bytes would say index 0 of the frame behind the last.
	for _, more := range []string{blockOf('D', 1, 0, "q"), blockOf('D', 1, 65535, "q"), blockOf('D', 1, 0, ""), part, ""} {
		mustBeNone(t, put(blocks, greatestFrames, more), 'D', 1)
	}
	mustBeNone(t, append(slices.Clone(blocks), blocks...), 'D', 1)
}

func TestJoinOfBytesThatAreNoFrame(t *testing.T) {
	x := dice(31)
	for _, block := range []string{"", "x", "\xa5", strings.Repeat("\x00", 128), strings.Repeat("\xa5", 128), strings.Repeat("D", 128), x.text(128), x.text(127), x.text(5000)} {
		for n := 1; n < 5; n++ {
			for _, kind := range []byte("DPSX\x00\xa5") {
				mustBeNone(t, slices.Repeat([]string{block}, n), kind, 1)
				mustBeNone(t, slices.Repeat([]string{block}, n), kind, 0)
			}
		}
	}
	mustBeNone(t, make([]string, 1000000), 'D', 1)
}

func TestJoinLeavesTheListAsItWas(t *testing.T) {
	data := texts(500)[0]
	blocks, _ := split('D', 1, data)
	long := append(slices.Clone(blocks), "one", "more")
	was := slices.Clone(long)
	for n := range len(long) + 1 {
		for _, kind := range []byte("DPX") {
			packs.Join(long[:n], kind, 1)
			if !slices.Equal(long, was) {
				t.Fatalf("%d blocks: the list is another one", n)
			}
		}
	}
}

func TestJoinKeepsNothing(t *testing.T) {
	data := texts(500)[0]
	blocks, _ := split('D', 1, data)
	first, e := packs.Join(blocks, 'D', 1)
	clear(blocks)
	mustBeNone(t, blocks, 'D', 1)
	again, _ := split('D', 1, data)
	mustJoin(t, again, 'D', 1, data)
	if first != data || e != api.OK {
		t.Errorf("%d bytes, %d", len(first), e)
	}
}
