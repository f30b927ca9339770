package frames_test

import (
	"hash/crc32"
	"testing"

	"sealingwax/api"
	"sealingwax/device"
	"sealingwax/frames"
)

// P5.3

func TestWhatIsEncodedIsDecoded(t *testing.T) {
	x := dice(5)
	list := samples()
	for range 3000 {
		list = append(list, api.Frame{
			Kind: "DPS"[x.below(3)], Epoch: 1 + x.below(greatestEpoch), Index: x.below(greatestIndex + 1), Data: x.text(x.below(greatestCount + 1)),
		})
	}
	for _, f := range list {
		block := mustEncode(t, f, api.OK)
		if g, e := frames.Decode(block); g != f || e != api.OK {
			t.Fatalf("%s is decoded as %s, %d", say(f), say(g), e)
		}
		if frames.Torn(block) {
			t.Fatalf("%s is torn", say(f))
		}
	}
}

func TestFramesThatAreUnlikeHaveBlocksThatAreUnlike(t *testing.T) {
	seen := map[string]api.Frame{}
	for _, f := range samples() {
		block := mustEncode(t, f, api.OK)
		if other, there := seen[block]; there && other != f {
			t.Errorf("%s and %s: one block", say(f), say(other))
		}
		seen[block] = f
	}
}

// Blocks with a few bytes changed, most of them under a right sum, so that many
// of them are a frame's.
func TestWhatIsDecodedIsEncoded(t *testing.T) {
	x := dice(9)
	list := samples()
	found, none := 0, 0
	for range 20000 {
		r := rawOf(list[x.below(len(list))])
		switch x.below(6) {
		case 0:
			r.kind = "DPSdps\x00X"[x.below(8)]
		case 1:
			r.epoch = uint32(x.below(1<<28)) << x.below(8)
		case 2:
			r.index = uint16(x.below(1 << 16))
		case 3:
			r.count = byte(x.below(130))
		case 4:
			r.data = x.text(x.below(greatestCount + 1))
		}
		if x.below(8) > 0 {
			r = r.summed()
		}
		block := r.block()
		if x.below(8) == 0 {
			block = with(block, x.below(128), byte(x.below(256)))
		}
		if !mustTell(t, block) {
			none++
			continue
		}
		found++
		f, _ := frames.Decode(block)
		if again, e := frames.Encode(f); again != block || e != api.OK {
			t.Fatalf("%x is decoded as %s, and encoded as %x, %d", block, say(f), again, e)
		}
	}
	if found < 5000 || none < 5000 {
		t.Errorf("%d frames, and %d that are none", found, none)
	}
}

func TestPartsOfZeroBytes(t *testing.T) {
	for _, f := range samples() {
		block := mustEncode(t, f, api.OK)
		for there := range 15 {
			part := without(block, there)
			mustBeNone(t, part)
			if !frames.Torn(part) {
				t.Errorf("%s with the parts %04b alone: not torn", say(f), there)
			}
		}
		mustBeOne(t, without(block, 15))
	}
}

func TestWhatACrashLeft(t *testing.T) {
	for _, f := range samples() {
		block := mustEncode(t, f, api.OK)
		for number := range 16 {
			left, e := crashed(t, block, number)
			if number == 0 {
				if e != api.ErrBlank {
					t.Fatalf("nothing is kept: %d", e)
				}
				continue
			}
			g, was := frames.Decode(left)
			if whole := number == 15; whole && (g != f || was != api.OK || frames.Torn(left)) {
				t.Fatalf("all of %s is kept: %s, %d", say(f), say(g), was)
			} else if !whole && (g != (api.Frame{}) || was != api.ErrForm || !frames.Torn(left)) {
				t.Fatalf("%04b of %s is kept: %s, %d", number, say(f), say(g), was)
			}
			mustTell(t, left)
		}
	}
}

// crashed is what a device reads back of a block that was being written when it
// crashed, and kept that.
func crashed(t *testing.T, block string, number int) (string, api.Errno) {
	t.Helper()
	d, e := device.New(4)
	for _, e := range []api.Errno{e, d.Write(2, block), d.Crash([]int{number}), d.Start()} {
		if e != api.OK {
			t.Fatalf("the device: %d", e)
		}
	}
	return d.Read(2)
}

func TestOneByteIsAnotherOne(t *testing.T) {
	list := append([]api.Frame{example}, samples()...)
	for i, f := range list {
		block := mustEncode(t, f, api.OK)
		for at := range 128 {
			for b := range 256 {
				// Every byte of some frames; of all of them, the eighth byte, and
				// the others with few bits turned.
				bits := b ^ int(block[at])
				if bits == 0 || i%16 != 0 && at != 7 && bits&(bits-1) != 0 {
					continue
				}
				other := with(block, at, byte(b))
				if mustTell(t, other) && at != 7 {
					t.Fatalf("%s with %d at %d is a frame", say(f), b, at)
				}
			}
		}
	}
}

// Two frames of which only the eighth byte of the block is unlike: the sum is
// the same one, so that each of them is what its own block says.
func TestTheEighthByteIsAnotherOne(t *testing.T) {
	for _, x := range []struct {
		data string
		more int
	}{
		{"\xc2\x4c\x5e\x1f", 1}, {"\x24\xfc\x46\xc7", 2}, {"\x71\x98\xf7\xe9", 4}, {"\xab\x50\x55\x26", 8},
		{"\x8c\xc0\xdd\xd2\x00", 1}, {"\x20\xc6\x73\xf7\x00\x00\x00", 2},
	} {
		f := api.Frame{Kind: 'P', Epoch: 1, Index: 2, Data: x.data}
		g := f
		g.Data += zeros(x.more)
		a, b := mustEncode(t, f, api.OK), mustEncode(t, g, api.OK)
		if crc32.ChecksumIEEE([]byte(a[:8]+f.Data)) != crc32.ChecksumIEEE([]byte(b[:8]+g.Data)) || a == b {
			t.Fatalf("%x and %d zeros: two sums, or one block", x.data, x.more)
		}
		if other := with(a, 7, byte(len(g.Data))); other != b {
			t.Fatalf("%x, want %x", other, b)
		}
		mustBeOne(t, a)
		mustBeOne(t, b)
		if got, e := frames.Decode(with(a, 7, byte(len(g.Data)))); got != g || e != api.OK {
			t.Errorf("%s, %d, want %s", say(got), e, say(g))
		}
	}
}

func TestTheSameAgain(t *testing.T) {
	block := mustEncode(t, example, api.OK)
	first, _ := frames.Decode(block)
	frames.Encode(api.Frame{Kind: 'S', Epoch: 9, Index: 9, Data: "something else"})
	frames.Decode(zeros(128))
	frames.Torn(zeros(128))
	if again, e := frames.Decode(block); again != first || first != example || e != api.OK {
		t.Errorf("%s, and then %s", say(first), say(again))
	}
	mustEncode(t, example, api.OK)
}
