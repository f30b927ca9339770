package frames_test

import (
	"hash/crc32"
	"strings"
	"testing"

	"sealingwax/api"
	"sealingwax/frames"
)

// example is the chapter's own.
var example = api.Frame{Kind: 'P', Epoch: 1, Index: 2, Data: "ab"}

func zeros(n int) string { return strings.Repeat("\x00", n) }

// exampleBlock is written out; its sum is the one of the ten bytes around it.
func exampleBlock() string {
	return "P\x00\x00\x00\x01\x00\x02\x02" + "\xe7\x15\x7b\xec" + "ab" + zeros(17) + "\xa5" +
		zeros(31) + "\xa5" + zeros(31) + "\xa5" + zeros(31) + "\xa5"
}

// P5.1

func TestEncodeExample(t *testing.T) {
	block, e := frames.Encode(example)
	if want := exampleBlock(); block != want || e != api.OK {
		t.Fatalf("%x, %d, want %x", block, e, want)
	}
	mustEncode(t, example, api.OK)
}

func TestDecodeExamples(t *testing.T) {
	block := exampleBlock()
	for i, x := range []struct {
		block string
		frame api.Frame
		errno api.Errno
		torn  bool
	}{
		{block, example, api.OK, false},
		{block[:32] + zeros(32) + block[64:], api.Frame{}, api.ErrForm, true},
		{block[:127], api.Frame{}, api.ErrForm, false},
		{zeros(128), api.Frame{}, api.ErrForm, true},
	} {
		if f, e := frames.Decode(x.block); f != x.frame || e != x.errno {
			t.Errorf("%d: Decode: %s, %d", i, say(f), e)
		}
		if got := frames.Torn(x.block); got != x.torn {
			t.Errorf("%d: Torn: %v", i, got)
		}
		mustTell(t, x.block)
	}
}

func TestEncodeKinds(t *testing.T) {
	for kind := range 256 {
		want := api.ErrArg
		if kind == 68 || kind == 80 || kind == 83 {
			want = api.OK
		}
		mustEncode(t, api.Frame{Kind: byte(kind), Epoch: 7, Index: 8, Data: "data"}, want)
	}
}

func TestEncodeEpochs(t *testing.T) {
	for _, kind := range []byte{api.FrData, api.FrPayload, api.FrSeal} {
		for _, epoch := range []int{1, 2, 255, 256, 65535, 65536, 1<<24 - 1, 1 << 24, greatestEpoch - 1, greatestEpoch} {
			mustEncode(t, api.Frame{Kind: kind, Epoch: epoch}, api.OK)
		}
		for _, epoch := range append([]int{0}, far...) {
			mustEncode(t, api.Frame{Kind: kind, Epoch: epoch}, api.ErrArg)
		}
	}
}

func TestEncodeIndexes(t *testing.T) {
	for _, kind := range []byte{api.FrData, api.FrPayload, api.FrSeal} {
		for _, index := range []int{0, 1, 255, 256, 257, greatestIndex - 1, greatestIndex} {
			mustEncode(t, api.Frame{Kind: kind, Epoch: 1, Index: index}, api.OK)
		}
		for _, index := range append([]int{65536, 65537, greatestEpoch}, far...) {
			mustEncode(t, api.Frame{Kind: kind, Epoch: 1, Index: index}, api.ErrArg)
		}
	}
}

func TestEncodeData(t *testing.T) {
	for n := range greatestCount + 1 {
		for _, data := range texts(n) {
			mustEncode(t, api.Frame{Kind: 'D', Epoch: 3, Index: 4, Data: data}, api.OK)
		}
	}
	for _, n := range []int{113, 114, 124, 127, 128, 255, 256, 257, 256 + 112, 65536, 1<<20 + 1} {
		for _, data := range texts(n) {
			mustEncode(t, api.Frame{Kind: 'D', Epoch: 3, Index: 4, Data: data}, api.ErrLong)
		}
	}
}

func TestEncodeWithSeveralWrong(t *testing.T) {
	long := strings.Repeat("x", 113)
	for _, f := range []api.Frame{
		{},
		{Kind: 'X', Epoch: 1, Data: long}, {Kind: 'D', Epoch: 0, Data: long}, {Kind: 'D', Epoch: 1, Index: -1, Data: long},
		{Kind: 'D', Epoch: greatestEpoch + 1, Index: 65536}, {Kind: 'd', Epoch: -1, Index: 65536, Data: long},
		{Kind: 0, Epoch: 1, Index: 65536}, {Kind: 255, Epoch: 0, Index: 0},
	} {
		mustEncode(t, f, api.ErrArg)
	}
}

func TestDecodeOfOtherLengths(t *testing.T) {
	for _, f := range samples() {
		block := mustEncode(t, f, api.OK)
		for _, n := range []int{0, 1, 8, 12, 31, 32, 64, 96, 124, 126, 127} {
			mustBeNone(t, block[:n])
			mustBeNone(t, block[128-n:])
		}
		for _, more := range []string{"\x00", "\xa5", "x", block[:32], block} {
			mustBeNone(t, block+more)
			mustBeNone(t, more+block)
		}
		mustBeOne(t, block)
	}
}

func TestDecodeOfAnotherSum(t *testing.T) {
	for _, f := range samples() {
		right := rawOf(f)
		for bit := range 32 {
			r := right
			r.sum ^= 1 << bit
			mustBeNone(t, r.block())
		}
		for _, sum := range []uint32{0, 1<<32 - 1, ^right.sum, right.sum>>16 | right.sum<<16} {
			r := right
			r.sum = sum
			if mustTell(t, r.block()) != (sum == right.sum) {
				t.Errorf("%s with the sum %x", say(f), sum)
			}
		}
	}
}

func TestDecodeOfBytesBehindTheData(t *testing.T) {
	for _, n := range counts {
		right := raw{kind: 'S', epoch: 5, index: 6, count: byte(n), data: texts(n)[0]}.summed()
		mustBeOne(t, right.block())
		for at := n; at < greatestCount; at++ {
			for _, b := range []string{"\x01", "\x80", "\xa5", "\xff"} {
				r := right
				r.data += zeros(at-n) + b
				mustBeNone(t, r.block())
			}
		}
	}
}

func TestDecodeOfMoreOrFewerBytesThanItHas(t *testing.T) {
	for _, n := range counts {
		data := strings.Repeat("z", n) // no zeros, so that fewer leaves some behind
		right := raw{kind: 'D', epoch: 1, index: 0, count: byte(n), data: data}.summed()
		for says := range 256 {
			r := right
			r.count = byte(says)
			if says == n {
				mustBeOne(t, r.block())
				continue
			}
			// Under the sum of what it has, with its number; under that of its head
			// and what it has; and under that of its head and what it says it has.
			mustTell(t, r.block())
			r.sum = crc32.ChecksumIEEE([]byte(r.head() + data))
			mustTell(t, r.block())
			if got, may := mustTell(t, r.summed().block()), says > n && says <= greatestCount; got != may {
				t.Fatalf("%d bytes of data, says %d: a frame %v", n, says, got)
			}
		}
	}
}

func TestDecodeOfMoreBytesThanThereMayBe(t *testing.T) {
	for says := 113; says < 256; says++ {
		for _, n := range counts {
			for _, data := range texts(n) {
				mustBeNone(t, raw{kind: 'D', epoch: 1, index: 0, count: byte(says), data: data}.summed().block())
			}
		}
	}
}

func TestDecodeOfFieldsUnderARightSum(t *testing.T) {
	for _, data := range []string{"", "ab", strings.Repeat("\xa5", 112)} {
		r := raw{kind: 'P', epoch: 1, index: 2, count: byte(len(data)), data: data}
		for kind := range 256 {
			x := r
			x.kind = byte(kind)
			if got, may := mustTell(t, x.summed().block()), kind == 'D' || kind == 'P' || kind == 'S'; got != may {
				t.Errorf("kind %d: a frame %v", kind, got)
			}
		}
		for _, epoch := range []uint32{0, 1, 2, 65536, greatestEpoch - 1, greatestEpoch, greatestEpoch + 1, 1<<31 - 1, 1 << 31, 1<<31 + 1, 1<<32 - 1} {
			x := r
			x.epoch = epoch
			if got, may := mustTell(t, x.summed().block()), epoch >= 1 && epoch <= greatestEpoch; got != may {
				t.Errorf("epoch %d: a frame %v", epoch, got)
			}
		}
		for _, index := range []uint16{0, 1, 255, 256, 32767, 32768, 65534, 65535} { // two bytes are always an index
			x := r
			x.index = index
			mustBeOne(t, x.summed().block())
		}
	}
}

func TestDecodeOfAnotherMark(t *testing.T) {
	for _, f := range samples() {
		block := mustEncode(t, f, api.OK)
		for _, at := range []int{31, 63, 95, 127} {
			for b := range 256 {
				if b == 165 {
					continue
				}
				other := with(block, at, byte(b))
				mustBeNone(t, other)
				if !frames.Torn(other) {
					t.Fatalf("the mark at %d is %d: not torn", at, b)
				}
			}
		}
	}
}

// P5.2

func TestTornByItsMarksAlone(t *testing.T) {
	x := dice(77)
	for _, b := range []byte{0, 1, 0x5a, 164, 166, 255} {
		for missing := range 16 {
			block := x.text(128)
			for k := range 4 {
				block = with(block, 32*k+31, 165)
				if missing>>k&1 == 1 {
					block = with(block, 32*k+31, b)
				}
			}
			if got := frames.Torn(block); got != (missing != 0) {
				t.Errorf("%d in the places %04b of the marks: torn %v", b, missing, got)
			}
			mustTell(t, block)
		}
	}
}

func TestTornOfOtherLengths(t *testing.T) {
	for n := range 300 {
		for _, s := range texts(n) {
			if want := n == 128 && torn(s); frames.Torn(s) != want {
				t.Errorf("%d bytes: torn %v", n, !want)
			}
			mustTell(t, s)
		}
	}
	for _, n := range []int{512, 4096, 1 << 20} {
		if frames.Torn(zeros(n)) {
			t.Errorf("%d zeros: torn", n)
		}
		mustBeNone(t, zeros(n))
	}
}

func TestNotTornAndNoFrame(t *testing.T) {
	for _, b := range []string{"\x00", "\x01", "\xa5", "\xff", "D"} {
		block := strings.Repeat(strings.Repeat(b, 31)+"\xa5", 4)
		mustBeNone(t, block)
		if frames.Torn(block) {
			t.Errorf("%x: torn", block)
		}
	}
}
