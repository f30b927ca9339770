package sums_test

import (
	"hash/crc32"
	"math"
	"strings"
	"testing"

	"sealingwax/sums"
)

// known are texts with sums that are written out, so that nothing leans on
// another program alone.
var known = []struct {
	text string
	sum  uint32
}{
	{"", 0},
	{"123456789", 0xcbf43926},
	{"a", 0xe8b7be43},
	{"abc", 0x352441c2},
	{"\x00", 0xd202ef8d},
	{"\xff", 0xff000000},
	{"\x00\x00\x00\x00", 0x2144df1c},
	{"\xff\xff\xff\xff", 0xffffffff},
	{"The quick brown fox jumps over the lazy dog", 0x414fa339},
}

// starts are sums to go on from: none, the greatest, single bits, others.
var starts = []uint32{0, 1, 2, 8, 15, 16, 0x80, 0x100, 1 << 31, 0x7fffffff, 0xedb88320, 0xcbf43926, 0xfffffffe, math.MaxUint32}

// byBits is More in the chapter's own words.
func byBits(sum uint32, s string) uint32 {
	register := ^sum
	for _, x := range []byte(s) {
		register ^= uint32(x)
		for range 8 {
			if register&1 == 1 {
				register = register/2 ^ 0xedb88320
			} else {
				register /= 2
			}
		}
	}
	return ^register
}

// jumble is bytes without an order that is easily seen; always the same ones.
func jumble(n int) string {
	b := make([]byte, n)
	x := uint32(2463534242)
	for i := range b {
		x ^= x << 13
		x ^= x >> 17
		x ^= x << 5
		b[i] = byte(x >> 8)
	}
	return string(b)
}

// texts are some of a length: all bytes alike, or none like the next.
func texts(n int) []string {
	return []string{jumble(n), strings.Repeat("\x00", n), strings.Repeat("\x80", n), strings.Repeat("\xff", n)}
}

// turned is a text with bits turned from a byte on: those of a number, its
// lowest byte first.
func turned(s string, at int, bits uint32) string {
	b := []byte(s)
	for i := range 4 {
		b[at+i] ^= byte(bits >> (8 * i))
	}
	return string(b)
}

// mustTurn asks whether a text has another sum with bits turned from a byte on.
func mustTurn(t *testing.T, s string, at int, bits uint32) {
	t.Helper()
	other := turned(s, at, bits)
	got := sums.Sum(other)
	if got == sums.Sum(s) {
		t.Errorf("%d bytes, %08x turned from byte %d on: the same sum", len(s), bits, at)
	}
	if want := byBits(0, other); got != want {
		t.Errorf("%d bytes, %08x turned from byte %d on: %x, want %x", len(s), bits, at, got, want)
	}
}

// P3.1

func TestSumOfKnownTexts(t *testing.T) {
	for _, x := range known {
		if got := sums.Sum(x.text); got != x.sum {
			t.Errorf("Sum(%q) = %x, want %x", x.text, got, x.sum)
		}
		if got := sums.More(0, x.text); got != x.sum {
			t.Errorf("More(0, %q) = %x, want %x", x.text, got, x.sum)
		}
	}
}

func TestSumOfEachByte(t *testing.T) {
	seen := map[uint32]int{}
	for b := range 256 {
		s := string([]byte{byte(b)})
		got := sums.Sum(s)
		if want := byBits(0, s); got != want {
			t.Errorf("the sum of byte %d: %x, want %x", b, got, want)
		}
		if other, there := seen[got]; there {
			t.Errorf("bytes %d and %d: one sum", b, other)
		}
		seen[got] = b
	}
}

func TestSumOfAllLengths(t *testing.T) {
	for n := range 300 {
		for _, s := range texts(n) {
			if got, want := sums.Sum(s), byBits(0, s); got != want {
				t.Errorf("the sum of %d bytes: %x, want %x", n, got, want)
			}
		}
	}
}

func TestSumOfLongTexts(t *testing.T) {
	for _, n := range []int{1000, 65535, 65536, 65537, 1<<20 + 3} {
		for _, s := range texts(n) {
			got := sums.Sum(s)
			if want := byBits(0, s); got != want {
				t.Errorf("the sum of %d bytes: %x, want %x", n, got, want)
			}
			if want := crc32.ChecksumIEEE([]byte(s)); got != want {
				t.Errorf("the sum of %d bytes: %x, another program: %x", n, got, want)
			}
		}
	}
}

func TestSumTakesBytesNotRunes(t *testing.T) {
	for _, s := range []string{"ä", "\xe4", "\xc3", "€", "\xf0\x9f\x99", "\ufffd", "a\x00b"} {
		if got, want := sums.Sum(s), byBits(0, s); got != want {
			t.Errorf("Sum(%q) = %x, want %x", s, got, want)
		}
	}
}

func TestSumHangsOnLeadingAndTrailingZeros(t *testing.T) {
	seen := map[uint32]int{}
	for n := range 100 {
		got := sums.Sum(strings.Repeat("\x00", n))
		if other, there := seen[got]; there {
			t.Errorf("%d and %d zeros: one sum", n, other)
		}
		seen[got] = n
		if sums.Sum(strings.Repeat("\x00", n)+"x") == sums.Sum(strings.Repeat("\x00", n+1)+"x") {
			t.Errorf("%d zeros ahead: one sum with one more", n)
		}
	}
}

func TestMoreOfNothing(t *testing.T) {
	for _, sum := range starts {
		if got := sums.More(sum, ""); got != sum {
			t.Errorf("More(%x, nothing) = %x", sum, got)
		}
	}
}

func TestMoreOfKnownSums(t *testing.T) {
	for _, x := range []struct {
		sum  uint32
		text string
		want uint32
	}{
		{0xe8b7be43, "bc", 0x352441c2},
		{0xcbf43926, "", 0xcbf43926},
		{math.MaxUint32, "\x00", math.MaxUint32},
		{math.MaxUint32, "\x00\x00\x00\x00", math.MaxUint32},
		{math.MaxUint32, "\x80", 0x12477cdf},
	} {
		if got := sums.More(x.sum, x.text); got != x.want {
			t.Errorf("More(%x, %q) = %x, want %x", x.sum, x.text, got, x.want)
		}
	}
}

func TestMoreOfEachSumByEachByte(t *testing.T) {
	for _, sum := range starts {
		for b := range 256 {
			s := string([]byte{byte(b)})
			if got, want := sums.More(sum, s), byBits(sum, s); got != want {
				t.Errorf("More(%x, byte %d) = %x, want %x", sum, b, got, want)
			}
		}
	}
}

func TestMoreOfAllLengths(t *testing.T) {
	for _, sum := range starts {
		for n := range 80 {
			for _, s := range texts(n) {
				got := sums.More(sum, s)
				if want := byBits(sum, s); got != want {
					t.Errorf("More(%x, %d bytes) = %x, want %x", sum, n, got, want)
				}
				if want := crc32.Update(sum, crc32.IEEETable, []byte(s)); got != want {
					t.Errorf("More(%x, %d bytes) = %x, another program: %x", sum, n, got, want)
				}
			}
		}
	}
}

func TestTheSameAgain(t *testing.T) {
	s := jumble(200)
	first, more := sums.Sum(s), sums.More(5, s)
	sums.Sum("something else")
	sums.More(math.MaxUint32, "and this")
	if sums.Sum(s) != first || sums.More(5, s) != more {
		t.Error("a sum hangs on what was summed ahead of it")
	}
}

// P3.2

func TestMoreOfASumIsTheSumOfBoth(t *testing.T) {
	for _, n := range []int{0, 1, 2, 3, 4, 5, 9, 28, 31, 32, 33, 112, 128, 300} {
		for _, s := range texts(n) {
			want := byBits(0, s)
			for cut := range n + 1 {
				if got := sums.More(sums.Sum(s[:cut]), s[cut:]); got != want {
					t.Errorf("%d bytes, cut at %d: %x, want %x", n, cut, got, want)
				}
			}
		}
	}
}

func TestMoreOfManyPieces(t *testing.T) {
	s := jumble(1000)
	want := byBits(0, s)
	for _, step := range []int{1, 2, 3, 4, 7, 28, 128, 999, 1000} {
		sum := sums.Sum("")
		for at := 0; at < len(s); at += step {
			sum = sums.More(sum, s[at:min(at+step, len(s))])
		}
		if sum != want {
			t.Errorf("%d by %d: %x, want %x", len(s), step, sum, want)
		}
	}
}

func TestMoreOfMoreFromAnySum(t *testing.T) {
	s := jumble(40)
	for _, sum := range starts {
		want := byBits(sum, s)
		for cut := range len(s) + 1 {
			if got := sums.More(sums.More(sum, s[:cut]), s[cut:]); got != want {
				t.Errorf("from %x, cut at %d: %x, want %x", sum, cut, got, want)
			}
		}
	}
}

func TestOneAndTwoBitsTurned(t *testing.T) {
	for _, n := range []int{4, 5, 8, 31, 128} {
		for _, s := range texts(n) {
			for at := range n - 3 {
				for i := range 32 {
					for j := range i + 1 {
						mustTurn(t, s, at, 1<<i|1<<j)
					}
				}
			}
		}
	}
}

func TestBitsTurnedInFirstAndLastBytes(t *testing.T) {
	for _, n := range []int{4, 5, 9, 128, 300} {
		s := jumble(n)
		bits := uint32(2463534242)
		for range 3000 {
			bits ^= bits << 13
			bits ^= bits >> 17
			bits ^= bits << 5
			mustTurn(t, s, 0, bits)
			mustTurn(t, s, n-4, bits)
		}
		// All bits; and those of the polynomial, both ways round, whose turning
		// a sum of fewer bits, or one taken the other way round, would not tell.
		for _, bits := range []uint32{math.MaxUint32, 0xedb88320, 0x04c11db7, 0x82608edb, 0xdb710641} {
			mustTurn(t, s, 0, bits)
			mustTurn(t, s, n-4, bits)
		}
	}
}

func TestEveryTurnOfTwoBytes(t *testing.T) {
	s := jumble(8)
	for bits := uint32(1); bits < 1<<16; bits++ {
		mustTurn(t, s, 0, bits)
		mustTurn(t, s, 4, bits<<16)
		mustTurn(t, s, 2, bits<<8)
	}
}

func TestBitsTurnedInShortTexts(t *testing.T) {
	for n := 1; n < 4; n++ {
		s := jumble(n)
		for bits := uint32(1); bits < 1<<(8*min(n, 2)); bits++ {
			other := turned(s+"\x00\x00\x00", 0, bits)[:n]
			got := sums.Sum(other)
			if got == sums.Sum(s) || got != byBits(0, other) {
				t.Errorf("%d bytes, %x turned: %x", n, bits, got)
			}
		}
	}
}
