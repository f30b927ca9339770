package sha_test

import (
	"crypto/sha256"
	"encoding/hex"
	"strings"
	"testing"

	"sealingwax/api"
	"sealingwax/sha"
)

// known are texts with hashes that are written out, so that nothing leans on
// another program alone: the chapter's examples and the standard's.
var known = []struct{ text, hash string }{
	{"", "e3b0c44298fc1c149afbf4c8996fb92427ae41e4649b934ca495991b7852b855"},
	{"abc", "ba7816bf8f01cfea414140de5dae2223b00361a396177a9cb410ff61f20015ad"},
	{"abcdbcdecdefdefgefghfghighijhijkijkljklmklmnlmnomnopnopq",
		"248d6a61d20638b8e5c026930c3e6039a33ce45964ff2167f6ecedd419db06c1"},
	{"abcdefghbcdefghicdefghijdefghijkefghijklfghijklmghijklmnhijklmnoijklmnopjklmnopqklmnopqrlmnopqrsmnopqrstnopqrstu",
		"cf5b16a778af8380036ce59e7b0492370b249b11e8f07a51afac45037afee9d1"},
	{strings.Repeat("a", 1000000), "cdc76e5c9914fb9281a1c7e284d73e67f1809a48a497200e046d39ccc7112cd0"},
}

// edges are lengths at which the ending takes another shape, or a block is whole.
var edges = []int{0, 1, 2, 54, 55, 56, 57, 62, 63, 64, 65, 118, 119, 120, 121, 127, 128, 129, 183, 184, 191, 192, 193}

// jumble is bytes without an order that is easily seen; always the same ones.
func jumble(n int) string {
	b := make([]byte, n)
	x := uint32(2463534242)
	for i := range b {
		x ^= x << 13
		x ^= x >> 17
		x ^= x << 5
		b[i] = byte(x >> 8)
	}
	return string(b)
}

// texts are some of a length: all bytes alike, or none like the next.
func texts(n int) []string {
	return []string{jumble(n), strings.Repeat("\x00", n), strings.Repeat("\x80", n), strings.Repeat("\xff", n)}
}

func mustWrite(t *testing.T, w *sha.Writer, s string) {
	t.Helper()
	if e := w.Write(s); e != api.OK {
		t.Fatalf("Write of %d bytes: %v", len(s), e)
	}
}

// mustBe asks a writer twice whether it has a text's hash, by another program's word.
func mustBe(t *testing.T, w *sha.Writer, text string) {
	t.Helper()
	for range 2 {
		if got := w.Sum(); got != sha256.Sum256([]byte(text)) {
			t.Fatalf("the hash of %d bytes: %x", len(text), got)
		}
	}
}

// P2.1

func TestSumOfKnownTexts(t *testing.T) {
	for _, x := range known {
		if got := sha.Hex(sha.Sum(x.text)); got != x.hash {
			t.Errorf("the hash of %d bytes: %s, want %s", len(x.text), got, x.hash)
		}
	}
}

func TestSumOfAllLengths(t *testing.T) {
	for n := range 260 {
		for _, s := range texts(n) {
			if got := sha.Sum(s); got != sha256.Sum256([]byte(s)) {
				t.Errorf("the hash of %d bytes: %x", n, got)
			}
		}
	}
}

func TestSumOfManyBlocks(t *testing.T) {
	// From 2^13 and 2^21 bytes on the number of bits takes one byte more.
	for _, n := range []int{1000, 8191, 8192, 8193, 65535, 65536, 1<<21 - 1, 1 << 21, 1<<21 + 55} {
		s := jumble(n)
		if got := sha.Sum(s); got != sha256.Sum256([]byte(s)) {
			t.Errorf("the hash of %d bytes: %x", n, got)
		}
	}
}

func TestSumHangsOnEachByte(t *testing.T) {
	s := []byte(jumble(130))
	seen := map[api.Hash]int{sha.Sum(string(s)): -1}
	for i := range s {
		s[i] ^= 1
		h := sha.Sum(string(s))
		if j, there := seen[h]; there {
			t.Errorf("bytes %d and %d: one hash", i, j)
		}
		seen[h] = i
		s[i] ^= 1
	}
}

func TestSumIsTheSameAgain(t *testing.T) {
	s := jumble(200)
	first := sha.Sum(s)
	sha.Sum("something else")
	w := sha.New()
	mustWrite(t, w, "and this")
	if sha.Sum(s) != first {
		t.Error("a hash hangs on what was hashed ahead of it")
	}
}

func TestHex(t *testing.T) {
	for b := range 256 {
		var h api.Hash
		for i := range h {
			h[i] = byte(b + 7*i)
		}
		if got, want := sha.Hex(h), hex.EncodeToString(h[:]); got != want {
			t.Errorf("Hex = %s, want %s", got, want)
		}
	}
	if got := sha.Hex(api.Hash{}); got != strings.Repeat("0", 64) {
		t.Errorf("Hex of the zero hash: %s", got)
	}
	if got := sha.Hex(api.Hash{0: 0x0f, 1: 0xa0, 2: 0x9a, 31: 0xfb}); got != "0fa09a"+strings.Repeat("0", 56)+"fb" {
		t.Errorf("Hex = %s", got)
	}
}

// P2.2

func TestNoWriter(t *testing.T) {
	var null *sha.Writer
	var zero sha.Writer
	for name, w := range map[string]*sha.Writer{"nil": null, "zero": &zero, "new": new(sha.Writer), "literal": {}} {
		for _, s := range []string{"", "a", jumble(63), jumble(64), jumble(300)} {
			if e := w.Write(s); e != api.ErrNil {
				t.Errorf("%s: Write of %d bytes: %v", name, len(s), e)
			}
			if h := w.Sum(); h != (api.Hash{}) {
				t.Errorf("%s: Sum: %x", name, h)
			}
		}
	}
	if zero != (sha.Writer{}) {
		t.Error("a writer that is none was changed")
	}
}

func TestNewWriter(t *testing.T) {
	w := sha.New()
	if w == nil {
		t.Fatal("no writer")
	}
	mustBe(t, w, "")
	mustWrite(t, w, "")
	mustBe(t, w, "")
	mustWrite(t, w, "abc")
	if got := sha.Hex(w.Sum()); got != known[1].hash {
		t.Errorf("abc: %s", got)
	}
}

func TestWriteOfNothing(t *testing.T) {
	for _, n := range edges {
		s, w := jumble(n), sha.New()
		mustWrite(t, w, "")
		mustWrite(t, w, s)
		mustWrite(t, w, "")
		mustWrite(t, w, "")
		mustBe(t, w, s)
		mustWrite(t, w, s)
		mustBe(t, w, s+s)
	}
}

func TestSumBetweenWrites(t *testing.T) {
	for _, first := range edges {
		for _, second := range edges {
			s, w := jumble(first+second), sha.New()
			mustWrite(t, w, s[:first])
			mustBe(t, w, s[:first])
			mustWrite(t, w, s[first:])
			mustBe(t, w, s)
		}
	}
}

func TestWritersSideBySide(t *testing.T) {
	a, b, idle := sha.New(), sha.New(), sha.New()
	var wroteA, wroteB string
	for _, n := range edges {
		x, y := jumble(n), strings.Repeat("y", 130-n%130)
		wroteA, wroteB = wroteA+x, wroteB+y
		mustWrite(t, a, x)
		mustWrite(t, b, y)
		mustBe(t, a, wroteA)
		mustBe(t, b, wroteB)
		mustBe(t, idle, "")
	}
}

// P2.3

func TestTwoWrites(t *testing.T) {
	for _, n := range edges {
		s := jumble(n)
		want := sha.Sum(s)
		for cut := range n + 1 {
			w := sha.New()
			mustWrite(t, w, s[:cut])
			mustWrite(t, w, s[cut:])
			if got := w.Sum(); got != want {
				t.Errorf("%d bytes, cut at %d: %x", n, cut, got)
			}
		}
	}
}

func TestThreeWrites(t *testing.T) {
	s := jumble(140)
	want := sha.Sum(s)
	for i := range len(s) + 1 {
		for j := i; j <= len(s); j++ {
			w := sha.New()
			mustWrite(t, w, s[:i])
			mustWrite(t, w, s[i:j])
			mustWrite(t, w, s[j:])
			if got := w.Sum(); got != want {
				t.Fatalf("cut at %d and %d: %x", i, j, got)
			}
		}
	}
}

func TestWritesOfOneLength(t *testing.T) {
	s := jumble(1000)
	want := sha.Sum(s)
	for _, step := range []int{1, 2, 3, 7, 31, 55, 56, 63, 64, 65, 100, 127, 128, 129, 999, 1000} {
		w := sha.New()
		for at := 0; at < len(s); at += step {
			mustWrite(t, w, s[at:min(at+step, len(s))])
		}
		if got := w.Sum(); got != want {
			t.Errorf("%d by %d: %x", len(s), step, got)
		}
	}
}

func TestSumsOfAllBeginnings(t *testing.T) {
	s, w := jumble(200), sha.New()
	for n := range len(s) {
		mustBe(t, w, s[:n])
		mustWrite(t, w, s[n:n+1])
	}
	mustBe(t, w, s)
}
