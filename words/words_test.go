package words_test

import (
	"fmt"
	"math"
	"strings"
	"testing"

	"sealingwax/api"
	"sealingwax/words"
)

// greatest is, for each size, the greatest number that may be written in it.
var greatest = []struct{ size, n int }{
	{1, 255}, {2, 65535}, {4, 1<<32 - 1}, {8, math.MaxInt},
}

var noSizes = []int{math.MinInt, -8, -4, -2, -1, 0, 3, 5, 6, 7, 9, 16, 32, 64, 1 << 61, math.MaxInt}

// farPlaces are places at which nothing stands, in whatever short text.
var farPlaces = []int{
	math.MinInt, math.MinInt + 1, math.MinInt + 8, -1 << 32, -33, -32, -8, -2, -1,
	1 << 20, 1 << 32, math.MaxInt - 32, math.MaxInt - 8, math.MaxInt - 1, math.MaxInt,
}

// numbers are some that may be written in a size: its least, its greatest, and
// those around each byte's edges.
func numbers(size, max int) []int {
	out := []int{0, 1, 2, 127, 128, 254, 255, max - 1, max, max / 2, max/2 + 1}
	for b := 8; b < 8*size && b < 63; b += 8 {
		out = append(out, 1<<b-1, 1<<b, 1<<b+1)
	}
	return out
}

func mustGet(t *testing.T, s string, at, size, wantN, wantNext int) {
	t.Helper()
	n, next, ok := words.Get(s, at, size)
	if n != wantN || next != wantNext || !ok {
		t.Errorf("Get(%x, %d, %d) = %d %d %v, want %d %d true", s, at, size, n, next, ok, wantN, wantNext)
	}
}

func mustGetNone(t *testing.T, s string, at, size int) {
	t.Helper()
	n, next, ok := words.Get(s, at, size)
	if n != 0 || next != 0 || ok {
		t.Errorf("Get(%x, %d, %d) = %d %d %v, want none", s, at, size, n, next, ok)
	}
}

func mustGetNoText(t *testing.T, s string, at int) {
	t.Helper()
	x, next, ok := words.GetText(s, at)
	if x != "" || next != 0 || ok {
		t.Errorf("GetText of %d bytes at %d = %d bytes, %d %v, want none", len(s), at, len(x), next, ok)
	}
}

func mustGetNoHash(t *testing.T, s string, at int) {
	t.Helper()
	h, next, ok := words.GetHash(s, at)
	if h != (api.Hash{}) || next != 0 || ok {
		t.Errorf("GetHash of %d bytes at %d = %x %d %v, want none", len(s), at, h, next, ok)
	}
}

func countingHash() (h api.Hash) {
	for i := range h {
		h[i] = byte(255 - 3*i)
	}
	return h
}

// P1.1

func TestPutExamples(t *testing.T) {
	for _, x := range []struct {
		n, size int
		want    string
	}{
		{258, 2, "\x01\x02"}, {258, 1, ""}, {5, 3, ""}, {1, 4, "\x00\x00\x00\x01"},
		{0x01020304, 4, "\x01\x02\x03\x04"}, {0x0102030405060708, 8, "\x01\x02\x03\x04\x05\x06\x07\x08"},
		{200, 8, "\x00\x00\x00\x00\x00\x00\x00\xc8"},
	} {
		if got := words.Put(x.n, x.size); got != x.want {
			t.Errorf("Put(%d, %d) = %x, want %x", x.n, x.size, got, x.want)
		}
	}
}

func TestPutEdges(t *testing.T) {
	for _, x := range greatest {
		if got, want := words.Put(0, x.size), strings.Repeat("\x00", x.size); got != want {
			t.Errorf("Put(0, %d) = %x", x.size, got)
		}
		want := strings.Repeat("\xff", x.size)
		if x.size == 8 {
			want = "\x7f" + want[1:]
		}
		if got := words.Put(x.n, x.size); got != want {
			t.Errorf("Put(%d, %d) = %x, want %x", x.n, x.size, got, want)
		}
		if got := words.Put(x.n+1, x.size); got != "" { // of 8 bytes it wraps round to the least int
			t.Errorf("Put(%d, %d) = %x, want nothing", x.n+1, x.size, got)
		}
	}
}

func TestPutWrong(t *testing.T) {
	for _, x := range greatest {
		for _, n := range []int{-1, -2, -255, -256, -257, -1 << 32, math.MinInt + 1, math.MinInt} {
			if got := words.Put(n, x.size); got != "" {
				t.Errorf("Put(%d, %d) = %x, want nothing", n, x.size, got)
			}
		}
	}
	for _, size := range noSizes {
		for _, n := range []int{math.MinInt, -1, 0, 1, 5, 255, 65536, math.MaxInt} {
			if got := words.Put(n, size); got != "" {
				t.Errorf("Put(%d, %d) = %x, want nothing", n, size, got)
			}
		}
	}
}

func TestPutText(t *testing.T) {
	long := strings.Repeat("x", 65535)
	for _, x := range []struct{ text, want string }{
		{"ab", "\x00\x02ab"}, {"", "\x00\x00"}, {"\x00", "\x00\x01\x00"}, {"é\xff", "\x00\x03\xc3\xa9\xff"},
		{long[:255], "\x00\xff" + long[:255]}, {long[:256], "\x01\x00" + long[:256]},
		{long[:65534], "\xff\xfe" + long[:65534]}, {long, "\xff\xff" + long},
	} {
		if got, e := words.PutText(x.text); got != x.want || e != api.OK {
			t.Errorf("PutText of %d bytes: %d bytes, %v", len(x.text), len(got), e)
		}
	}
}

func TestPutTextTooLong(t *testing.T) {
	for _, n := range []int{65536, 65537, 65536 + 2, 1 << 20} {
		if got, e := words.PutText(strings.Repeat("x", n)); got != "" || e != api.ErrLong {
			t.Errorf("PutText of %d bytes: %d bytes, %v", n, len(got), e)
		}
	}
}

func TestPutHash(t *testing.T) {
	h := countingHash()
	got := words.PutHash(h)
	if len(got) != 32 {
		t.Fatalf("a hash of %d bytes", len(got))
	}
	for i := range got {
		if got[i] != h[i] {
			t.Errorf("byte %d is %d, want %d", i, got[i], h[i])
		}
	}
	if got := words.PutHash(api.Hash{}); got != strings.Repeat("\x00", 32) {
		t.Errorf("the zero hash: %x", got)
	}
}

// P1.2

func TestGetExamples(t *testing.T) {
	s := "\x09\x01\x02\x07"
	mustGet(t, s, 1, 2, 258, 3)
	mustGetNone(t, s, 3, 2)
	for _, x := range greatest {
		mustGetNone(t, s, -1, x.size)
	}
	mustGet(t, s, 0, 4, 0x09010207, 4)
	mustGet(t, s, 3, 1, 7, 4)
	mustGetNone(t, s, 0, 8)
}

func TestGetEdges(t *testing.T) {
	for _, x := range greatest {
		full := strings.Repeat("\xff", x.size)
		if x.size == 8 {
			full = "\x7f" + full[1:]
		}
		mustGet(t, full, 0, x.size, x.n, x.size)
		mustGet(t, strings.Repeat("\x00", x.size), 0, x.size, 0, x.size)
	}
}

func TestGetPlaces(t *testing.T) {
	s := "\x01\x02\x03\x04\x05\x06\x07\x08\x09\x0a"
	for _, x := range greatest {
		for at := len(s) - x.size + 1; at <= len(s)+9; at++ { // cut off, at the end, beyond it
			mustGetNone(t, s, at, x.size)
		}
		for _, at := range farPlaces {
			mustGetNone(t, s, at, x.size)
		}
		mustGetNone(t, "", 0, x.size)
		last := len(s) - x.size
		n, next, ok := words.Get(s, last, x.size)
		if n == 0 || next != len(s) || !ok {
			t.Errorf("Get of the last %d bytes: %d %d %v", x.size, n, next, ok)
		}
	}
}

func TestGetNoSize(t *testing.T) {
	s := strings.Repeat("\x01", 100)
	for _, size := range noSizes {
		for _, at := range []int{0, 1, 50, 99, 100} {
			mustGetNone(t, s, at, size)
		}
		for _, at := range farPlaces {
			mustGetNone(t, s, at, size)
		}
	}
}

func TestGetEightBytesFirstByte(t *testing.T) {
	rest := "\x00\x00\x00\x00\x00\x00\x01"
	for first := range 256 {
		s := "\xfe" + string([]byte{byte(first)}) + rest + "\xfe"
		if first >= 128 {
			mustGetNone(t, s, 1, 8)
		} else {
			mustGet(t, s, 1, 8, first<<56+1, 9)
		}
	}
	// Of smaller sizes the first byte may be any.
	mustGet(t, "\x80", 0, 1, 128, 1)
	mustGet(t, "\x80\x00", 0, 2, 1<<15, 2)
	mustGet(t, "\x80\x00\x00\x00", 0, 4, 1<<31, 4)
}

func TestGetText(t *testing.T) {
	long := strings.Repeat("y", 65535)
	for _, x := range []struct {
		s    string
		at   int
		want string
		next int
	}{
		{"\x00\x02abc", 0, "ab", 4}, {"\x00\x03abc", 0, "abc", 5}, {"\x00\x00", 0, "", 2}, {"q\x00\x00q", 1, "", 3},
		{"zz\x00\x01\x00z", 2, "\x00", 5}, {"\x01\x00" + long, 0, long[:256], 258},
		{"\xff\xff" + long, 0, long, 65537}, {"\xff\xff" + long + "z", 0, long, 65537},
	} {
		got, next, ok := words.GetText(x.s, x.at)
		if got != x.want || next != x.next || !ok {
			t.Errorf("GetText of %d bytes at %d: %d bytes, %d %v", len(x.s), x.at, len(got), next, ok)
		}
	}
}

func TestGetTextNone(t *testing.T) {
	for _, s := range []string{"", "\x00", "\x00\x01", "\x00\x04abc", "\x01\x00abc", "\xff\xff", "\xff\xff" + strings.Repeat("y", 65534)} {
		mustGetNoText(t, s, 0)
	}
	s := "\x00\x02ab"
	for _, at := range append([]int{1, 2, 3, 4, 5, 6}, farPlaces...) {
		mustGetNoText(t, s, at)
	}
}

func TestGetHash(t *testing.T) {
	h := countingHash()
	s := "abc" + words.PutHash(h)
	for _, behind := range []string{"", "x", strings.Repeat("x", 40)} {
		got, next, ok := words.GetHash(s+behind, 3)
		if got != h || next != 35 || !ok {
			t.Errorf("GetHash: %x %d %v", got, next, ok)
		}
	}
	got, next, ok := words.GetHash(s, 0)
	if want := words.PutHash(got); want != s[:32] || next != 32 || !ok {
		t.Errorf("GetHash: %x %d %v", got, next, ok)
	}
}

func TestGetHashNone(t *testing.T) {
	s := strings.Repeat("\x07", 40)
	for at := 9; at <= 41; at++ {
		mustGetNoHash(t, s, at)
	}
	for _, at := range farPlaces {
		mustGetNoHash(t, s, at)
	}
	mustGetNoHash(t, "", 0)
	mustGetNoHash(t, s[:31], 0)
}

// P1.3

// around are what may stand ahead of something, and behind it.
var around = []string{"", "\x00", "\xff", "ab", "\x00\x05", strings.Repeat("\xff", 9), strings.Repeat("z", 70)}

// setIn calls back with a text in all of these, and the place at which it stands.
func setIn(text string, do func(s string, at int)) {
	for _, ahead := range around {
		for _, behind := range around {
			do(ahead+text+behind, len(ahead))
		}
	}
}

func TestNumbersWrittenAreRead(t *testing.T) {
	for _, x := range greatest {
		for _, n := range numbers(x.size, x.n) {
			text := words.Put(n, x.size)
			if len(text) != x.size {
				t.Fatalf("Put(%d, %d) has %d bytes", n, x.size, len(text))
			}
			setIn(text, func(s string, at int) { mustGet(t, s, at, x.size, n, at+x.size) })
			for cut := range x.size {
				mustGetNone(t, text[:cut], 0, x.size)
				mustGetNone(t, "ab"+text[:cut], 2, x.size)
			}
		}
	}
}

func TestTextsWrittenAreRead(t *testing.T) {
	for _, n := range []int{0, 1, 2, 3, 255, 256, 257, 4096, 65535} {
		x := strings.Repeat("\x00\xffq", n)[:n]
		text, e := words.PutText(x)
		if e != api.OK {
			t.Fatal(n, e)
		}
		setIn(text, func(s string, at int) {
			got, next, ok := words.GetText(s, at)
			if got != x || next != at+len(text) || !ok {
				t.Errorf("a text of %d bytes at %d: %d bytes, %d %v", n, at, len(got), next, ok)
			}
		})
		for _, cut := range []int{0, 1, 2, n / 2, n, n + 1} {
			if cut < len(text) {
				mustGetNoText(t, text[:cut], 0)
				mustGetNoText(t, "ab"+text[:cut], 2)
			}
		}
	}
}

func TestHashesWrittenAreRead(t *testing.T) {
	for _, h := range []api.Hash{{}, countingHash(), {0: 128}, {31: 1}} {
		text := words.PutHash(h)
		setIn(text, func(s string, at int) {
			got, next, ok := words.GetHash(s, at)
			if got != h || next != at+32 || !ok {
				t.Errorf("GetHash at %d: %x %d %v", at, got, next, ok)
			}
		})
		for cut := range 32 {
			mustGetNoHash(t, text[:cut], 0)
			mustGetNoHash(t, "ab"+text[:cut], 2)
		}
	}
}

// jumble is bytes without an order that is easily seen, many of them small so
// that texts stand among them; always the same ones.
func jumble(n int) string {
	b := make([]byte, n)
	x := uint32(2463534242)
	for i := range b {
		x ^= x << 13
		x ^= x >> 17
		x ^= x << 5
		b[i] = byte(x >> 8)
		if x&3 != 0 {
			b[i] &= 1
		}
	}
	return string(b)
}

func TestWhatIsReadWasWritten(t *testing.T) {
	s := jumble(3000)
	read := map[string]int{}
	for at := range len(s) + 1 {
		for _, x := range greatest {
			n, next, ok := words.Get(s, at, x.size)
			if ok && (next != at+x.size || words.Put(n, x.size) != s[at:next]) {
				t.Fatalf("Get at %d of size %d: %d", at, x.size, n)
			}
			if may := at+x.size <= len(s) && (x.size < 8 || s[at] < 128); ok != may {
				t.Fatalf("Get at %d of size %d: %v", at, x.size, ok)
			}
			if ok {
				read[fmt.Sprint(x.size)]++
			}
		}
		if x, next, ok := words.GetText(s, at); ok {
			if text, e := words.PutText(x); e != api.OK || text != s[at:next] {
				t.Fatalf("GetText at %d: %d bytes, %v", at, len(x), e)
			}
			read["text"]++
		}
		if h, next, ok := words.GetHash(s, at); ok {
			if words.PutHash(h) != s[at:next] {
				t.Fatalf("GetHash at %d: %x", at, h)
			}
			read["hash"]++
		}
	}
	if len(read) != 6 {
		t.Errorf("not everything was read once: %v", read)
	}
}

// Something that is read one behind the other is found by the places behind.
func TestOneBehindTheOther(t *testing.T) {
	h := countingHash()
	name, _ := words.PutText("name")
	s := words.Put(7, 1) + name + words.PutHash(h) + words.Put(math.MaxInt, 8) + words.Put(65535, 4)
	n, at, ok := words.Get(s, 0, 1)
	x, at, ok2 := words.GetText(s, at)
	g, at, ok3 := words.GetHash(s, at)
	big, at, ok4 := words.Get(s, at, 8)
	last, at, ok5 := words.Get(s, at, 4)
	if !ok || !ok2 || !ok3 || !ok4 || !ok5 || at != len(s) {
		t.Fatal(ok, ok2, ok3, ok4, ok5, at)
	}
	if n != 7 || x != "name" || g != h || big != math.MaxInt || last != 65535 {
		t.Error(n, x, g, big, last)
	}
}
