package frames_test

import (
	"fmt"
	"hash/crc32"
	"math"
	"strings"
	"testing"

	"sealingwax/api"
	"sealingwax/frames"
)

// The least and the greatest of what may be, as numbers, so that nothing here
// leans on the program's own.
const (
	greatestEpoch = 1073741824
	greatestIndex = 65535
	greatestCount = 112
)

// raw is a block's bytes, field by field, whether it is a frame's or not.
type raw struct {
	kind  byte
	epoch uint32
	index uint16
	count byte
	sum   uint32
	data  string // zeros stand behind it
}

func (r raw) head() string {
	return string([]byte{
		r.kind, byte(r.epoch >> 24), byte(r.epoch >> 16), byte(r.epoch >> 8), byte(r.epoch),
		byte(r.index >> 8), byte(r.index), r.count,
	})
}

// summed has the right sum of the head and of as many bytes of data as it says,
// as far as there is room for these.
func (r raw) summed() raw {
	n := min(int(r.count), greatestCount)
	data := (r.data + strings.Repeat("\x00", greatestCount))[:n]
	r.sum = crc32.ChecksumIEEE([]byte(r.head() + data))
	return r
}

func (r raw) block() string {
	text := r.head() + string([]byte{byte(r.sum >> 24), byte(r.sum >> 16), byte(r.sum >> 8), byte(r.sum)}) + r.data
	text += strings.Repeat("\x00", 124-len(text))
	return text[:31] + "\xa5" + text[31:62] + "\xa5" + text[62:93] + "\xa5" + text[93:] + "\xa5"
}

// rawOf is what a frame that may be is to be.
func rawOf(f api.Frame) raw {
	return raw{kind: f.Kind, epoch: uint32(f.Epoch), index: uint16(f.Index), count: byte(len(f.Data)), data: f.Data}.summed()
}

// encoded is Encode in the chapter's own words.
func encoded(f api.Frame) (string, api.Errno) {
	if !strings.Contains("DPS", string([]byte{f.Kind})) || f.Epoch < 1 || f.Epoch > greatestEpoch || f.Index < 0 || f.Index > greatestIndex {
		return "", api.ErrArg
	}
	if len(f.Data) > greatestCount {
		return "", api.ErrLong
	}
	return rawOf(f).block(), api.OK
}

// decoded is Decode in the chapter's own words, looked at field by field.
func decoded(block string) (api.Frame, api.Errno) {
	if len(block) != 128 || block[31] != 165 || block[63] != 165 || block[95] != 165 || block[127] != 165 {
		return api.Frame{}, api.ErrForm
	}
	text := block[:31] + block[32:63] + block[64:95] + block[96:127]
	epoch := int(text[1])<<24 + int(text[2])<<16 + int(text[3])<<8 + int(text[4])
	index, count := int(text[5])<<8+int(text[6]), int(text[7])
	sum := uint32(text[8])<<24 + uint32(text[9])<<16 + uint32(text[10])<<8 + uint32(text[11])
	if !strings.Contains("DPS", text[:1]) || epoch < 1 || epoch > greatestEpoch || count > greatestCount {
		return api.Frame{}, api.ErrForm
	}
	data, behind := text[12:12+count], text[12+count:]
	if crc32.ChecksumIEEE([]byte(text[:8]+data)) != sum || strings.Trim(behind, "\x00") != "" {
		return api.Frame{}, api.ErrForm
	}
	return api.Frame{Kind: text[0], Epoch: epoch, Index: index, Data: data}, api.OK
}

// torn is Torn in the chapter's own words.
func torn(block string) bool {
	return len(block) == 128 && (block[31] != 165 || block[63] != 165 || block[95] != 165 || block[127] != 165)
}

// say is a frame in letters and digits, whatever bytes it has.
func say(f api.Frame) string {
	data := f.Data[:min(len(f.Data), greatestCount+1)]
	return fmt.Sprintf("{%q %d %d %d: %x}", f.Kind, f.Epoch, f.Index, len(f.Data), data)
}

// mustEncode holds Encode of a frame against the chapter's words.
func mustEncode(t *testing.T, f api.Frame, want api.Errno) string {
	t.Helper()
	block, e := frames.Encode(f)
	its, itsErrno := encoded(f)
	if e != want || itsErrno != want {
		t.Fatalf("Encode of %s: %d, want %d, and by the chapter %d", say(f), e, want, itsErrno)
	}
	if block != its {
		t.Fatalf("Encode of %s: %x, want %x", say(f), block, its)
	}
	return block
}

// mustTell holds Decode and Torn of bytes against the chapter's words, and says
// whether they are a frame's.
func mustTell(t *testing.T, block string) bool {
	t.Helper()
	f, e := frames.Decode(block)
	its, want := decoded(block)
	if e != want || f != its {
		t.Fatalf("Decode(%x) = %s, %d, want %s, %d", block, say(f), e, say(its), want)
	}
	if got := frames.Torn(block); got != torn(block) {
		t.Fatalf("Torn(%x) = %v", block, got)
	}
	return e == api.OK
}

func mustBeNone(t *testing.T, block string) {
	t.Helper()
	if mustTell(t, block) {
		t.Fatalf("a frame: %x", block)
	}
}

func mustBeOne(t *testing.T, block string) {
	t.Helper()
	if !mustTell(t, block) {
		t.Fatalf("no frame: %x", block)
	}
}

// dice are numbers without an order that is easily seen; always the same ones
// from one seed.
type dice uint32

func (x *dice) below(n int) int {
	*x ^= *x << 13
	*x ^= *x >> 17
	*x ^= *x << 5
	return int(uint32(*x)>>4) % n
}

func (x *dice) text(n int) string {
	b := make([]byte, n)
	for i := range b {
		b[i] = byte(x.below(256))
	}
	return string(b)
}

// texts are some of so many bytes: none like the next, zeros, marks, zeros behind
// others, and others behind zeros.
func texts(n int) []string {
	x := dice(2463534242)
	return []string{
		x.text(n), strings.Repeat("\x00", n), strings.Repeat("\xa5", n), strings.Repeat("\xff", n),
		strings.Repeat("\xa5\x00\x00", n)[:n], strings.Repeat("\x00\x00\xa5", n)[:n],
		("q" + strings.Repeat("\x00", n))[:n], (strings.Repeat("\x00", n) + "q")[1 : n+1],
	}
}

// counts are numbers of bytes of data: those at the edges, and those that end
// with a part of the block, or around it.
var counts = []int{0, 1, 2, 18, 19, 20, 49, 50, 51, 80, 81, 82, 110, 111, 112}

// samples are frames that may be.
func samples() []api.Frame {
	var out []api.Frame
	epochs := []int{1, 2, 165, 255, 256, 65536, 1<<24 + 1, greatestEpoch - 1, greatestEpoch}
	indexes := []int{0, 1, 165, 255, 256, greatestIndex - 1, greatestIndex}
	for i, n := range counts {
		for j, data := range texts(n) {
			out = append(out, api.Frame{Kind: "DPS"[(i+j)%3], Epoch: epochs[(i*8+j)%9], Index: indexes[(i*8+j)%7], Data: data})
		}
	}
	return out
}

// with is a block of which the byte at a place is another one.
func with(block string, at int, b byte) string {
	return block[:at] + string([]byte{b}) + block[at+1:]
}

// without is a block of which the parts whose bits are not set are zero bytes.
func without(block string, there int) string {
	b := []byte(block)
	for i := range b {
		if there>>(i/32)&1 == 0 {
			b[i] = 0
		}
	}
	return string(b)
}

// far are numbers that are neither an epoch nor an index, some of them such as
// would be one by their lowest bytes alone.
var far = []int{
	math.MinInt, math.MinInt + 1, -1 << 32, -1<<32 + 1, -1 << 31, -greatestEpoch, -65536, -65535, -2, -1,
	greatestEpoch + 1, 1<<31 - 1, 1 << 31, 1<<32 - 1, 1 << 32, 1<<32 + 1, 1<<40 + 5, math.MaxInt - 1, math.MaxInt,
}
