package packs_test

import (
	"fmt"
	"hash/crc32"
	"math"
	"slices"
	"strings"
	"testing"

	"sealingwax/api"
	"sealingwax/packs"
)

// The greatest of what may be, as numbers, so that nothing here leans on the
// program's own.
const (
	room           = 112
	greatestEpoch  = 1073741824
	greatestFrames = 65536
)

// blockOf is the block of a frame, by chapter 5, whether the frame may be or not.
func blockOf(kind byte, epoch, index int, data string) string {
	head := string([]byte{
		kind, byte(epoch >> 24), byte(epoch >> 16), byte(epoch >> 8), byte(epoch),
		byte(index >> 8), byte(index), byte(len(data)),
	})
	sum := crc32.ChecksumIEEE([]byte(head + data))
	text := head + string([]byte{byte(sum >> 24), byte(sum >> 16), byte(sum >> 8), byte(sum)}) + data
	text += strings.Repeat("\x00", 124-len(text))
	return text[:31] + "\xa5" + text[31:62] + "\xa5" + text[62:93] + "\xa5" + text[93:] + "\xa5"
}

func isUnder(kind byte, epoch int) bool {
	return (kind == 'D' || kind == 'P' || kind == 'S') && epoch >= 1 && epoch <= greatestEpoch
}

// split is Split in the chapter's own words.
func split(kind byte, epoch int, data string) ([]string, api.Errno) {
	if len(data) > greatestFrames*room {
		return nil, api.ErrLong
	}
	if !isUnder(kind, epoch) {
		return nil, api.ErrArg
	}
	if data == "" {
		return []string{blockOf(kind, epoch, 0, "")}, api.OK
	}
	var out []string
	for data != "" {
		n := min(len(data), room)
		out = append(out, blockOf(kind, epoch, len(out), data[:n]))
		data = data[n:]
	}
	return out, api.OK
}

// join is Join in the chapter's own words: the one data that these could be of,
// by what the blocks have where a frame's data is, is packed and held against them.
func join(blocks []string, kind byte, epoch int) (string, api.Errno) {
	var data strings.Builder
	for _, block := range blocks {
		if len(block) != 128 || block[7] > room {
			return "", api.ErrForm
		}
		text := block[:31] + block[32:63] + block[64:95] + block[96:127]
		data.WriteString(text[12 : 12+int(text[7])])
	}
	if packed, e := split(kind, epoch, data.String()); e != api.OK || !slices.Equal(packed, blocks) {
		return "", api.ErrForm
	}
	return data.String(), api.OK
}

// mustSplit holds Split against the chapter's words.
func mustSplit(t *testing.T, kind byte, epoch int, data string, want api.Errno) []string {
	t.Helper()
	blocks, e := packs.Split(kind, epoch, data)
	its, itsErrno := split(kind, epoch, data)
	if e != want || itsErrno != want {
		t.Fatalf("Split of %q, %d and %d bytes: %d, want %d, and by the chapter %d", kind, epoch, len(data), e, want, itsErrno)
	}
	if !slices.Equal(blocks, its) {
		t.Fatalf("Split of %q, %d and %d bytes: %s, want %s", kind, epoch, len(data), say(blocks), say(its))
	}
	return blocks
}

// mustTell holds Join against the chapter's words, and says whether the blocks
// are joined. The list has to stay as it was.
func mustTell(t *testing.T, blocks []string, kind byte, epoch int) bool {
	t.Helper()
	whole := blocks[:cap(blocks)]
	was := slices.Clone(whole)
	data, e := packs.Join(blocks, kind, epoch)
	if !slices.Equal(whole, was) {
		t.Fatalf("Join of %s: the list is another one", say(was))
	}
	if its, want := join(blocks, kind, epoch); e != want || data != its {
		t.Fatalf("Join of %s under %q, %d: %d bytes, %d, want %d bytes, %d", say(blocks), kind, epoch, len(data), e, len(its), want)
	}
	return e == api.OK
}

// mustJoin is for blocks that are joined, and to what.
func mustJoin(t *testing.T, blocks []string, kind byte, epoch int, want string) {
	t.Helper()
	mustTell(t, blocks, kind, epoch)
	if data, e := packs.Join(blocks, kind, epoch); data != want || e != api.OK {
		t.Fatalf("Join of %s under %q, %d: %d bytes, %d, want %d bytes", say(blocks), kind, epoch, len(data), e, len(want))
	}
}

// mustBeNone is for blocks that are joined to nothing.
func mustBeNone(t *testing.T, blocks []string, kind byte, epoch int) {
	t.Helper()
	mustTell(t, blocks, kind, epoch)
	if data, e := packs.Join(blocks, kind, epoch); data != "" || e != api.ErrForm {
		t.Fatalf("Join of %s under %q, %d: %d bytes, %d", say(blocks), kind, epoch, len(data), e)
	}
}

// say is the heads of blocks, of the first few of them.
func say(blocks []string) string {
	var heads []string
	for _, block := range blocks[:min(len(blocks), 8)] {
		heads = append(heads, fmt.Sprintf("%x", block[:min(len(block), 12)]))
	}
	return fmt.Sprintf("%d blocks %v", len(blocks), heads)
}

// dice are numbers without an order that is easily seen; always the same ones
// from one seed.
type dice uint32

func (x *dice) below(n int) int {
	*x ^= *x << 13
	*x ^= *x >> 17
	*x ^= *x << 5
	return int(uint32(*x)>>4) % n
}

func (x *dice) text(n int) string {
	b := make([]byte, n)
	for i := range b {
		b[i] = byte(x.below(256))
	}
	return string(b)
}

// texts are some of so many bytes: none like the next, zeros, marks, and others
// behind zeros.
func texts(n int) []string {
	x := dice(2463534242)
	return []string{
		x.text(n), strings.Repeat("\x00", n), strings.Repeat("\xa5", n), strings.Repeat("seal", n)[:n],
		(strings.Repeat("\x00", n) + "q")[1 : n+1],
	}
}

// sizes are numbers of bytes at and around whole frames.
var sizes = []int{0, 1, 2, 111, 112, 113, 223, 224, 225, 335, 336, 337, 500, 1120, 1121}

// far are epochs that may not be, some of them such as would be one by their
// lowest bytes alone.
var far = []int{
	math.MinInt, -1 << 32, -1<<32 + 1, -greatestEpoch, -1, 0,
	greatestEpoch + 1, 1<<31 - 1, 1 << 32, 1<<32 + 1, 1<<40 + 5, math.MaxInt,
}

// with is a list with another block at a place.
func with(blocks []string, at int, block string) []string {
	out := slices.Clone(blocks)
	out[at] = block
	return out
}

// lacking is a list without the block at a place.
func lacking(blocks []string, at int) []string {
	return slices.Delete(slices.Clone(blocks), at, at+1)
}

// put is a list with one more block at a place.
func put(blocks []string, at int, block string) []string {
	return slices.Insert(slices.Clone(blocks), at, block)
}

// turned is a block of which a byte is another one.
func turned(block string, at int, bits byte) string {
	return block[:at] + string([]byte{block[at] ^ bits}) + block[at+1:]
}

// kept is a block of which the parts whose bits are not set are zero bytes.
func kept(block string, there int) string {
	b := []byte(block)
	for i := range b {
		if there>>(i/32)&1 == 0 {
			b[i] = 0
		}
	}
	return string(b)
}
