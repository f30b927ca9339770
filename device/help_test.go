package device_test

import (
	"reflect"
	"slices"
	"strings"
	"testing"

	"sealingwax/api"
	"sealingwax/device"
)

// The bounds of int.
const (
	greatest = int(^uint(0) >> 1)
	least    = -greatest - 1
)

// text is a block's bytes, no two sectors of which are alike, nor have a zero
// byte; texts of unlike seeds are unlike in each sector.
func text(seed int) string {
	b := make([]byte, api.Block)
	for i := range b {
		b[i] = byte(1 + (seed*7+i/api.Sector*61+i)%251)
	}
	return string(b)
}

// short is some text of so many bytes.
func short(n int) string { return strings.Repeat("s", n) }

// withSectors is a text of which only some sectors are there.
func withSectors(s string, there ...int) string {
	b := make([]byte, api.Block)
	for _, k := range there {
		copy(b[k*32:(k+1)*32], s[k*32:(k+1)*32])
	}
	return string(b)
}

// look is all that a device tells of itself, and what is sure of it.
type look struct {
	states, sureStates []int
	texts, sureTexts   []string
	errnos, sureErrnos []api.Errno
	length, pending    int
	up                 bool
	starts             int
}

func readAll(d *device.Device) (texts []string, errnos []api.Errno) {
	for i := range d.Len() {
		s, e := d.Read(i)
		texts, errnos = append(texts, s), append(errnos, e)
	}
	return texts, errnos
}

func lookAt(d *device.Device) look {
	l := look{states: d.States(), length: d.Len(), pending: d.Pending(), up: d.Up(), starts: d.Starts()}
	l.texts, l.errnos = readAll(d)
	sure := d.Clone()
	l.sureStates = sure.States()
	l.sureTexts, l.sureErrnos = readAll(sure)
	return l
}

func mustLookLike(t *testing.T, what string, d *device.Device, want look) {
	t.Helper()
	if got := lookAt(d); !reflect.DeepEqual(got, want) {
		t.Fatalf("%s: %+v, want %+v", what, got, want)
	}
}

func mustNew(t *testing.T, blocks int) *device.Device {
	t.Helper()
	d, e := device.New(blocks)
	if e != api.OK || d == nil {
		t.Fatalf("New(%d): %v", blocks, e)
	}
	return d
}

func must(t *testing.T, what string, got, want api.Errno) {
	t.Helper()
	if got != want {
		t.Fatalf("%s: %d, want %d", what, got, want)
	}
}

func mustRead(t *testing.T, d *device.Device, i int, want string, wantErrno api.Errno) {
	t.Helper()
	if s, e := d.Read(i); s != want || e != wantErrno {
		t.Fatalf("Read(%d): %q, %d, want %q, %d", i, s, e, want, wantErrno)
	}
}

func mustStates(t *testing.T, d *device.Device, want ...int) {
	t.Helper()
	if got := d.States(); !slices.Equal(got, want) {
		t.Fatalf("States: %v, want %v", got, want)
	}
	for i, x := range want {
		if got := d.State(i); got != x {
			t.Fatalf("State(%d): %d, want %d", i, got, x)
		}
	}
}

func mustPend(t *testing.T, d *device.Device, want int) {
	t.Helper()
	if got := d.Pending(); got != want {
		t.Fatalf("Pending: %d, want %d", got, want)
	}
}

func mustBeUp(t *testing.T, d *device.Device, want bool) {
	t.Helper()
	if got := d.Up(); got != want {
		t.Fatalf("Up: %v, want %v", got, want)
	}
}

// doAll does what must be OK, one behind the other.
func doAll(t *testing.T, errnos ...api.Errno) {
	t.Helper()
	for i, e := range errnos {
		if e != api.OK {
			t.Fatalf("call %d: %d, want OK", i, e)
		}
	}
}

// mixed is a running device of four blocks: 0 is blank, 1 is written, 2 is gone,
// and 3 is written; all of it surely.
func mixed(t *testing.T) *device.Device {
	t.Helper()
	d := mustNew(t, 4)
	doAll(t, d.Write(1, text(1)), d.Write(2, text(2)), d.Write(3, text(3)), d.Erase(2), d.Flush())
	mustStates(t, d, api.BkBlank, api.BkWritten, api.BkGone, api.BkWritten)
	return d
}
