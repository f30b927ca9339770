package device_test

import (
	"slices"
	"testing"

	"sealingwax/api"
	"sealingwax/device"
)

// keptOfWrite is, by the number, what a block comes to by a write of a text of
// which a crash keeps that: its state, its bytes, and what Read tells.
func keptOfWrite(s string, number int) (int, string, api.Errno) {
	// In the chapter's words, number by number: 1 is the first sector's, 2 the
	// second one's, 4 the third one's, 8 the fourth one's.
	there := [16][]int{
		{}, {0}, {1}, {0, 1}, {2}, {0, 2}, {1, 2}, {0, 1, 2},
		{3}, {0, 3}, {1, 3}, {0, 1, 3}, {2, 3}, {0, 2, 3}, {1, 2, 3}, {0, 1, 2, 3},
	}[(number%16+16)%16]
	if len(there) == 0 {
		return api.BkBlank, "", api.ErrBlank
	}
	return api.BkWritten, withSectors(s, there...), api.OK
}

// numbers are all of the four bits, and some beyond them.
func numbers() []int {
	out := []int{-1, -2, -3, -15, -16, -17, -32, 16, 17, 18, 31, 32, 33, 255, 256, 257, greatest, greatest - 1, least, least + 1}
	for n := range 16 {
		out = append(out, n)
	}
	return out
}

func isOdd(n int) bool { return n%2 != 0 }

// P4.3

func TestCrashKeepsSectorsOfAWrite(t *testing.T) {
	for _, number := range numbers() {
		d := mustNew(t, 4)
		doAll(t, d.Write(1, text(1)), d.Crash([]int{number}), d.Start())
		state, s, e := keptOfWrite(text(1), number)
		mustStates(t, d, api.BkBlank, state, api.BkBlank, api.BkBlank)
		mustRead(t, d, 1, s, e)
		mustPend(t, d, 0)
		if d.Clone().State(1) != state {
			t.Errorf("a crash that keeps %d: surely %d, want %d", number, d.Clone().State(1), state)
		}
	}
}

func TestCrashKeepsAnErasureByOddNumbers(t *testing.T) {
	for _, number := range numbers() {
		d := mixed(t)
		doAll(t, d.Erase(3), d.Crash([]int{number}), d.Start())
		if isOdd(number) {
			mustStates(t, d, api.BkBlank, api.BkWritten, api.BkGone, api.BkGone)
			mustRead(t, d, 3, "", api.ErrGone)
		} else {
			mustStates(t, d, api.BkBlank, api.BkWritten, api.BkGone, api.BkWritten)
			mustRead(t, d, 3, text(3), api.OK)
		}
	}
}

func TestCrashWithAWriteAndItsErasure(t *testing.T) {
	for _, ofWrite := range numbers() {
		for _, ofErasure := range numbers() {
			d := mustNew(t, 4)
			doAll(t, d.Write(2, text(2)), d.Erase(2), d.Crash([]int{ofWrite, ofErasure}), d.Start())
			if isOdd(ofErasure) {
				mustStates(t, d, 0, 0, api.BkGone, 0)
				mustRead(t, d, 2, "", api.ErrGone)
				continue
			}
			state, s, e := keptOfWrite(text(2), ofWrite)
			mustStates(t, d, 0, 0, state, 0)
			mustRead(t, d, 2, s, e)
		}
	}
}

// fourUnderWay has a write of 0, an erasure of 1, a write of 4 and an erasure
// of 3 under way, in this order; 2 is gone.
func fourUnderWay(t *testing.T) *device.Device {
	t.Helper()
	d := mustNew(t, 5)
	doAll(t, d.Write(1, text(1)), d.Write(2, text(2)), d.Write(3, text(3)), d.Erase(2), d.Flush())
	doAll(t, d.Write(0, text(0)), d.Erase(1), d.Erase(2), d.Write(4, text(4)), d.Erase(3))
	mustPend(t, d, 4)
	return d
}

func TestCrashGoesThroughTheListInOrder(t *testing.T) {
	const blank, written, gone = api.BkBlank, api.BkWritten, api.BkGone
	for _, x := range []struct {
		keep   []int
		states []int
	}{
		{nil, []int{blank, written, gone, written, blank}},
		{[]int{}, []int{blank, written, gone, written, blank}},
		{[]int{0, 0, 0, 0}, []int{blank, written, gone, written, blank}},
		{[]int{15, 15, 15, 15}, []int{written, gone, gone, gone, written}},
		{[]int{1, 3, 5, 7}, []int{written, gone, gone, gone, written}},
		{[]int{2, 4, 6, 8}, []int{written, written, gone, written, written}},
		{[]int{15}, []int{written, written, gone, written, blank}},
		{[]int{0, 1}, []int{blank, gone, gone, written, blank}},
		{[]int{0, 0, 8}, []int{blank, written, gone, written, written}},
		{[]int{0, 0, 0, 1}, []int{blank, written, gone, gone, blank}},
		{[]int{0, 1, 0, 0, 15, 15, 15}, []int{blank, gone, gone, written, blank}},
		{[]int{16, 16, 16, 17}, []int{blank, written, gone, gone, blank}},
		{[]int{-1, -1, -2, -2}, []int{written, gone, gone, written, written}},
	} {
		d := fourUnderWay(t)
		list := slices.Clone(x.keep)
		doAll(t, d.Crash(list))
		if !slices.Equal(list, x.keep) {
			t.Errorf("Crash made %v of %v", list, x.keep)
		}
		mustBeUp(t, d, false)
		mustPend(t, d, 0)
		mustStates(t, d, x.states...)
	}
}

func TestCrashOfOneThatIsNotRunning(t *testing.T) {
	d := fourUnderWay(t)
	doAll(t, d.Crash(nil))
	want := lookAt(d)
	must(t, "Crash again", d.Crash([]int{15, 15, 15, 15}), api.ErrDown)
	mustLookLike(t, "behind a Crash that was refused", d, want)
}

func TestWhatACrashKeptIsSure(t *testing.T) {
	d := fourUnderWay(t)
	doAll(t, d.Crash([]int{9, 1, 6}), d.Start())
	want := d.States()
	for range 3 {
		doAll(t, d.Crash([]int{15, 15, 15, 15}), d.Start())
		mustStates(t, d, want...)
		mustRead(t, d, 0, withSectors(text(0), 0, 3), api.OK)
		mustRead(t, d, 4, withSectors(text(4), 1, 2), api.OK)
		mustRead(t, d, 3, text(3), api.OK)
	}
	must(t, "Write of what is torn", d.Write(0, text(0)), api.ErrWritten)
}

func TestWhatACrashLostCanBeDoneAgain(t *testing.T) {
	d := fourUnderWay(t)
	doAll(t, d.Crash(nil), d.Start())
	doAll(t, d.Write(0, text(5)), d.Erase(1), d.Flush(), d.Crash(nil), d.Start())
	mustRead(t, d, 0, text(5), api.OK)
	mustRead(t, d, 1, "", api.ErrGone)
}

func TestStart(t *testing.T) {
	d := fourUnderWay(t)
	want := lookAt(d)
	must(t, "Start of one that is running", d.Start(), api.ErrArg)
	mustLookLike(t, "behind a Start that was refused", d, want)
	doAll(t, d.Crash(nil))
	states := d.States()
	must(t, "Start", d.Start(), api.OK)
	mustBeUp(t, d, true)
	mustStates(t, d, states...)
	must(t, "Start again", d.Start(), api.ErrArg)
	if d.Starts() != 1 {
		t.Errorf("Starts: %d, want 1", d.Starts())
	}
}

// P4.4

func TestFailAtAnAct(t *testing.T) {
	d := mixed(t)
	doAll(t, d.Fail(0, []int{10}))
	mustBeUp(t, d, true)
	must(t, "the Write that fails", d.Write(0, text(0)), api.ErrDown)
	mustBeUp(t, d, false)
	mustPend(t, d, 0)
	doAll(t, d.Start())
	mustRead(t, d, 0, withSectors(text(0), 1, 3), api.OK)

	doAll(t, d.Fail(0, []int{1}))
	must(t, "the Erase that fails", d.Erase(1), api.ErrDown)
	mustStates(t, d, api.BkWritten, api.BkGone, api.BkGone, api.BkWritten)
	doAll(t, d.Start(), d.Fail(0, []int{14}))
	must(t, "the Erase that fails", d.Erase(3), api.ErrDown)
	mustStates(t, d, api.BkWritten, api.BkGone, api.BkGone, api.BkWritten)
}

func TestFailAtAFlush(t *testing.T) {
	d := mustNew(t, 4)
	doAll(t, d.Fail(2, []int{3, 0}), d.Write(0, text(0)), d.Write(1, text(1)))
	mustPend(t, d, 2)
	must(t, "the Flush that fails", d.Flush(), api.ErrDown)
	mustBeUp(t, d, false)
	mustStates(t, d, api.BkWritten, 0, 0, 0)
	doAll(t, d.Start())
	mustRead(t, d, 0, withSectors(text(0), 0, 1), api.OK)
	mustRead(t, d, 1, "", api.ErrBlank)
}

func TestFailAtAFlushOfNothing(t *testing.T) {
	d := mixed(t)
	states := d.States()
	doAll(t, d.Fail(3, nil), d.Flush(), d.Flush(), d.Flush())
	must(t, "the Flush that fails", d.Flush(), api.ErrDown)
	mustBeUp(t, d, false)
	mustStates(t, d, states...)
}

func TestFailBehindSoMany(t *testing.T) {
	// Acts and Flushes are told here in an order in which each is OK.
	steps := func(d *device.Device) []func() api.Errno {
		return []func() api.Errno{
			func() api.Errno { return d.Write(0, text(0)) },
			func() api.Errno { return d.Write(1, text(1)) },
			d.Flush,
			func() api.Errno { return d.Erase(0) },
			func() api.Errno { return d.Write(2, text(2)) },
			func() api.Errno { return d.Erase(2) },
			d.Flush,
			d.Flush,
			func() api.Errno { return d.Erase(1) },
		}
	}
	for n := range 9 {
		d, like := mustNew(t, 4), mustNew(t, 4)
		doAll(t, d.Fail(n, []int{6, 5, 4}))
		all, alike := steps(d), steps(like)
		for i := range n {
			must(t, "ahead of the one that fails", all[i](), api.OK)
			must(t, "the same", alike[i](), api.OK)
			mustLookLike(t, "as ever", d, lookAt(like))
		}
		must(t, "the one that fails", all[n](), api.ErrDown)
		mustBeUp(t, d, false)
		if n != 2 && n != 6 && n != 7 { // an act, not a Flush
			must(t, "the same", alike[n](), api.OK)
		}
		doAll(t, like.Crash([]int{6, 5, 4}))
		mustLookLike(t, "behind it", d, lookAt(like))
	}
}

func TestFailDoesNotCountWhatDoesNothing(t *testing.T) {
	d := mixed(t)
	doAll(t, d.Fail(1, []int{0, 15}))
	for range 2 { // with one act left, and with none
		for range 3 {
			must(t, "an erasure of what is gone", d.Erase(2), api.OK)
			must(t, "an erasure of what is blank", d.Erase(0), api.ErrBlank)
			must(t, "a write of what is written", d.Write(3, text(1)), api.ErrWritten)
			must(t, "a write of what is gone", d.Write(2, text(1)), api.ErrGone)
			must(t, "a write of no block", d.Write(4, text(1)), api.ErrArg)
			must(t, "a write of too few bytes", d.Write(0, short(127)), api.ErrArg)
			must(t, "an erasure of no block", d.Erase(-1), api.ErrArg)
			must(t, "a read", errnoOf(d.Read(3)), api.OK)
			must(t, "a start", d.Start(), api.ErrArg)
			must(t, "a Fail of none", d.Fail(-1, nil), api.ErrArg)
		}
		mustBeUp(t, d, true)
		if d.Pending() == 0 {
			doAll(t, d.Erase(1))
		}
	}
	must(t, "the act that fails", d.Write(0, text(0)), api.ErrDown)
	mustStates(t, d, api.BkWritten, api.BkWritten, api.BkGone, api.BkWritten)
	doAll(t, d.Start())
	mustRead(t, d, 0, text(0), api.OK)
}

func errnoOf(_ string, e api.Errno) api.Errno { return e }

func TestFailKeepsWhatWasUnderWayAheadOfIt(t *testing.T) {
	d := mustNew(t, 4)
	doAll(t, d.Write(0, text(0)), d.Write(1, text(1)), d.Fail(0, []int{1, 2, 4}))
	must(t, "the act that fails", d.Write(2, text(2)), api.ErrDown)
	doAll(t, d.Start())
	for i := range 3 {
		mustRead(t, d, i, withSectors(text(i), i), api.OK)
	}
}

func TestFailBelowNone(t *testing.T) {
	d := mustNew(t, 4)
	for _, n := range []int{-1, -2, least} {
		must(t, "Fail", d.Fail(n, []int{15}), api.ErrArg)
	}
	doAll(t, d.Write(0, text(0)), d.Flush())
	// One that is refused leaves the one ahead as it was.
	doAll(t, d.Fail(0, []int{2}))
	must(t, "Fail", d.Fail(-1, []int{15}), api.ErrArg)
	must(t, "the act that fails", d.Write(1, text(1)), api.ErrDown)
	doAll(t, d.Start())
	mustRead(t, d, 1, withSectors(text(1), 1), api.OK)
}

func TestFailTakesThePlaceOfAnother(t *testing.T) {
	d := mustNew(t, 4)
	doAll(t, d.Fail(0, []int{15, 15, 15}), d.Fail(2, []int{1, 0, 8}))
	doAll(t, d.Write(0, text(0)), d.Write(1, text(1)))
	must(t, "the act that fails", d.Write(2, text(2)), api.ErrDown)
	doAll(t, d.Start())
	mustRead(t, d, 0, withSectors(text(0), 0), api.OK)
	mustRead(t, d, 1, "", api.ErrBlank)
	mustRead(t, d, 2, withSectors(text(2), 3), api.OK)

	doAll(t, d.Fail(100, []int{15}), d.Fail(0, nil))
	must(t, "the act that fails", d.Write(3, text(3)), api.ErrDown)
	mustStates(t, d, api.BkWritten, api.BkBlank, api.BkWritten, api.BkBlank)
}

func TestFailIsEndedByACrash(t *testing.T) {
	d := mustNew(t, 4)
	doAll(t, d.Fail(0, []int{15}), d.Crash(nil), d.Start())
	doAll(t, d.Write(0, text(0)), d.Flush(), d.Erase(0), d.Flush())

	// The crash keeps its own numbers, not those of the Fail.
	doAll(t, d.Fail(5, []int{15, 15}), d.Write(1, text(1)), d.Crash([]int{4}), d.Start())
	mustRead(t, d, 1, withSectors(text(1), 2), api.OK)
	doAll(t, d.Flush(), d.Flush(), d.Flush(), d.Flush(), d.Flush(), d.Flush())
}

func TestFailIsEndedByItself(t *testing.T) {
	d := mustNew(t, 4)
	doAll(t, d.Fail(0, []int{15}))
	must(t, "the act that fails", d.Write(0, text(0)), api.ErrDown)
	doAll(t, d.Start(), d.Write(1, text(1)), d.Flush(), d.Erase(1))
	doAll(t, d.Fail(0, []int{0}))
	must(t, "the Flush that fails", d.Flush(), api.ErrDown)
	doAll(t, d.Start(), d.Flush(), d.Flush(), d.Write(2, text(2)))
	mustStates(t, d, api.BkWritten, api.BkWritten, api.BkWritten, api.BkBlank)
}

func TestFailBehindAsManyAsCanBe(t *testing.T) {
	d := mustNew(t, 4)
	doAll(t, d.Fail(greatest, []int{15}), d.Write(0, text(0)), d.Flush(), d.Erase(0))
	for range 1000 {
		doAll(t, d.Flush())
	}
	mustBeUp(t, d, true)
}

func TestFailKeepsTheListAsItWas(t *testing.T) {
	d := mustNew(t, 4)
	keep := []int{1, 2}
	doAll(t, d.Fail(1, keep))
	keep[0], keep[1] = 15, 0
	doAll(t, d.Write(0, text(0)))
	must(t, "the act that fails", d.Write(1, text(1)), api.ErrDown)
	if keep[0] != 15 || keep[1] != 0 {
		t.Errorf("a Fail changed its list: %v", keep)
	}
	doAll(t, d.Start())
	mustRead(t, d, 0, withSectors(text(0), 0), api.OK)
	mustRead(t, d, 1, withSectors(text(1), 1), api.OK)
}
