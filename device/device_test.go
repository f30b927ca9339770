package device_test

import (
	"reflect"
	"slices"
	"strings"
	"testing"

	"sealingwax/api"
	"sealingwax/device"
)

func TestExamples(t *testing.T) {
	a := strings.Repeat("a", 128)
	as, zeros := a[:32], string(make([]byte, 32))
	d := mustNew(t, 4)
	must(t, "Write 1", d.Write(1, a), api.OK)
	mustRead(t, d, 1, a, api.OK)
	must(t, "Write 1 again", d.Write(1, a), api.ErrWritten)
	mustPend(t, d, 1)
	must(t, "Crash of 5", d.Crash([]int{5}), api.OK)
	must(t, "Start", d.Start(), api.OK)
	mustRead(t, d, 1, as+zeros+as+zeros, api.OK)

	must(t, "Write 2", d.Write(2, a), api.OK)
	must(t, "Crash of nothing", d.Crash(nil), api.OK)
	must(t, "Start", d.Start(), api.OK)
	mustRead(t, d, 2, "", api.ErrBlank)

	must(t, "Write 2", d.Write(2, a), api.OK)
	must(t, "Flush", d.Flush(), api.OK)
	must(t, "Erase 2", d.Erase(2), api.OK)
	mustRead(t, d, 2, "", api.ErrGone)
	must(t, "Fail of 0", d.Fail(0, []int{0, 1}), api.OK)
	must(t, "Erase 1", d.Erase(1), api.ErrDown)
	mustStates(t, d, api.BkBlank, api.BkGone, api.BkWritten, api.BkBlank)
}

// What is none

func TestNone(t *testing.T) {
	for name, d := range map[string]*device.Device{"nil": nil, "not by New": new(device.Device)} {
		t.Run(name, func(t *testing.T) {
			for range 2 {
				askNone(t, d)
			}
		})
	}
}

func askNone(t *testing.T, d *device.Device) {
	t.Helper()
	if d.Len() != 0 || d.Pending() != 0 || d.Starts() != 0 || d.Up() || len(d.States()) != 0 {
		t.Errorf("Len %d, Pending %d, Starts %d, Up %v, States %v", d.Len(), d.Pending(), d.Starts(), d.Up(), d.States())
	}
	if d.Clone() != nil {
		t.Error("a clone of none")
	}
	for _, i := range []int{-1, 0, 1, 511, 512, greatest, least} {
		if got := d.State(i); got != -1 {
			t.Errorf("State(%d): %d", i, got)
		}
		mustRead(t, d, i, "", api.ErrNil)
		must(t, "Erase", d.Erase(i), api.ErrNil)
		for _, n := range []int{0, 127, 128, 129} {
			must(t, "Write", d.Write(i, short(n)), api.ErrNil)
			for state := -1; state <= 3; state++ {
				must(t, "Tamper", d.Tamper(i, state, short(n)), api.ErrNil)
			}
		}
	}
	for _, keep := range [][]int{nil, {}, {15}} {
		must(t, "Crash", d.Crash(keep), api.ErrNil)
		for _, n := range []int{-1, 0, 1} {
			must(t, "Fail", d.Fail(n, keep), api.ErrNil)
		}
	}
	must(t, "Flush", d.Flush(), api.ErrNil)
	must(t, "Start", d.Start(), api.ErrNil)
}

// P4.1

func TestNew(t *testing.T) {
	for _, n := range []int{4, 5, 100, 511, 512} {
		d := mustNew(t, n)
		if d.Len() != n || !slices.Equal(d.States(), make([]int, n)) {
			t.Errorf("New(%d): Len %d, States %v", n, d.Len(), d.States())
		}
		mustPend(t, d, 0)
		mustBeUp(t, d, true)
		if d.Starts() != 0 {
			t.Errorf("New(%d): Starts %d", n, d.Starts())
		}
		for i := range n {
			mustRead(t, d, i, "", api.ErrBlank)
		}
	}
	for _, n := range []int{3, 2, 1, 0, -1, -4, -512, 513, 1024, greatest, least} {
		if d, e := device.New(n); d != nil || e != api.ErrArg {
			t.Errorf("New(%d): %v, %d", n, d, e)
		}
	}
}

func TestNewOnesAreApart(t *testing.T) {
	a, b := mustNew(t, 4), mustNew(t, 4)
	want := lookAt(b)
	doAll(t, a.Write(0, text(0)), a.Flush(), a.Fail(0, nil), a.Crash(nil), a.Start())
	mustLookLike(t, "the other one", b, want)
}

func TestStateAtTheEdges(t *testing.T) {
	for _, n := range []int{4, 512} {
		d := mustNew(t, n)
		doAll(t, d.Write(0, text(0)), d.Write(n-1, text(1)), d.Erase(n-1))
		for i, want := range map[int]int{
			-1: -1, least: -1, n: -1, n + 1: -1, greatest: -1,
			0: api.BkWritten, 1: api.BkBlank, n - 2: api.BkBlank, n - 1: api.BkGone,
		} {
			if got := d.State(i); got != want {
				t.Errorf("%d blocks: State(%d): %d, want %d", n, i, got, want)
			}
		}
	}
}

func TestStatesAreToldWithAllActs(t *testing.T) {
	d := mixed(t)
	doAll(t, d.Write(0, text(9)), d.Erase(1))
	mustStates(t, d, api.BkWritten, api.BkGone, api.BkGone, api.BkWritten)
	mustRead(t, d, 0, text(9), api.OK)
	mustRead(t, d, 1, "", api.ErrGone)
	doAll(t, d.Flush())
	mustStates(t, d, api.BkWritten, api.BkGone, api.BkGone, api.BkWritten)
}

func TestStatesAreTheAskersOwn(t *testing.T) {
	d := mixed(t)
	want := lookAt(d)
	got := d.States()
	for i := range got {
		got[i] = 7
	}
	_ = append(got[:0], 8, 8)
	mustLookLike(t, "behind changes of the list", d, want)
}

func TestPending(t *testing.T) {
	d := mustNew(t, 4)
	for i := range 4 {
		mustPend(t, d, i)
		doAll(t, d.Write(i, text(i)))
	}
	must(t, "a Write that is refused", d.Write(0, text(0)), api.ErrWritten)
	must(t, "a Write that is refused", d.Write(4, text(0)), api.ErrArg)
	must(t, "an Erase that is refused", d.Erase(-1), api.ErrArg)
	mustPend(t, d, 4)
	doAll(t, d.Erase(0))
	mustPend(t, d, 5)
	doAll(t, d.Erase(0))
	mustPend(t, d, 5)
	doAll(t, d.Flush())
	mustPend(t, d, 0)
	doAll(t, d.Erase(1), d.Crash(nil))
	mustPend(t, d, 0)
}

func TestUpAndStarts(t *testing.T) {
	d := mustNew(t, 4)
	for n := range 5 {
		mustBeUp(t, d, true)
		must(t, "Start of one that is running", d.Start(), api.ErrArg)
		if d.Starts() != n {
			t.Fatalf("Starts: %d, want %d", d.Starts(), n)
		}
		doAll(t, d.Crash(nil))
		mustBeUp(t, d, false)
		if d.Starts() != n {
			t.Fatalf("Starts behind a crash: %d, want %d", d.Starts(), n)
		}
		doAll(t, d.Start())
	}
}

// P4.2

func TestRead(t *testing.T) {
	d := mixed(t)
	for i, want := range map[int]api.Errno{
		least: api.ErrArg, -1: api.ErrArg, 4: api.ErrArg, greatest: api.ErrArg,
		0: api.ErrBlank, 2: api.ErrGone,
	} {
		mustRead(t, d, i, "", want)
	}
	mustRead(t, d, 1, text(1), api.OK)
	mustRead(t, d, 3, text(3), api.OK)
}

func TestWriteOfAllBytes(t *testing.T) {
	b := make([]byte, 256)
	for i := range b {
		b[i] = byte(i)
	}
	zeros := string(make([]byte, 128))
	d := mustNew(t, 4)
	for i, s := range []string{string(b[:128]), string(b[128:]), zeros, strings.Repeat("\xff", 128)} {
		doAll(t, d.Write(i, s))
		mustRead(t, d, i, s, api.OK)
	}
	doAll(t, d.Flush())
	mustStates(t, d, 1, 1, 1, 1)
	mustRead(t, d, 0, string(b[:128]), api.OK)
	mustRead(t, d, 1, string(b[128:]), api.OK)
	mustRead(t, d, 2, zeros, api.OK)
}

func TestWriteRefused(t *testing.T) {
	d := mixed(t)
	want := lookAt(d)
	for _, i := range []int{least, -1, 4, 5, greatest} {
		for _, n := range []int{0, 127, 128, 129} {
			must(t, "Write of no block", d.Write(i, short(n)), api.ErrArg)
		}
	}
	// That the bytes are too many or too few is told ahead of what the block is.
	for i := range 4 {
		for _, n := range []int{0, 1, 127, 129, 256} {
			must(t, "Write of other bytes", d.Write(i, short(n)), api.ErrArg)
		}
	}
	must(t, "Write of what is written", d.Write(1, text(9)), api.ErrWritten)
	must(t, "Write of what has the same bytes", d.Write(1, text(1)), api.ErrWritten)
	must(t, "Write of what is gone", d.Write(2, text(9)), api.ErrGone)
	mustLookLike(t, "behind Writes that were refused", d, want)
}

func TestWriteAtTheEnds(t *testing.T) {
	for _, n := range []int{4, 512} {
		d := mustNew(t, n)
		must(t, "Write of the first", d.Write(0, text(1)), api.OK)
		must(t, "Write of the last", d.Write(n-1, text(2)), api.OK)
		must(t, "Write behind the last", d.Write(n, text(2)), api.ErrArg)
		mustRead(t, d, 0, text(1), api.OK)
		mustRead(t, d, n-1, text(2), api.OK)
		mustPend(t, d, 2)
	}
}

func TestErase(t *testing.T) {
	d := mixed(t)
	want := lookAt(d)
	for _, i := range []int{least, -1, 4, 5, greatest} {
		must(t, "Erase of no block", d.Erase(i), api.ErrArg)
	}
	must(t, "Erase of what is blank", d.Erase(0), api.ErrBlank)
	must(t, "Erase of what is gone", d.Erase(2), api.OK)
	mustLookLike(t, "behind Erases that do nothing", d, want)

	must(t, "Erase", d.Erase(3), api.OK)
	mustPend(t, d, 1)
	mustRead(t, d, 3, "", api.ErrGone)
	must(t, "Write of what was erased", d.Write(3, text(3)), api.ErrGone)
	must(t, "Erase again", d.Erase(3), api.OK)
	mustPend(t, d, 1)
}

func TestWriteAndErasureUnderWay(t *testing.T) {
	d := mustNew(t, 4)
	doAll(t, d.Write(0, text(0)), d.Erase(0))
	mustPend(t, d, 2)
	mustRead(t, d, 0, "", api.ErrGone)
	must(t, "Write", d.Write(0, text(0)), api.ErrGone)
	doAll(t, d.Flush())
	mustPend(t, d, 0)
	doAll(t, d.Crash(nil))
	mustStates(t, d, api.BkGone, 0, 0, 0)
}

func TestFlushMakesSure(t *testing.T) {
	for _, keep := range [][]int{nil, {0, 0, 0}, {15, 15, 15}, {1, 2, 3}} {
		d := mixed(t)
		doAll(t, d.Write(0, text(7)), d.Erase(1), d.Flush(), d.Flush(), d.Crash(keep), d.Start())
		mustStates(t, d, api.BkWritten, api.BkGone, api.BkGone, api.BkWritten)
		mustRead(t, d, 0, text(7), api.OK)
		mustRead(t, d, 3, text(3), api.OK)
	}
}

func TestWhatIsNotRunning(t *testing.T) {
	d := mixed(t)
	doAll(t, d.Crash(nil))
	want := lookAt(d)
	for _, i := range []int{least, -1, 0, 1, 2, 3, 4, greatest} {
		mustRead(t, d, i, "", api.ErrDown)
		must(t, "Erase", d.Erase(i), api.ErrDown)
		for _, n := range []int{0, 127, 128, 129} {
			must(t, "Write", d.Write(i, short(n)), api.ErrDown)
		}
	}
	must(t, "Flush", d.Flush(), api.ErrDown)
	for _, keep := range [][]int{nil, {1}, {15, 15}} {
		must(t, "Crash", d.Crash(keep), api.ErrDown)
		for _, n := range []int{least, -1, 0, 1} {
			must(t, "Fail", d.Fail(n, keep), api.ErrDown)
		}
	}
	mustLookLike(t, "behind calls that were refused", d, want)
	mustStates(t, d, api.BkBlank, api.BkWritten, api.BkGone, api.BkWritten)
	if d.Len() != 4 || d.Pending() != 0 || d.Up() || d.Starts() != 0 || d.State(4) != -1 || d.State(-1) != -1 {
		t.Errorf("Len %d, Pending %d, Up %v, Starts %d", d.Len(), d.Pending(), d.Up(), d.Starts())
	}
	// A Fail that was refused is not set, either.
	doAll(t, d.Start(), d.Write(0, text(0)), d.Flush(), d.Erase(0))
}

// P4.5

func TestTamperOfEachState(t *testing.T) {
	bytes := map[int]string{api.BkBlank: "", api.BkWritten: text(8), api.BkGone: ""}
	errnos := map[int]api.Errno{api.BkBlank: api.ErrBlank, api.BkWritten: api.OK, api.BkGone: api.ErrGone}
	for i := range 4 { // blank, written, gone, written
		for state, s := range bytes {
			for _, down := range []bool{false, true} {
				d := mixed(t)
				want := d.States()
				want[i] = state
				if down {
					doAll(t, d.Crash(nil))
				}
				must(t, "Tamper", d.Tamper(i, state, s), api.OK)
				mustBeUp(t, d, !down)
				mustPend(t, d, 0)
				mustStates(t, d, want...)
				if sure := d.Clone().States(); !slices.Equal(sure, want) {
					t.Fatalf("Tamper(%d, %d): surely %v, want %v", i, state, sure, want)
				}
				if down {
					doAll(t, d.Start())
				}
				mustRead(t, d, i, s, errnos[state])
				doAll(t, d.Crash([]int{0}))
				mustStates(t, d, want...)
			}
		}
	}
}

func TestTamperRefused(t *testing.T) {
	for _, down := range []bool{false, true} {
		d := mixed(t)
		if down {
			doAll(t, d.Crash(nil))
		} else {
			doAll(t, d.Write(0, text(0)), d.Erase(3))
		}
		want := lookAt(d)
		for _, i := range []int{least, -1, 4, 5, greatest} {
			must(t, "Tamper of no block", d.Tamper(i, api.BkBlank, ""), api.ErrArg)
			must(t, "Tamper of no block", d.Tamper(i, api.BkWritten, text(0)), api.ErrArg)
			must(t, "Tamper of no block", d.Tamper(i, api.BkGone, ""), api.ErrArg)
		}
		for i := range 4 {
			for _, state := range []int{least, -1, 3, 4, greatest} {
				must(t, "Tamper of no state", d.Tamper(i, state, ""), api.ErrArg)
				must(t, "Tamper of no state", d.Tamper(i, state, text(0)), api.ErrArg)
			}
			for _, n := range []int{0, 1, 127, 129, 256} {
				must(t, "Tamper with other bytes", d.Tamper(i, api.BkWritten, short(n)), api.ErrArg)
			}
			for _, n := range []int{1, 127, 128, 129} {
				must(t, "Tamper of blank with bytes", d.Tamper(i, api.BkBlank, short(n)), api.ErrArg)
				must(t, "Tamper of gone with bytes", d.Tamper(i, api.BkGone, short(n)), api.ErrArg)
			}
		}
		mustLookLike(t, "behind Tampers that were refused", d, want)
	}
}

func TestTamperAtTheEnds(t *testing.T) {
	d := mustNew(t, 512)
	must(t, "Tamper of the first", d.Tamper(0, api.BkWritten, text(1)), api.OK)
	must(t, "Tamper of the last", d.Tamper(511, api.BkWritten, text(2)), api.OK)
	must(t, "Tamper behind the last", d.Tamper(512, api.BkWritten, text(2)), api.ErrArg)
	mustRead(t, d, 0, text(1), api.OK)
	mustRead(t, d, 511, text(2), api.OK)
}

func TestTamperEndsWhatIsUnderWay(t *testing.T) {
	bytes := map[int]string{api.BkBlank: "", api.BkWritten: text(8), api.BkGone: ""}
	for state, s := range bytes {
		d := mustNew(t, 4)
		doAll(t, d.Write(0, text(0)), d.Write(1, text(1)), d.Write(2, text(2)), d.Erase(1), d.Erase(0))
		mustPend(t, d, 5)
		doAll(t, d.Tamper(1, state, s))
		mustPend(t, d, 3)
		mustStates(t, d, api.BkGone, state, api.BkWritten, api.BkBlank)
		// The others go up: 4 is the write of 0, 2 that of 2, 0 the erasure of 0.
		doAll(t, d.Crash([]int{4, 2, 0, 15, 15}), d.Start())
		mustStates(t, d, api.BkWritten, state, api.BkWritten, api.BkBlank)
		mustRead(t, d, 0, withSectors(text(0), 2), api.OK)
		mustRead(t, d, 2, withSectors(text(2), 1), api.OK)
	}
}

func TestTamperThenFlush(t *testing.T) {
	d := mixed(t)
	doAll(t, d.Erase(1), d.Write(0, text(4)), d.Tamper(1, api.BkWritten, text(5)), d.Tamper(0, api.BkBlank, ""))
	mustPend(t, d, 0)
	doAll(t, d.Flush(), d.Crash(nil), d.Start())
	mustRead(t, d, 1, text(5), api.OK)
	mustRead(t, d, 0, "", api.ErrBlank)
	// What was made blank can be written, and what was gone, too.
	doAll(t, d.Write(0, text(6)), d.Tamper(2, api.BkBlank, ""), d.Write(2, text(7)))
	mustPend(t, d, 2)
	mustRead(t, d, 0, text(6), api.OK)
	mustRead(t, d, 2, text(7), api.OK)
}

func TestTamperThenActs(t *testing.T) {
	// What is done behind it on the same block is under way as ever.
	d := mustNew(t, 4)
	doAll(t, d.Write(0, text(0)), d.Tamper(0, api.BkWritten, text(1)), d.Erase(0))
	mustPend(t, d, 1)
	doAll(t, d.Crash([]int{2}), d.Start())
	mustRead(t, d, 0, text(1), api.OK)
}

func TestTamperIsNoAct(t *testing.T) {
	d := mustNew(t, 4)
	doAll(t, d.Fail(1, []int{15, 15}))
	for range 3 {
		doAll(t, d.Tamper(3, api.BkWritten, text(3)), d.Tamper(3, api.BkGone, ""))
	}
	doAll(t, d.Write(0, text(0)))
	// That the act is none any more gives the Fail no act more.
	doAll(t, d.Tamper(0, api.BkBlank, ""))
	must(t, "the act that fails", d.Write(1, text(1)), api.ErrDown)
	mustStates(t, d, api.BkBlank, api.BkWritten, api.BkBlank, api.BkGone)
}

func TestClone(t *testing.T) {
	d := mixed(t)
	doAll(t, d.Crash(nil), d.Start(), d.Write(0, text(4)), d.Erase(1), d.Fail(0, []int{15, 15}))
	want := lookAt(d)
	c := d.Clone()
	mustStates(t, c, api.BkBlank, api.BkWritten, api.BkGone, api.BkWritten)
	mustRead(t, c, 1, text(1), api.OK)
	mustRead(t, c, 3, text(3), api.OK)
	mustPend(t, c, 0)
	mustBeUp(t, c, true)
	if c.Len() != 4 || c.Starts() != 0 {
		t.Errorf("a clone: Len %d, Starts %d", c.Len(), c.Starts())
	}
	// No Fail is set of the clone, and it is none of the other's.
	doAll(t, c.Write(0, text(5)), c.Flush(), c.Erase(3), c.Tamper(1, api.BkBlank, ""), c.Crash([]int{1}), c.Start())
	mustStates(t, c, api.BkWritten, api.BkBlank, api.BkGone, api.BkGone)
	mustLookLike(t, "behind what was done to its clone", d, want)

	want = lookAt(c)
	must(t, "the act that fails", d.Erase(3), api.ErrDown)
	doAll(t, d.Tamper(0, api.BkGone, ""), d.Tamper(2, api.BkWritten, text(6)), d.Start())
	mustLookLike(t, "behind what was done to that of which it is a clone", c, want)
}

func TestCloneOfWhatIsNotRunning(t *testing.T) {
	d := mixed(t)
	doAll(t, d.Write(0, text(4)), d.Crash([]int{6}))
	c := d.Clone()
	mustBeUp(t, d, false)
	mustBeUp(t, c, true)
	mustStates(t, c, d.States()...)
	mustRead(t, c, 0, withSectors(text(4), 1, 2), api.OK)
	must(t, "Start of a clone", c.Start(), api.ErrArg)
	if got := c.Clone(); !reflect.DeepEqual(lookAt(got), lookAt(c)) {
		t.Errorf("a clone's clone: %+v", lookAt(got))
	}
}

func TestCloneOfTheSmallestAndTheGreatest(t *testing.T) {
	for _, n := range []int{4, 512} {
		d := mustNew(t, n)
		doAll(t, d.Write(n-1, text(1)), d.Flush())
		c := d.Clone()
		if c.Len() != n {
			t.Errorf("a clone of %d blocks has %d", n, c.Len())
		}
		mustRead(t, c, n-1, text(1), api.OK)
	}
}
