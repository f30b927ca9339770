package device_test

import (
	"reflect"
	"slices"
	"testing"

	"sealingwax/api"
	"sealingwax/device"
)

// A plain device is one in the chapter's own words, without regard to how long
// it takes: what a block is told to be is worked out from what is sure and all
// acts each time that it is asked for.
type plain struct {
	sure    []plainBlock
	acts    []plainAct
	up      bool
	starts  int
	failing bool
	left    int
	keep    []int
}

type plainBlock struct {
	state int
	data  string
}

type plainAct struct {
	at      int
	erasure bool
	data    string
}

func newPlain(blocks int) *plain { return &plain{sure: make([]plainBlock, blocks), up: true} }

func (p *plain) has(i int) bool { return 0 <= i && i < len(p.sure) }

func (p *plain) told(i int) plainBlock {
	b := p.sure[i]
	for _, a := range p.acts {
		switch {
		case a.at != i:
		case a.erasure:
			b = plainBlock{api.BkGone, ""}
		default:
			b = plainBlock{api.BkWritten, a.data}
		}
	}
	return b
}

func (p *plain) write(i int, data string) api.Errno {
	switch {
	case !p.up:
		return api.ErrDown
	case !p.has(i) || len(data) != 128:
		return api.ErrArg
	case p.told(i).state == api.BkWritten:
		return api.ErrWritten
	case p.told(i).state == api.BkGone:
		return api.ErrGone
	}
	return p.act(plainAct{at: i, data: data})
}

func (p *plain) erase(i int) api.Errno {
	switch {
	case !p.up:
		return api.ErrDown
	case !p.has(i):
		return api.ErrArg
	case p.told(i).state == api.BkBlank:
		return api.ErrBlank
	case p.told(i).state == api.BkGone:
		return api.OK
	}
	return p.act(plainAct{at: i, erasure: true})
}

func (p *plain) act(a plainAct) api.Errno {
	p.acts = append(p.acts, a)
	if p.failing && p.left == 0 {
		p.crash(p.keep)
		return api.ErrDown
	}
	p.left--
	return api.OK
}

func (p *plain) flush() api.Errno {
	if !p.up {
		return api.ErrDown
	}
	if p.failing && p.left == 0 {
		p.crash(p.keep)
		return api.ErrDown
	}
	p.left--
	var sure []plainBlock
	for i := range p.sure {
		sure = append(sure, p.told(i))
	}
	p.sure, p.acts = sure, nil
	return api.OK
}

func (p *plain) crash(keep []int) api.Errno {
	if !p.up {
		return api.ErrDown
	}
	for n, a := range p.acts {
		number := 0
		if n < len(keep) {
			number = keep[n]
		}
		if a.erasure {
			if isOdd(number) {
				p.sure[a.at] = plainBlock{api.BkGone, ""}
			}
		} else if state, data, _ := keptOfWrite(a.data, number); state == api.BkWritten {
			p.sure[a.at] = plainBlock{state, data}
		}
	}
	p.acts, p.failing, p.up = nil, false, false
	return api.OK
}

func (p *plain) fail(n int, keep []int) api.Errno {
	if !p.up {
		return api.ErrDown
	}
	if n < 0 {
		return api.ErrArg
	}
	p.failing, p.left, p.keep = true, n, slices.Clone(keep)
	return api.OK
}

func (p *plain) start() api.Errno {
	if p.up {
		return api.ErrArg
	}
	p.up = true
	p.starts++
	return api.OK
}

func (p *plain) tamper(i, state int, data string) api.Errno {
	bytes := map[int]int{api.BkBlank: 0, api.BkWritten: 128, api.BkGone: 0}
	if n, there := bytes[state]; !p.has(i) || !there || len(data) != n {
		return api.ErrArg
	}
	p.sure[i] = plainBlock{state, data}
	var others []plainAct
	for _, a := range p.acts {
		if a.at != i {
			others = append(others, a)
		}
	}
	p.acts = others
	return api.OK
}

// look is what a device that is as the plain one must look like.
func (p *plain) look() look {
	l := look{length: len(p.sure), pending: len(p.acts), up: p.up, starts: p.starts}
	for i := range p.sure {
		b, s := p.told(i), p.sure[i]
		l.states, l.sureStates = append(l.states, b.state), append(l.sureStates, s.state)
		l.sureTexts, l.sureErrnos = append(l.sureTexts, s.data), append(l.sureErrnos, readErrno(s.state))
		if p.up {
			l.texts, l.errnos = append(l.texts, b.data), append(l.errnos, readErrno(b.state))
		} else {
			l.texts, l.errnos = append(l.texts, ""), append(l.errnos, api.ErrDown)
		}
	}
	return l
}

func readErrno(state int) api.Errno {
	return map[int]api.Errno{api.BkBlank: api.ErrBlank, api.BkWritten: api.OK, api.BkGone: api.ErrGone}[state]
}

// dice are numbers without an order that is easily seen; always the same ones
// from one seed.
type dice uint32

func (x *dice) below(n int) int {
	*x ^= *x << 13
	*x ^= *x >> 17
	*x ^= *x << 5
	return int(uint32(*x)>>4) % n
}

// list is some numbers for a crash to keep.
func (x *dice) list() []int {
	var out []int
	for range x.below(8) {
		out = append(out, x.below(40)-12)
	}
	return out
}

// kinds of calls in a script.
const (
	doWrite = iota
	doErase
	doFlush
	doCrash
	doFail
	doStart
	doTamper
)

// one is a call of a script, the same to both devices.
type one struct {
	kind, block, n int
	data           string
	keep           []int
}

// call throws one: mostly acts, on few blocks, sometimes on one that is none.
func (x *dice) call(blocks int) one {
	kind := []int{doWrite, doWrite, doWrite, doWrite, doErase, doErase, doErase, doFlush, doCrash, doFail, doStart, doStart, doTamper}[x.below(13)]
	c := one{kind: kind, block: x.below(blocks+2) - 1, keep: x.list(), data: text(x.below(200))}
	if x.below(20) == 0 {
		c.data = c.data[:x.below(128)]
	}
	switch kind {
	case doFail:
		c.n = x.below(8) - 1
	case doTamper:
		c.n = x.below(5) - 1
		if c.n != api.BkWritten && x.below(10) > 0 {
			c.data = ""
		}
	}
	return c
}

func (c one) on(d *device.Device) api.Errno {
	switch c.kind {
	case doWrite:
		return d.Write(c.block, c.data)
	case doErase:
		return d.Erase(c.block)
	case doFlush:
		return d.Flush()
	case doCrash:
		return d.Crash(c.keep)
	case doFail:
		return d.Fail(c.n, c.keep)
	case doStart:
		return d.Start()
	}
	return d.Tamper(c.block, c.n, c.data)
}

func (c one) onPlain(p *plain) api.Errno {
	switch c.kind {
	case doWrite:
		return p.write(c.block, c.data)
	case doErase:
		return p.erase(c.block)
	case doFlush:
		return p.flush()
	case doCrash:
		return p.crash(c.keep)
	case doFail:
		return p.fail(c.n, c.keep)
	case doStart:
		return p.start()
	}
	return p.tamper(c.block, c.n, c.data)
}

// P4.1 to P4.5

func TestScriptsAgainstThePlainDevice(t *testing.T) {
	for seed := range 400 {
		x := dice(seed*2654435 + 1)
		blocks := 4 + x.below(4)
		d, p := mustNew(t, blocks), newPlain(blocks)
		for step := range 120 {
			c := x.call(blocks)
			got, want := c.on(d), c.onPlain(p)
			if got != want {
				t.Fatalf("seed %d, step %d, %+v: %d, want %d", seed, step, c, got, want)
			}
			if l := lookAt(d); !reflect.DeepEqual(l, p.look()) {
				t.Fatalf("seed %d, step %d, %+v: %+v, want %+v", seed, step, c, l, p.look())
			}
		}
	}
}

// P4.6

// watch sees to what is promised of a device that is not tampered with.
type watch struct {
	d      *device.Device
	toldOf []plainBlock // ahead of the call
	sureOf []plainBlock // ahead of the call
	meant  []string     // what was to be written last, by block
}

func blocksOf(d *device.Device) []plainBlock {
	out := make([]plainBlock, d.Len())
	for i := range out {
		s, _ := d.Read(i)
		out[i] = plainBlock{d.State(i), s}
	}
	return out
}

// call makes a call and looks at what it did.
func (w *watch) call(t *testing.T, c one) {
	t.Helper()
	wasUp := w.d.Up()
	w.sureOf = blocksOf(w.d.Clone())
	if wasUp {
		w.toldOf = blocksOf(w.d)
	} else {
		w.toldOf = w.sureOf
	}
	e := c.on(w.d)
	done := e == api.OK || wasUp && !w.d.Up()
	if done && c.kind == doWrite {
		w.meant[c.block], w.toldOf[c.block] = c.data, plainBlock{api.BkWritten, c.data}
	}
	if done && c.kind == doErase {
		w.toldOf[c.block] = plainBlock{api.BkGone, ""}
	}
	for i, is := range blocksOf(w.d.Clone()) {
		if c.kind != doFlush && w.d.Up() && is != w.sureOf[i] {
			t.Fatalf("%+v: block %d is surely %v, was %v, and there was no flush", c, i, is, w.sureOf[i])
		}
		w.mustStay(t, c, i, is)
		if wasUp && !w.d.Up() {
			w.mustBeOneOfThese(t, c, i, is)
		}
	}
}

// mustStay: what was gone is gone; what was written has its bytes, or is gone.
func (w *watch) mustStay(t *testing.T, c one, i int, is plainBlock) {
	t.Helper()
	was := w.sureOf[i]
	if was.state == api.BkGone && is.state != api.BkGone {
		t.Fatalf("%+v: block %d was gone, and is %d", c, i, is.state)
	}
	if was.state == api.BkWritten && is != was && is.state != api.BkGone {
		t.Fatalf("%+v: block %d was written, and is %v, was %v", c, i, is, was)
	}
	if was == w.toldOf[i] && is != was {
		t.Fatalf("%+v: block %d is %v, was surely %v, and nothing was to be done to it", c, i, is, was)
	}
}

// mustBeOneOfThese: behind a crash a block is what it surely was, or what it
// was to be, or is written and lacks some sectors.
func (w *watch) mustBeOneOfThese(t *testing.T, c one, i int, is plainBlock) {
	t.Helper()
	if is == w.sureOf[i] || is == w.toldOf[i] {
		return
	}
	if is.state != api.BkWritten || w.sureOf[i].state != api.BkBlank || len(is.data) != len(w.meant[i]) {
		t.Fatalf("%+v: block %d is %v, was %v, was to be %v", c, i, is, w.sureOf[i], w.toldOf[i])
	}
	there := 0
	for k := 0; k < 128; k += 32 {
		switch is.data[k : k+32] {
		case w.meant[i][k : k+32]:
			there++
		case string(make([]byte, 32)):
		default:
			t.Fatalf("%+v: block %d: the sector at %d is neither what was to be written nor none", c, i, k)
		}
	}
	if there == 0 {
		t.Fatalf("%+v: block %d is written and has no sector", c, i)
	}
}

func TestWhatIsSureStays(t *testing.T) {
	for seed := range 600 {
		x := dice(seed*40503 + 7)
		blocks := 4 + x.below(4)
		w := watch{d: mustNew(t, blocks), meant: make([]string, blocks)}
		for range 80 {
			if c := x.call(blocks); c.kind != doTamper {
				w.call(t, c)
			}
		}
	}
}

func TestWhatIsSureStaysWhateverIsKept(t *testing.T) {
	for _, number := range numbers() {
		d := mixed(t)
		keep := []int{number, number, number}
		doAll(t, d.Erase(3), d.Crash(keep), d.Start(), d.Crash(keep), d.Start())
		doAll(t, d.Fail(0, keep))
		must(t, "the Flush that fails", d.Flush(), api.ErrDown)
		doAll(t, d.Start())
		mustRead(t, d, 0, "", api.ErrBlank)
		mustRead(t, d, 1, text(1), api.OK)
		mustRead(t, d, 2, "", api.ErrGone)
	}
}
