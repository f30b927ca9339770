package device

import "sealingwax/api"

// whole is the number of an act of which all is kept: each sector's bit is set,
// and it is odd.
const whole = 1<<(api.Block/api.Sector) - 1

// block is what a block is, and its bytes, if it is written.
type block struct {
	state int
	data  [api.Block]byte
}

// act is a write or an erasure.
type act interface {
	place() int
}

type write struct {
	at   int
	data [api.Block]byte
}

type erasure struct {
	at int
}

func (w write) place() int { return w.at }

func (e erasure) place() int { return e.at }

// kept is what a block comes to by an act of which a number tells what is kept.
func kept(was block, a act, number int) block {
	switch a := a.(type) {
	case write:
		if number&whole != 0 {
			return block{state: api.BkWritten, data: torn(a.data, number)}
		}
	case erasure:
		// By its bit, as a remainder would make odd numbers below 0 unlike 1.
		if number&1 == 1 {
			return block{state: api.BkGone}
		}
	}
	return was
}

// torn is bytes with those sectors alone whose bits are set in a number.
func torn(data [api.Block]byte, number int) [api.Block]byte {
	var out [api.Block]byte
	for i := range len(data) {
		if number>>(i/api.Sector)&1 == 1 {
			out[i] = data[i]
		}
	}
	return out
}

// written is a block with a text of so many bytes as it has.
func written(data string) block {
	b := block{state: api.BkWritten}
	copy(b.data[:], data)
	return b
}
