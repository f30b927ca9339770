// Package words is layer 1: numbers, short texts and hashes as bytes, and out of bytes.
package words

import (
	"strings"

	"sealingwax/api"
)

// textSize is the size of the number that says how many bytes a text has.
const textSize = 2

// maxText is the greatest number of that size.
const maxText = 65535

// sizes are those in which a number may be written.
var sizes = [4]int{1, 2, 4, 8}

// Put is a number's bytes, the most significant one first; nothing, if it may not be written so.
func Put(n, size int) string {
	if !isSize(size) || !fits(n, size) {
		return ""
	}
	b := make([]byte, size)
	for i := range size {
		b[size-1-i] = byte(n >> (8 * i))
	}
	return string(b)
}

// Get is the number of that size that stands at a place, and the place behind it.
func Get(s string, at, size int) (n, next int, ok bool) {
	if !isSize(size) || !stands(s, at, size) {
		return 0, 0, false
	}
	// An int has no room for a number of 8 bytes that begins so.
	if size == 8 && s[at] >= 128 {
		return 0, 0, false
	}
	for i := range size {
		n = n<<8 | int(s[at+i])
	}
	return n, at + size, true
}

// PutText is how many bytes a text has, and these.
func PutText(t string) (string, api.Errno) {
	if len(t) > maxText {
		return "", api.ErrLong
	}
	return Put(len(t), textSize) + t, api.OK
}

// GetText is the text that stands at a place, and the place behind it.
func GetText(s string, at int) (t string, next int, ok bool) {
	n, from, ok := Get(s, at, textSize)
	if !ok || !stands(s, from, n) {
		return "", 0, false
	}
	next = from + n
	return strings.Clone(s[from:next]), next, true
}

// PutHash is a hash's bytes.
func PutHash(h api.Hash) string { return string(h[:]) }

// GetHash is the hash that stands at a place, and the place behind it.
func GetHash(s string, at int) (h api.Hash, next int, ok bool) {
	if !stands(s, at, len(h)) {
		return api.Hash{}, 0, false
	}
	for i := range len(h) {
		h[i] = s[at+i]
	}
	return h, at + len(h), true
}

func isSize(size int) bool {
	for _, x := range sizes {
		if x == size {
			return true
		}
	}
	return false
}

// fits tells whether a number may be written in a size that there is. A shift
// by all its bits leaves 0 of one that may, and -1 or less of a negative one.
func fits(n, size int) bool { return n>>(8*size) == 0 }

// stands tells whether so many bytes are there from a place on. What is left
// is held against count, as at + count might wrap round.
func stands(s string, at, count int) bool { return at >= 0 && count <= len(s)-at }
