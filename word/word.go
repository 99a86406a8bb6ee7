// Package word: numbers and places in 32 bits.
package word

import "colloquy/api"

// What a word has room for; a number's word is twice it and 1, a place's twice it.
const (
	lowest   = -1 << 30
	highest  = 1<<30 - 1
	farthest = 1<<31 - 1
	mark     = 1 // the bit that only numbers have
)

// Int is a number as a word.
func Int(v int) uint32 {
	return uint32(max(lowest, min(v, highest)))<<1 | mark
}

// Ref is a place as a word.
func Ref(at int) uint32 {
	return uint32(max(0, min(at, farthest))) << 1
}

// IsInt tells whether a word is a number.
func IsInt(w uint32) bool { return w&mark != 0 }

// IntOf is the number that a word is.
func IntOf(w uint32) int {
	n, _ := parts(w)
	return n
}

// RefOf is the place that a word is.
func RefOf(w uint32) int {
	_, at := parts(w)
	return at
}

// parts is what a word is as a number, and as a place; 0 as the one it is not.
func parts(w uint32) (n, at int) {
	if !IsInt(w) {
		goto place
	}
	return int(int32(w) >> 1), 0 // the shift keeps the sign
place:
	return 0, int(w >> 1)
}

// Fits tells whether a number is within what there may be.
func Fits(v int) bool { return v >= -api.MaxInt && v < api.MaxInt }

// Add is a sum.
func Add(a, b int) (int, bool) {
	if !Fits(a) || !Fits(b) || !Fits(a+b) {
		return 0, false
	}
	return a + b, true
}
