// Package wide: numbers of 128 bits: see doc/01-wide.md.
package wide

import (
	"math/bits"

	"heartwood/api"
)

const (
	wordBits = 64
	wideBits = 128
)

// Add returns the sum of a and b, or ErrLarge if it has more than 128 bits.
func Add(a, b api.Wide) (api.Wide, api.Errno) {
	lo, carry := bits.Add64(a.Lo, b.Lo, 0)
	hi, carry := bits.Add64(a.Hi, b.Hi, carry)
	if carry != 0 {
		return api.Wide{}, api.ErrLarge
	}
	return api.Wide{Hi: hi, Lo: lo}, api.OK
}

// Sub returns a - b, or ErrSign if it is negative.
func Sub(a, b api.Wide) (api.Wide, api.Errno) {
	lo, borrow := bits.Sub64(a.Lo, b.Lo, 0)
	hi, borrow := bits.Sub64(a.Hi, b.Hi, borrow)
	if borrow != 0 {
		return api.Wide{}, api.ErrSign
	}
	return api.Wide{Hi: hi, Lo: lo}, api.OK
}

// Cmp returns -1 if a < b, 0 if a == b, and 1 if a > b.
func Cmp(a, b api.Wide) int {
	if a.Hi != b.Hi {
		return cmpWord(a.Hi, b.Hi)
	}
	return cmpWord(a.Lo, b.Lo)
}

func cmpWord(a, b uint64) int {
	switch {
	case a < b:
		return -1
	case a > b:
		return 1
	}
	return 0
}

// Len returns the bit length of a, which is 0 for 0.
func Len(a api.Wide) int {
	if a.Hi != 0 {
		return wordBits + bits.Len64(a.Hi)
	}
	return bits.Len64(a.Lo)
}

// Shl returns a * 2^n, ErrArg if n is not from 0 to 127, or ErrLarge if the
// product has more than 128 bits.
func Shl(a api.Wide, n int) (api.Wide, api.Errno) {
	if !isShift(n) {
		return api.Wide{}, api.ErrArg
	}
	if Len(a)+n > wideBits {
		return api.Wide{}, api.ErrLarge
	}
	if n >= wordBits {
		return api.Wide{Hi: a.Lo << (n - wordBits)}, api.OK
	}
	// For n == 0 the word moves by its whole width, which in Go leaves 0.
	return api.Wide{Hi: a.Hi<<n | a.Lo>>(wordBits-n), Lo: a.Lo << n}, api.OK
}

// Shr returns a / 2^n, rounded down, or ErrArg if n is not from 0 to 127.
func Shr(a api.Wide, n int) (api.Wide, api.Errno) {
	if !isShift(n) {
		return api.Wide{}, api.ErrArg
	}
	if n >= wordBits {
		return api.Wide{Lo: a.Hi >> (n - wordBits)}, api.OK
	}
	// For n == 0 the word moves by its whole width, which in Go leaves 0.
	return api.Wide{Hi: a.Hi >> n, Lo: a.Lo>>n | a.Hi<<(wordBits-n)}, api.OK
}

func isShift(n int) bool {
	return n >= 0 && n < wideBits
}
