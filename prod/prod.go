// Package prod: products and quotients: see doc/02-prod.md.
package prod

import (
	"math/bits"

	"heartwood/api"
	"heartwood/wide"
)

// Mul returns the full product of a and b.
func Mul(a, b uint64) api.Wide {
	hi, lo := bits.Mul64(a, b)
	return api.Wide{Hi: hi, Lo: lo}
}

// Times returns the product of a and b, or ErrLarge if it has more than 128
// bits.
func Times(a, b api.Wide) (api.Wide, api.Errno) {
	if a.Hi != 0 && b.Hi != 0 {
		return api.Wide{}, api.ErrLarge
	}
	// At least one of these is 0, so that their sum can't overflow.
	left, right := Mul(a.Hi, b.Lo), Mul(a.Lo, b.Hi)
	if left.Hi != 0 || right.Hi != 0 {
		return api.Wide{}, api.ErrLarge
	}
	return wide.Add(Mul(a.Lo, b.Lo), api.Wide{Hi: left.Lo + right.Lo})
}

// Div returns the quotient of a and b, rounded down, and the remainder, or
// ErrZero if b is 0.
func Div(a, b api.Wide) (api.Wide, api.Wide, api.Errno) {
	if b == (api.Wide{}) {
		return api.Wide{}, api.Wide{}, api.ErrZero
	}
	if b.Hi == 0 {
		quotient, rest := divByWord(a, b.Lo)
		return quotient, api.Wide{Lo: rest}, api.OK
	}
	quotient, rest := divByWide(a, b)
	return api.Wide{Lo: quotient}, rest, api.OK
}

// divByWord divides word by word, as on paper. b is not 0, and the first rest
// is less than b, so that bits.Div64 can't panic.
func divByWord(a api.Wide, b uint64) (api.Wide, uint64) {
	hi, rest := a.Hi/b, a.Hi%b
	lo, rest := bits.Div64(rest, a.Lo, b)
	return api.Wide{Hi: hi, Lo: lo}, rest
}

// divByWide divides by a b of more than 64 bits: the quotient is one word.
func divByWide(a, b api.Wide) (uint64, api.Wide) {
	quotient := lowGuess(a, b)
	// The guess is at most the quotient, so that neither the product nor the
	// difference leaves the range.
	part, _ := Times(b, api.Wide{Lo: quotient})
	rest, _ := wide.Sub(a, part)
	if wide.Cmp(rest, b) >= 0 {
		quotient++
		rest, _ = wide.Sub(rest, b)
	}
	return quotient, rest
}

// lowGuess returns the quotient of a and b, or 1 less, for a b of more than 64
// bits. It divides by the leading 64 bits of b alone: that makes the result
// the quotient or 1 more, and subtracting 1 makes it never too great. Half of
// a is divided, since its high word is always less than a word whose top bit
// is set, as bits.Div64 requires.
func lowGuess(a, b api.Wide) uint64 {
	zeros := bits.LeadingZeros64(b.Hi)
	leading, _ := wide.Shl(b, zeros)
	half, _ := wide.Shr(a, 1)
	guess, _ := bits.Div64(half.Hi, half.Lo, leading.Hi)
	guess >>= 63 - zeros
	if guess > 0 {
		guess--
	}
	return guess
}
