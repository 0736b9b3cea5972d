package num

import (
	"math"
	"math/bits"

	"pendulum/api"
)

// Div is a quotient of a number of two halves, its halves, and what is left.
func Div(lo, hi, m api.Num) (api.Num, api.Num, api.Num, api.Errno) {
	if m == (api.Num{}) {
		return api.Num{}, api.Num{}, api.Num{}, api.ErrNumber
	}
	// The quotient stays the same if both are shifted; a divisor with its top bit set makes good guesses.
	s := 256 - Len(m)
	d, _ := raised(m, s).halves()
	below := raised(lo, s)
	middle, rest := raised(hi, s).halves()
	for k, x := range middle {
		below[k+len(middle)] |= x
	}
	var q wide
	for k := range below {
		at := len(below) - 1 - k
		q[at], rest = digit(rest, below[at], d)
	}
	quotLo, quotHi := q.halves()
	return quotLo, quotHi, lowered(rest, s), api.OK
}

// digit divides the five parts of rest and, below it, x by d: one part of a quotient, and what is left.
// It wants a d with its top bit set, and a rest below d, for then the quotient has but one part.
func digit(rest api.Num, x uint64, d api.Num) (uint64, api.Num) {
	// A guess is too great by 2 at most, never too small.
	q := guess(rest, d)
	if q == 0 {
		return 0, api.Num{x, rest[0], rest[1], rest[2]}
	}
	left, owed := without(rest, x, q, d)
	for owed != 0 {
		var c uint64
		left, c = Add(left, d)
		owed -= c
		q--
	}
	return q, left
}

// guess is a part of a quotient by the topmost parts alone.
func guess(rest, d api.Num) uint64 {
	if rest[3] >= d[3] {
		return math.MaxUint64
	}
	q, _ := bits.Div64(rest[3], rest[2], d[3])
	return q
}

// without is what is left of rest and x when q times d is taken off, modulo 2^256, and how many times 2^256 are owed.
func without(rest api.Num, x, q uint64, d api.Num) (api.Num, uint64) {
	var carry uint64
	left := along(api.Num{x, rest[0], rest[1], rest[2]}, d, func(x, y uint64) uint64 {
		high, low := bits.Mul64(q, y)
		low, c := bits.Add64(low, carry, 0)
		r, b := bits.Sub64(x, low, 0)
		// A greatest upper part comes with a lower part 0, which borrows nothing: this can't overflow.
		carry = high + c + b
		return r
	})
	return left, carry - rest[3]
}

// raised is n times 2^s, of an s from 0 to 255.
func raised(n api.Num, s int) wide {
	var out wide
	for k := range out {
		out[k] = window(n, 64*k-s)
	}
	return out
}

// lowered is n by 2^s, rounded down, of an s from 0 to 255.
func lowered(n api.Num, s int) api.Num {
	var out api.Num
	for k := range out {
		out[k] = window(n, 64*k+s)
	}
	return out
}
