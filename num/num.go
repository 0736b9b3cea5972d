// Package num is layer 1: see shared/doc/01-num.md.
package num

import (
	"cmp"
	"math/bits"

	"pendulum/api"
)

// wide is a number below 2^512, the lowest part first.
type wide [8]uint64

// halves are a wide number's low half and its high half.
func (w wide) halves() (api.Num, api.Num) {
	return api.Num{w[0], w[1], w[2], w[3]}, api.Num{w[4], w[5], w[6], w[7]}
}

// along makes a number part by part, from the lowest on; step keeps what one part carries for the next.
func along(a, b api.Num, step func(x, y uint64) uint64) api.Num {
	var out api.Num
	for k, x := range a {
		out[k] = step(x, b[k])
	}
	return out
}

// Cmp tells which of two is greater: -1, 0, 1.
func Cmp(a, b api.Num) int {
	sign := 0
	for k, x := range a {
		// A higher part outweighs all those below it.
		if c := cmp.Compare(x, b[k]); c != 0 {
			sign = c
		}
	}
	return sign
}

// Add is a sum, and what is carried.
func Add(a, b api.Num) (api.Num, uint64) {
	var carry uint64
	sum := along(a, b, func(x, y uint64) uint64 {
		var s uint64
		s, carry = bits.Add64(x, y, carry)
		return s
	})
	return sum, carry
}

// Sub is a difference, and what is borrowed.
func Sub(a, b api.Num) (api.Num, uint64) {
	var borrow uint64
	rest := along(a, b, func(x, y uint64) uint64 {
		var r uint64
		r, borrow = bits.Sub64(x, y, borrow)
		return r
	})
	return rest, borrow
}

// Mul is a product: its low half and its high half.
func Mul(a, b api.Num) (api.Num, api.Num) {
	var out wide
	var carry uint64
	step := func(x, y, sum uint64) uint64 {
		high, low := bits.Mul64(x, y)
		low, c := bits.Add64(low, sum, 0)
		low, d := bits.Add64(low, carry, 0)
		// (2^64-1)^2 and twice 2^64-1 are 2^128-1: the upper part can't overflow.
		carry = high + c + d
		return low
	}
	for i, x := range a {
		carry = 0
		for j, y := range b {
			out[i+j] = step(x, y, out[i+j])
		}
		out[i+len(b)] = carry
	}
	return out.halves()
}

// Bit is a number's bit.
func Bit(n api.Num, i int) uint64 {
	return window(n, i) & 1
}

// Len is how many bits a number has.
func Len(n api.Num) int {
	length := 0
	for k, x := range n {
		if x != 0 {
			length = 64*k + bits.Len64(x)
		}
	}
	return length
}

// window is a number's 64 bits from the given one on; those outside of it are 0.
func window(n api.Num, at int) uint64 {
	// Shifting and masking round down, below 0 too, where / and % would not.
	k, rest := at>>6, uint(at&63)
	return part(n, k)>>rest | part(n, k+1)<<(64-rest)
}

// part is a number's k-th part; those outside of it are 0.
func part(n api.Num, k int) uint64 {
	if k < 0 || k >= len(n) {
		return 0
	}
	return n[k]
}
