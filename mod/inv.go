package mod

import (
	"pendulum/api"
	"pendulum/num"
)

// share is a number of Euclid's row, and how many times a, but for the sign, it is modulo m.
type share struct {
	rest, times api.Num
}

// Inv is what a number times is 1; false: there is none.
func Inv(a, m api.Num) (api.Num, bool) {
	last, times := divisor(a, m)
	if last != (api.Num{1}) {
		return api.Num{}, false
	}
	return times, true
}

// divisor is the greatest divisor that a and m have in common, by Euclid's rounds, and how many times a it is modulo m.
func divisor(a, m api.Num) (api.Num, api.Num) {
	ahead, here := share{rest: m}, share{rest: below(a, m), times: api.Num{1}}
	less := false
rounds:
	for {
		switch here.rest {
		case api.Num{}:
			break rounds
		default:
			ahead, here = here, next(ahead, here)
			less = !less
		}
	}
	// The signs of the row's times change from each to the next, the second one's being plus.
	if less {
		return ahead.rest, ahead.times
	}
	return ahead.rest, Sub(api.Num{}, ahead.times, m)
}

// next is the share that follows two of them; its rest is less than the second's.
func next(ahead, here share) share {
	quotient, _, left, _ := num.Div(ahead.rest, api.Num{}, here.rest)
	// All times of a row are m at most, so the product's upper half is 0 and nothing is carried.
	product, _ := num.Mul(quotient, here.times)
	times, _ := num.Add(product, ahead.times)
	return share{rest: left, times: times}
}
