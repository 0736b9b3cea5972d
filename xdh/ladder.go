package xdh

import (
	"iter"

	"pendulum/api"
	"pendulum/mod"
	"pendulum/num"
)

// quarter is a fourth of 486662 less 2, by which a doubled point is made.
const quarter = 121665

// topBit is the highest bit of a scalar.
const topBit = 254

// fraction is a coordinate as what stands above its line and what stands below: it is divided but once, at the end.
type fraction [2]api.Num

// ladder is the coordinate of a scalar's multiple of a point.
func ladder(k, u api.Num) api.Num {
	both := [2]fraction{{{1}, {}}, {u, {1}}}
	for bit := range bits(k) {
		both = exchanged(step(exchanged(both, bit), u), bit)
	}
	return both[0].value()
}

// bits hands out a scalar's bits, the highest first.
func bits(k api.Num) iter.Seq[uint64] {
	return func(yield func(uint64) bool) {
		for at := range topBit + 1 {
			if !yield(num.Bit(k, topBit-at)) {
				return
			}
		}
	}
}

// exchanged are both fractions, the other way round if bit is 1.
func exchanged(both [2]fraction, bit uint64) [2]fraction {
	return [2]fraction{both[bit], both[1-bit]}
}

// step doubles the first one's point, and adds the second one's to it; u is the coordinate of what they differ by.
func step(both [2]fraction, u api.Num) [2]fraction {
	sum, less := both[0].sumAndLess()
	otherSum, otherLess := both[1].sumAndLess()
	return [2]fraction{
		doubled(sum, less),
		added(mul(otherLess, sum), mul(otherSum, less), u),
	}
}

// doubled is a point twice, of what its fraction's sum and difference are.
func doubled(sum, less api.Num) fraction {
	sum, less = square(sum), square(less)
	rest := sub(sum, less)
	return fraction{mul(sum, less), mul(rest, add(sum, mul(api.Num{quarter}, rest)))}
}

// added is the sum of two points, of the products of one's difference and the other's sum.
func added(across, back, u api.Num) fraction {
	return fraction{square(add(across, back)), mul(u, square(sub(across, back)))}
}

// sumAndLess are a fraction's upper part and its lower one together, and the upper one less the lower one.
func (f fraction) sumAndLess() (api.Num, api.Num) {
	return add(f[0], f[1]), sub(f[0], f[1])
}

// value is a fraction as a number; 0 if there is a 0 below the line, as that has the power 0.
func (f fraction) value() api.Num {
	exponent, _ := num.Sub(mod.P25519(), api.Num{2})
	return mul(f[0], mod.Pow(f[1], exponent, mod.P25519()))
}
