package point

import (
	"pendulum/api"
	"pendulum/mod"
)

// scaled is a point whose X is still to be divided by z^2, and its Y by z^3: sums need no division so.
type scaled struct {
	api.Point
	z api.Num
}

// scale is a plain point as one with a third coordinate.
func scale(a api.Point) scaled {
	return scaled{a, api.Num{1}}
}

// plain is a point without its third coordinate: the divisions that were put off are done here, at once.
func (a scaled) plain() api.Point {
	if a.Inf {
		return none()
	}
	i, _ := mod.Inv(a.z, mod.P256())
	i2 := square(i)
	return api.Point{X: mul(a.X, i2), Y: mul(a.Y, mul(i, i2))}
}

// doubled is a point added to itself.
func (a scaled) doubled() scaled {
	if a.Inf {
		return a
	}
	z2, y2 := square(a.z), square(a.Y)
	// 3 X^2 - 3 z^4, the tangent's rise, is 3 (X - z^2) (X + z^2).
	rise := thrice(mul(sub(a.X, z2), add(a.X, z2)))
	side := twice(twice(mul(a.X, y2)))
	x := sub(square(rise), twice(side))
	y := sub(mul(rise, sub(side, x)), twice(square(twice(y2))))
	return scaled{api.Point{X: x, Y: y}, twice(mul(a.Y, a.z))}
}

// plus is the sum of a point and a plain one.
func (a scaled) plus(b api.Point) scaled {
	if b.Inf {
		return a
	}
	if a.Inf {
		return scale(b)
	}
	// b's coordinates as they would be beside a's z, less a's: the run and the rise from a to b.
	z2 := square(a.z)
	run := sub(mul(b.X, z2), a.X)
	rise := sub(mul(b.Y, mul(a.z, z2)), a.Y)
	if run != (api.Num{}) {
		return a.along(run, rise)
	}
	// Of one X there are but two points: the same one, and its Neg.
	if rise != (api.Num{}) {
		return scale(none())
	}
	return a.doubled()
}

// along is the sum of a point and of another one, which lies off by that run and that rise.
func (a scaled) along(run, rise api.Num) scaled {
	run2 := square(run)
	run3 := mul(run, run2)
	side := mul(a.X, run2)
	x := sub(sub(square(rise), run3), twice(side))
	y := sub(mul(rise, sub(side, x)), mul(a.Y, run3))
	return scaled{api.Point{X: x, Y: y}, mul(a.z, run)}
}
