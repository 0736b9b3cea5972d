package point

import (
	"pendulum/api"
	"pendulum/mod"
	"pendulum/num"
)

// none is the point that is added without any effect.
func none() api.Point {
	return api.Point{Inf: true}
}

// height is what y^2 has to be at x: x^3 - 3 x + b.
func height(x api.Num) api.Num {
	b := api.Num{0x3bce3c3e27d2604b, 0x651d06b0cc53b0f6, 0xb3ebbd55769886bc, 0x5ac635d8aa3a93e7}
	return add(mul(x, sub(square(x), api.Num{3})), b)
}

// isBelow tells whether a number is one of those modulo p, as it stands.
func isBelow(n api.Num) bool {
	return num.Cmp(n, mod.P256()) < 0
}

func add(a, b api.Num) api.Num {
	return mod.Add(a, b, mod.P256())
}

func sub(a, b api.Num) api.Num {
	return mod.Sub(a, b, mod.P256())
}

func mul(a, b api.Num) api.Num {
	return mod.Mul(a, b, mod.P256())
}

func square(a api.Num) api.Num {
	return mul(a, a)
}

func twice(a api.Num) api.Num {
	return add(a, a)
}

func thrice(a api.Num) api.Num {
	return add(twice(a), a)
}
