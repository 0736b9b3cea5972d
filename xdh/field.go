package xdh

import (
	"pendulum/api"
	"pendulum/mod"
	"pendulum/num"
)

// middle is what the curve's equation has ahead of x^2.
const middle = 486662

// coordinate is 32 bytes as a number modulo p.
func coordinate(u string) (api.Num, api.Errno) {
	n, e := num.FromLittle(u)
	if e != api.OK {
		return api.Num{}, e
	}
	n[3] &^= 1 << 63
	return mod.Rem(n, api.Num{}, mod.P25519()), api.OK
}

// height is what y^2 would have to be at x: x^3 + 486662 x^2 + x.
func height(x api.Num) api.Num {
	inner := add(mul(x, add(x, api.Num{middle})), api.Num{1})
	return mul(x, inner)
}

// isSquare tells whether a number is 0, or a square.
func isSquare(n api.Num) bool {
	// p is odd: half of it, rounded down, is half of p - 1.
	half, _, _, _ := num.Div(mod.P25519(), api.Num{}, api.Num{2})
	return n == api.Num{} || mod.Pow(n, half, mod.P25519()) == api.Num{1}
}

func add(a, b api.Num) api.Num {
	return mod.Add(a, b, mod.P25519())
}

func sub(a, b api.Num) api.Num {
	return mod.Sub(a, b, mod.P25519())
}

func mul(a, b api.Num) api.Num {
	return mod.Mul(a, b, mod.P25519())
}

func square(a api.Num) api.Num {
	return mul(a, a)
}
