package aes

import "math/bits"

// Times is a product in the field of bytes.
func Times(a, b byte) byte {
	shifted, sum := uint32(a), uint32(0)
	for ; b > 0; b >>= 1 {
		if b&1 == 1 {
			sum ^= shifted
		}
		shifted = doubled(shifted)
	}
	return byte(sum)
}

// Sub is what a byte becomes.
func Sub(b byte) byte {
	return becoming()[b]
}

// doubled is each of a word's four bytes times x: what would be x^8 is the rest of the polynomial that all is taken modulo.
func doubled(w uint32) uint32 {
	const tops, rest = 0x80808080, 0x1b
	top := w & tops
	return (w^top)<<1 ^ top>>7*rest
}

// becoming is what each byte becomes. Every byte but 0 is a power of x + 1, and the inverse of the power i is the power 255 - i: all inverses together cost hardly more than one that is looked for by itself.
func becoming() table {
	const powers = 255
	var power [powers]byte
	for i, p := 0, byte(1); i < powers; i, p = i+1, Times(p, 3) {
		power[i] = p
	}
	out := table{0: spread(0)}
	for i, p := range power {
		out[p] = spread(power[(powers-i)%powers])
	}
	return out
}

// spread is a byte each of whose bits is made of five of another one's.
func spread(b byte) byte {
	const mask = 0x63
	return mask ^ b ^ bits.RotateLeft8(b, -4) ^ bits.RotateLeft8(b, -5) ^ bits.RotateLeft8(b, -6) ^ bits.RotateLeft8(b, -7)
}
