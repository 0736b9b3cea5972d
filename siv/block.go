package siv

import "pendulum/api"

const blockSize = 16 // bytes

// block is 16 bytes as an element of the field: the highest bit of the first one stands for x^127, the lowest of the last one for 1.
type block [blockSize]byte

// Twice is a block doubled in the field of 2^128.
func Twice(b string) (string, api.Errno) {
	if len(b) != blockSize {
		return "", api.ErrForm
	}
	return blockOf(b).twice().text(), api.OK
}

// blockOf is the block that a text's first 16 bytes are, with bytes 0 behind them where it has fewer.
func blockOf(s string) block {
	var out block
	copy(out[:], s)
	return out
}

// filled is the block that a text of fewer than 16 bytes is, with a bit behind it that says where it ends.
func filled(s string) block {
	out := blockOf(s)
	out[len(s)] = 0x80
	return out
}

// text is a block's 16 bytes.
func (b block) text() string {
	return string(b[:])
}

// plus is the sum of two blocks.
func (b block) plus(other block) block {
	for i, c := range other {
		b[i] ^= c
	}
	return b
}

// twice is a block doubled: what would be x^128 is the rest of the polynomial that all is taken modulo. It is multiplied by the bit rather than left out, so that how long it takes tells nothing of the block.
func (b block) twice() block {
	const rest = 0x87 // x^7 + x^2 + x + 1
	var out block
	for i, c := range b {
		out[i] = c << 1
		if i > 0 {
			out[i-1] |= c >> 7
		}
	}
	out[blockSize-1] ^= rest * (b[0] >> 7)
	return out
}

// is says whether two blocks are one. How long it takes does not tell how much of a wrong tag is right.
func (b block) is(other block) bool {
	var unlike byte
	for _, c := range b.plus(other) {
		unlike |= c
	}
	return unlike == 0
}
