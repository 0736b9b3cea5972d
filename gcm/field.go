package gcm

import "pendulum/api"

const (
	blockSize = 16 // bytes
	wordBits  = 64
)

// block is 16 bytes as an element of the field: the highest bit of high stands for 1, the lowest of low for x^127.
type block struct {
	high, low uint64
}

// Times is a product of two blocks in the field of 2^128.
func Times(a, b string) (string, api.Errno) {
	if len(a) != blockSize || len(b) != blockSize {
		return "", api.ErrForm
	}
	return blockOf(a).times(blockOf(b)).text(), api.OK
}

// blockOf is the block that a text's first 16 bytes are, with bytes 0 behind them where it has fewer.
func blockOf(s string) block {
	var all [blockSize]byte
	copy(all[:], s)
	var out block
	for i := range blockSize / 2 {
		out.high = out.high<<8 | uint64(all[i])
		out.low = out.low<<8 | uint64(all[blockSize/2+i])
	}
	return out
}

// text is a block's 16 bytes.
func (b block) text() string {
	out := make([]byte, 0, blockSize)
	for _, w := range b.words() {
		for at := wordBits - 8; at >= 0; at -= 8 {
			out = append(out, byte(w>>at))
		}
	}
	return string(out)
}

func (b block) words() [2]uint64 {
	return [2]uint64{b.high, b.low}
}

// is says whether two blocks are one. How long it takes does not tell how much of a wrong tag is right.
func (b block) is(other block) bool {
	unlike := b.plus(other)
	return unlike.high|unlike.low == 0
}

// plus is the sum of two blocks.
func (b block) plus(other block) block {
	return block{b.high ^ other.high, b.low ^ other.low}
}

// times is the product of two blocks: the other one times each power of x that is in the first. What is not in it is masked rather than left out, so that how long it takes tells nothing of either.
func (b block) times(other block) block {
	var sum block
	for _, w := range b.words() {
		for k := range wordBits {
			sum = sum.plus(other.masked(w >> (wordBits - 1 - k) & 1))
			other = other.timesX()
		}
	}
	return sum
}

// masked is a block, if bit is 1, and 0, if it is 0.
func (b block) masked(bit uint64) block {
	return block{b.high & -bit, b.low & -bit}
}

// timesX is a block times x: what would be x^128 is the rest of the polynomial that all is taken modulo.
func (b block) timesX() block {
	rest := block{high: 0xe1 << 56} // 1 + x + x^2 + x^7
	shifted := block{b.high >> 1, b.high<<(wordBits-1) | b.low>>1}
	return shifted.plus(rest.masked(b.low & 1))
}
