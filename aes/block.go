package aes

import (
	"iter"
	"math/bits"
)

const (
	wordSize  = 4 // bytes
	columns   = 4
	blockSize = wordSize * columns
)

// block is four columns, the byte of row 0 highest in each.
type block [columns]uint32

// table is a byte for each byte.
type table [256]byte

// blockOf is the block that 16 bytes are.
func blockOf(s string) block {
	var out block
	for c := range out {
		out[c] = wordOf(s[wordSize*c:])
	}
	return out
}

// wordOf is a text's first four bytes as a word, the first one highest.
func wordOf(s string) uint32 {
	return uint32(s[0])<<24 | uint32(s[1])<<16 | uint32(s[2])<<8 | uint32(s[3])
}

// text is a block's 16 bytes.
func (b block) text() string {
	return string(b.appended(nil))
}

// appended is bytes with a block's behind them.
func (b block) appended(out []byte) []byte {
	for _, w := range b {
		out = append(out, byte(w>>24), byte(w>>16), byte(w>>8), byte(w))
	}
	return out
}

// plus is the sum of two blocks.
func (b block) plus(other block) block {
	for c, w := range other {
		b[c] ^= w
	}
	return b
}

// become is a block with each byte become what a table says.
func (b block) become(t *table) block {
	for c, w := range b {
		b[c] = t.of(w)
	}
	return b
}

// turned is a block with row r turned to the left by r: each column takes that row from the r-th one behind it.
func (b block) turned() block {
	const row0, row1, row2, row3 = 0xff << 24, 0xff << 16, 0xff << 8, 0xff
	var out block
	for c := range out {
		out[c] = b[c]&row0 | b[(c+1)%columns]&row1 | b[(c+2)%columns]&row2 | b[(c+3)%columns]&row3
	}
	return out
}

// mixed is a block with each column mixed. The byte i of it is 2 (ai + a(i+1)) + a(i+1) + a(i+2) + a(i+3), all four at once.
func (b block) mixed() block {
	for c, w := range b {
		next := bits.RotateLeft32(w, 8)
		b[c] = doubled(w^next) ^ next ^ bits.RotateLeft32(w, 16) ^ bits.RotateLeft32(w, 24)
	}
	return b
}

// unturned undoes turned: turned four times, each row is as it was.
func (b block) unturned() block {
	return b.turned().turned().turned()
}

// unmixed undoes mixed: mixed four times, each column is as it was.
func (b block) unmixed() block {
	return b.mixed().mixed().mixed()
}

// counted hands out a block, and those that follow it as numbers, without an end: behind the highest one stands 0.
func (b block) counted() iter.Seq[block] {
	return func(yield func(block) bool) {
		for at := b; yield(at); at = at.next() {
		}
	}
}

// next is a block and 1, modulo 2^128: a word that becomes 0 carries to the one ahead of it.
func (b block) next() block {
	for c := len(b) - 1; c >= 0; c-- {
		b[c]++
		if b[c] != 0 {
			break
		}
	}
	return b
}

// of is a word with each of its bytes become what a table says.
func (t *table) of(w uint32) uint32 {
	return uint32(t[w>>24])<<24 | uint32(t[w>>16&0xff])<<16 | uint32(t[w>>8&0xff])<<8 | uint32(t[w&0xff])
}

// undone is the table that leads back.
func (t *table) undone() table {
	var out table
	for from, to := range t {
		out[to] = byte(from)
	}
	return out
}
