package sha

import (
	"iter"
	"math/bits"
)

// blockSize is how many bytes a block has.
const blockSize = 64

// beginning is what the first block is made into: the square roots of the first 8 primes, 32 bits behind the point.
var beginning = [8]uint32{
	0x6a09e667, 0xbb67ae85, 0x3c6ef372, 0xa54ff53a, 0x510e527f, 0x9b05688c, 0x1f83d9ab, 0x5be0cd19,
}

// constants is what the rounds add: the cube roots of the first 64 primes, 32 bits behind the point.
var constants = [64]uint32{
	0x428a2f98, 0x71374491, 0xb5c0fbcf, 0xe9b5dba5, 0x3956c25b, 0x59f111f1, 0x923f82a4, 0xab1c5ed5,
	0xd807aa98, 0x12835b01, 0x243185be, 0x550c7dc3, 0x72be5d74, 0x80deb1fe, 0x9bdc06a7, 0xc19bf174,
	0xe49b69c1, 0xefbe4786, 0x0fc19dc6, 0x240ca1cc, 0x2de92c6f, 0x4a7484aa, 0x5cb0a9dc, 0x76f988da,
	0x983e5152, 0xa831c66d, 0xb00327c8, 0xbf597fc7, 0xc6e00bf3, 0xd5a79147, 0x06ca6351, 0x14292967,
	0x27b70a85, 0x2e1b2138, 0x4d2c6dfc, 0x53380d13, 0x650a7354, 0x766a0abb, 0x81c2c92e, 0x92722c85,
	0xa2bfe8a1, 0xa81a664b, 0xc24b8b70, 0xc76c51a3, 0xd192e819, 0xd6990624, 0xf40e3585, 0x106aa070,
	0x19a4c116, 0x1e376c08, 0x2748774c, 0x34b0bcb5, 0x391c0cb3, 0x4ed8aa4a, 0x5b9cca4f, 0x682e6ff3,
	0x748f82ee, 0x78a5636f, 0x84c87814, 0x8cc70208, 0x90befffa, 0xa4506ceb, 0xbef9a3f7, 0xc67178f2,
}

// blocks hands out a text's whole blocks, and not what is left behind them.
func blocks(s string) iter.Seq[string] {
	return func(yield func(string) bool) {
		for ; len(s) >= blockSize; s = s[blockSize:] {
			if !yield(s[:blockSize]) {
				return
			}
		}
	}
}

// left is what is behind a text's whole blocks.
func left(s string) string {
	return s[len(s)-len(s)%blockSize:]
}

// made is what a text's whole blocks make of eight words, one block after the other.
func made(words [8]uint32, s string) [8]uint32 {
	for block := range blocks(s) {
		words = mixed(words, spread(block))
	}
	return words
}

// spread is a block's 16 words, and the 48 that are made of those ahead of them.
func spread(block string) [64]uint32 {
	var w [64]uint32
	for i := range 16 {
		w[i] = word(block[4*i : 4*i+4])
	}
	for i := 16; i < len(w); i++ {
		near, far := w[i-2], w[i-15]
		s1 := turned(near, 17) ^ turned(near, 19) ^ near>>10
		s0 := turned(far, 7) ^ turned(far, 18) ^ far>>3
		w[i] = s1 + w[i-7] + s0 + w[i-16]
	}
	return w
}

// mixed is what 64 rounds make of eight words, each added to what it was: else the rounds could be gone back.
func mixed(words [8]uint32, w [64]uint32) [8]uint32 {
	a, b, c, d := words[0], words[1], words[2], words[3]
	e, f, g, h := words[4], words[5], words[6], words[7]
	for i, k := range constants {
		t := h + (turned(e, 6) ^ turned(e, 11) ^ turned(e, 25)) + (e&f ^ ^e&g) + k + w[i]
		u := (turned(a, 2) ^ turned(a, 13) ^ turned(a, 22)) + (a&b ^ a&c ^ b&c)
		h, g, f, e, d, c, b, a = g, f, e, d+t, c, b, a, t+u
	}
	for i, now := range [8]uint32{a, b, c, d, e, f, g, h} {
		words[i] += now
	}
	return words
}

// turned is a word turned to the right: its lowest bits come in again at the top.
func turned(r uint32, n int) uint32 {
	return bits.RotateLeft32(r, -n)
}

// word is four bytes, the highest first.
func word(s string) uint32 {
	return uint32(s[0])<<24 | uint32(s[1])<<16 | uint32(s[2])<<8 | uint32(s[3])
}

// highFirst is words as bytes, four of each, the highest first.
func highFirst(words ...uint32) string {
	var out []byte
	for _, w := range words {
		out = append(out, byte(w>>24), byte(w>>16), byte(w>>8), byte(w))
	}
	return string(out)
}
