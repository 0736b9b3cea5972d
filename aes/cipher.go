package aes

import (
	"iter"
	"math/bits"
	"sync"
)

const (
	shortKey   = 16 // bytes
	longKey    = 32
	mostRounds = longKey/wordSize + 7 // round keys of a long key
)

// cipher is a key, and what is made of it once, when it is first needed.
type cipher struct {
	key   string
	once  sync.Once
	bytes table                        // what each byte becomes
	words [mostRounds * columns]uint32 // the round keys', one behind the other
	last  int                          // the last round key's place
}

func isKey(key string) bool {
	return len(key) == shortKey || len(key) == longKey
}

// made is the cipher with its round keys.
func (c *cipher) made() *cipher {
	c.once.Do(c.schedule)
	return c
}

// schedule makes the round keys' words: the key's own, then each of the one ahead of it and the one that is a whole key ahead.
func (c *cipher) schedule() {
	c.bytes = becoming()
	size := len(c.key) / wordSize
	c.last = size + 6
	power := byte(1)
	for i := range columns * (c.last + 1) {
		if i < size {
			c.words[i] = wordOf(c.key[wordSize*i:])
			continue
		}
		ahead := c.words[i-1]
		switch {
		case i%size == 0:
			ahead = c.bytes.of(bits.RotateLeft32(ahead, 8)) ^ uint32(power)<<24
			power = Times(power, 2)
		case size == 8 && i%8 == 4:
			ahead = c.bytes.of(ahead)
		}
		c.words[i] = c.words[i-size] ^ ahead
	}
}

func (c *cipher) roundKey(i int) block {
	return block(c.words[columns*i : columns*(i+1)])
}

// forward hands out the round keys with their places, in the order in which they encrypt.
func (c *cipher) forward() iter.Seq2[int, block] {
	return func(yield func(int, block) bool) {
		for i := range c.made().last + 1 {
			if !yield(i, c.roundKey(i)) {
				return
			}
		}
	}
}

// backward hands them out in the order in which they decrypt.
func (c *cipher) backward() iter.Seq2[int, block] {
	return func(yield func(int, block) bool) {
		for i := c.made().last; i >= 0; i-- {
			if !yield(i, c.roundKey(i)) {
				return
			}
		}
	}
}

// encrypted is a block turned by the key. In the last round no columns are mixed, as anybody could undo that.
func (c *cipher) encrypted(b block) block {
	for i, k := range c.forward() {
		switch i {
		case 0: // a round ahead of the first key would hide nothing
		case c.last:
			b = b.become(&c.bytes).turned()
		default:
			b = b.become(&c.bytes).turned().mixed()
		}
		b = b.plus(k)
	}
	return b
}

// decrypted is a block turned back: what encrypts is undone, the last of it first.
func (c *cipher) decrypted(b block) block {
	before := c.made().bytes.undone()
	for i, k := range c.backward() {
		b = b.plus(k)
		switch i {
		case 0:
		case c.last:
			b = b.unturned().become(&before)
		default:
			b = b.unmixed().unturned().become(&before)
		}
	}
	return b
}
