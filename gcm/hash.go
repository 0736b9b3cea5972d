package gcm

import "iter"

// hashed is the hash of ad and s by a block.
func (b block) hashed(ad, s string) block {
	var sum block
	for next := range blocksOf(ad, s) {
		sum = sum.plus(next).times(b)
	}
	return sum
}

// blocksOf hands out what is hashed of ad and s: the blocks of each, and one that says how many bits both have, so that no byte can go from one to the other, or be taken for one of those that fill up a block.
func blocksOf(ad, s string) iter.Seq[block] {
	return func(yield func(block) bool) {
		for _, text := range [...]string{ad, s} {
			for at := 0; at < len(text); at += blockSize {
				if !yield(blockOf(text[at:])) {
					return
				}
			}
		}
		yield(block{8 * uint64(len(ad)), 8 * uint64(len(s))})
	}
}
