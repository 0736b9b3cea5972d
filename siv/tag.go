package siv

import (
	"iter"

	"pendulum/aes"
	"pendulum/api"
)

// tagger is a key, and the two blocks that tell a text's last block apart.
type tagger struct {
	key   string
	whole block // added to one of 16 bytes
	short block // added to one that was filled up
}

// taggerOf is the tagger of a key, or aes's error, if it is no key.
func taggerOf(key string) (tagger, api.Errno) {
	l, e := aes.Encrypt(key, block{}.text())
	if e != api.OK {
		return tagger{}, e
	}
	whole := blockOf(l).twice()
	return tagger{key: key, whole: whole, short: whole.twice()}, api.OK
}

// tag is a text's tag.
func (t tagger) tag(s string) block {
	var sum block
	for b := range t.blocksOf(s) {
		sum = t.encrypted(sum.plus(b))
	}
	return sum
}

// blocksOf hands out a text's blocks as they are tagged. Nobody without the key knows what is added to the last one, so no text's tag is a step on the way to a longer one's, and no text is taken for one that was filled up to it.
func (t tagger) blocksOf(s string) iter.Seq[block] {
	return func(yield func(block) bool) {
		rest := s
		for ; len(rest) > blockSize; rest = rest[blockSize:] {
			if !yield(blockOf(rest)) {
				return
			}
		}
		yield(t.last(rest))
	}
}

// last is a text's last block, of 16 bytes or fewer, as it is tagged.
func (t tagger) last(s string) block {
	if len(s) == blockSize {
		return blockOf(s).plus(t.whole)
	}
	return filled(s).plus(t.short)
}

// encrypted is a block turned by the key, which was found to be one when the tagger was made.
func (t tagger) encrypted(b block) block {
	out, _ := aes.Encrypt(t.key, b.text())
	return blockOf(out)
}

// row is the tag of texts that go along and a last one behind them. Each text's place counts, as what was told before it is doubled.
func (t tagger) row(last string, along ...string) block {
	sum := t.tag(block{}.text())
	for _, s := range along {
		sum = sum.twice().plus(t.tag(s))
	}
	if len(last) < blockSize {
		return t.tag(sum.twice().plus(filled(last)).text())
	}
	end := len(last) - blockSize
	return t.tag(last[:end] + blockOf(last[end:]).plus(sum).text())
}

// noRow is the tag of a row without any text, unlike that of a row of one without bytes.
func (t tagger) noRow() block {
	return t.tag(block{blockSize - 1: 1}.text())
}
