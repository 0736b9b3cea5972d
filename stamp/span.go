package stamp

// through hands out how far each stamp is ahead of the one told behind it, two by two.
func through(take func(int64), stamps ...uint64) {
	for ; len(stamps) > 1; stamps = stamps[2:] {
		take(Diff(stamps[0], stamps[1]))
	}
}

// halfSum is half of the sum of spans, downwards. What halving leaves over is summed on its own, as the whole sum may need more than 64 bits.
func halfSum(stamps ...uint64) int64 {
	var halves, left int64
	through(func(d int64) {
		halves += d >> 1
		left += d & 1
	}, stamps...)
	return halves + left>>1
}

// total is the sum of spans, modulo 2^64.
func total(stamps ...uint64) int64 {
	var sum int64
	through(func(d int64) { sum += d }, stamps...)
	return sum
}
