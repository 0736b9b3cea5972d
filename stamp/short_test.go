package stamp_test

import (
	"math"
	"testing"

	"pendulum/stamp"
)

// the last span whose Short is not the greatest, and the first one of which it is.
const (
	lastBelow = 1<<48 - 2<<16
	longest   = math.MaxUint32 << 16
)

// P20.4: short spans, written out: 0 below 0, upwards above it, at most 2^32 - 1.
func TestShortSpans(t *testing.T) {
	for _, c := range []struct {
		d    int64
		want uint32
	}{
		{least, 0}, {least + 1, 0}, {-1 << 48, 0}, {-1 << 32, 0}, {-65537, 0}, {-65536, 0}, {-65535, 0}, {-2, 0}, {-1, 0}, {0, 0},
		{1, 1}, {2, 1}, {32768, 1}, {65534, 1}, {65535, 1}, {65536, 1}, {65537, 2}, {131071, 2}, {131072, 2}, {131073, 3},
		{1 << 32, 1 << 16}, {1<<32 + 1, 1<<16 + 1}, {1<<47 - 1, 1 << 31}, {1 << 47, 1 << 31}, {1<<47 + 1, 1<<31 + 1},
		{lastBelow - 1, math.MaxUint32 - 1}, {lastBelow, math.MaxUint32 - 1}, {lastBelow + 1, math.MaxUint32},
		{longest - 1, math.MaxUint32}, {longest, math.MaxUint32}, {longest + 1, math.MaxUint32}, {1<<48 - 1, math.MaxUint32},
		{1 << 48, math.MaxUint32}, {1<<48 + 1, math.MaxUint32}, {1<<48 + 65536, math.MaxUint32}, {1 << 49, math.MaxUint32}, {1 << 62, math.MaxUint32},
		{greatest - 65536, math.MaxUint32}, {greatest - 65535, math.MaxUint32}, {greatest - 65534, math.MaxUint32}, {greatest - 1, math.MaxUint32}, {greatest, math.MaxUint32},
	} {
		if got := holdShort(t, c.d); got != c.want {
			t.Errorf("Short(%d) = %d; want %d", c.d, got, c.want)
		}
	}
}

// P20.4: spans of short ones, written out.
func TestLongSpans(t *testing.T) {
	for _, c := range []struct {
		s    uint32
		want int64
	}{
		{0, 0}, {1, 65536}, {2, 131072}, {1 << 15, 1 << 31}, {1 << 16, 1 << 32}, {1<<31 - 1, 1<<47 - 1<<16}, {1 << 31, 1 << 47}, {math.MaxUint32 - 1, lastBelow}, {math.MaxUint32, longest},
	} {
		if got := holdLong(t, c.s); got != c.want {
			t.Errorf("Long(%d) = %d; want %d", c.s, got, c.want)
		}
	}
}

// holdBack holds what follows of a short span: Long of it is not below it, and less than 2^16 above, and such a one is as it was.
func holdBack(t testing.TB, d int64) {
	t.Helper()
	s := holdShort(t, d)
	back := holdLong(t, s)
	if s != math.MaxUint32 && d >= 0 && (back < d || back-d >= 65536) {
		t.Errorf("Long of Short(%d) is %d", d, back)
	}
	if again := holdShort(t, back); again != s {
		t.Errorf("Short of Long(%d) is %d", s, again)
	}
}

// P20.4, P20.7: spans at all edges, and all steps of a short one with what is beside them, there and back.
func TestShortBack(t *testing.T) {
	for _, d := range edges() {
		holdBack(t, d)
	}
	for _, d := range beside(lastBelow, longest, 1<<48, 65535, 65536) {
		holdBack(t, d)
	}
	for n := range int64(33) {
		for s := range int64(40) {
			for _, d := range beside((1<<n+s)<<16, (1<<n-s)<<16, (math.MaxUint32-s)<<16) {
				holdBack(t, d)
			}
		}
	}
	for d := range int64(200000) {
		holdBack(t, d)
	}
}

// P20.5: millionths of spans, written out: 0 below 0, upwards above it, at most the whole span.
func TestScaledSpans(t *testing.T) {
	for _, c := range []struct {
		d    int64
		ppm  int
		want int64
	}{
		{-1, 1000000, 0}, {1, -1, 0}, {-1, -1, 0}, {least, math.MinInt, 0}, {greatest, math.MinInt, 0}, {greatest, -1, 0}, {least, 1, 0}, {least, math.MaxInt, 0}, {-1000000, -1000000, 0},
		{0, 0, 0}, {0, 1, 0}, {0, 1000000, 0}, {0, math.MaxInt, 0}, {1, 0, 0}, {greatest, 0, 0},
		{1, 1, 1}, {1, 999999, 1}, {1, 1000000, 1}, {1, 1000001, 1}, {1, math.MaxInt, 1}, {2, 499999, 1}, {2, 500000, 1}, {2, 500001, 2},
		{1000000, 15, 15}, {999999, 15, 15}, {1000001, 15, 16}, {1 << 32, 15, 64425}, {15, 1000000, 15}, {66667, 15, 2}, {66666, 15, 1},
		{greatest, 1000000, greatest}, {greatest, 1000001, greatest}, {greatest, math.MaxInt, greatest}, {greatest - 1, 1000000, greatest - 1},
		{greatest, 1, 9223372036855}, {greatest, 2, 18446744073710}, {greatest, 500000, 1 << 62}, {greatest, 999999, 9223362813482738953},
		{9223372036854000000, 1, 9223372036854}, {9223372036854000001, 1, 9223372036855}, {9223372036853999999, 1, 9223372036854},
	} {
		if got := holdScaled(t, c.d, c.ppm); got != c.want {
			t.Errorf("Scaled(%d, %d) = %d; want %d", c.d, c.ppm, got, c.want)
		}
	}
}

// millionths are numbers of them at all edges.
func millionths() []int {
	return []int{math.MinInt, math.MinInt32, -1000001, -1000000, -15, -2, -1, 0, 1, 2, 3, 7, 8, 15, 16, 64, 100, 125, 500, 15625, 499999, 500000, 500001, 999998,
		999999, 1000000, 1000001, 1000002, 2000000, math.MaxInt32, 1 << 32, 1<<32 + 15, 1 << 62, math.MaxInt - 1, math.MaxInt}
}

// P20.5: spans at all edges, times millionths at all edges.
func TestScaledEdges(t *testing.T) {
	for _, ppm := range millionths() {
		for _, d := range edges() {
			got := holdScaled(t, d, ppm)
			if ppm > 1000000 && got != stamp.Scaled(d, 1000000) {
				t.Errorf("Scaled(%d, %d) is not that of 1000000 millionths", d, ppm)
			}
		}
	}
}

// P20.5: products that are multiples of 1000000, and spans one to either side, below and above what 64 bits hold.
func TestScaledMultiples(t *testing.T) {
	d := newDrawer(22)
	for range 3000 {
		ppm := 1 + d.from.Intn(1000000)
		for _, n := range []int64{1, 2, 1 + d.from.Int63n(1<<20), 1 + d.from.Int63n(greatest/1000000-1), greatest/1000000 - 1} {
			span := n * 1000000
			if got := holdScaled(t, span, ppm); got != n*int64(ppm) {
				t.Errorf("Scaled(%d, %d) = %d; want %d", span, ppm, got, n*int64(ppm))
			}
			if got := holdScaled(t, span+1, ppm); got != n*int64(ppm)+1 {
				t.Errorf("Scaled(%d, %d) = %d; want %d", span+1, ppm, got, n*int64(ppm)+1)
			}
			want := n * int64(ppm)
			if ppm == 1000000 {
				want--
			}
			if got := holdScaled(t, span-1, ppm); got != want {
				t.Errorf("Scaled(%d, %d) = %d; want %d", span-1, ppm, got, want)
			}
		}
	}
}

// P20.4, P20.5, P20.7: drawn spans, by the chapter's words.
func TestShortDrawn(t *testing.T) {
	d := newDrawer(23)
	for range 20000 {
		holdBack(t, d.number())
		holdLong(t, uint32(d.number()))
		holdScaled(t, d.number(), int(d.number()))
		holdScaled(t, d.number(), d.from.Intn(1000002))
	}
}

// FuzzScaled looks for short spans, and for millionths of spans, that are not those of the chapter's words.
func FuzzScaled(f *testing.F) {
	for _, n := range []int64{0, 1, 65535, 65537, lastBelow, longest, 1 << 48, greatest, least} {
		f.Add(n, 15)
		f.Add(-n, 1000001)
		f.Add(n, 1000000)
	}
	f.Fuzz(func(t *testing.T, d int64, ppm int) {
		holdBack(t, d)
		holdScaled(t, d, ppm)
	})
}
