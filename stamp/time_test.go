package stamp_test

import (
	"math"
	"testing"

	"pendulum/stamp"
)

// P20.1: stamps, written out, of where 1900 and 1970 began, of where the first era ends, and of halves and quarters of a second.
func TestOfStamps(t *testing.T) {
	for _, c := range []struct {
		seconds int64
		nanos   int
		want    uint64
	}{
		{0, 0, 2208988800 << 32},
		{0, 500000000, 2208988800<<32 + 1<<31},
		{0, 250000000, 2208988800<<32 + 1<<30},
		{0, 750000000, 2208988800<<32 + 3<<30},
		{0, 1, 2208988800<<32 + 4},
		{-1, 999999999, 2208988799<<32 + 4294967291},
		{-2208988800, 0, 0},
		{-2208988801, 0, 0xffffffff00000000},
		{-2208988801, 999999999, 0xfffffffffffffffb},
		{2085978495, 0, 0xffffffff00000000},
		{2085978495, 999999999, 0xfffffffffffffffb},
		{2085978496, 0, 0},
		{2085978497, 1, 1<<32 + 4},
		{1795046400, 123456789, 4004035200<<32 + 530242871},
		{math.MaxInt64, 0, (2208988799) << 32},
		{math.MinInt64, 0, 2208988800 << 32},
	} {
		if got := holdOf(t, c.seconds, c.nanos); got != c.want {
			t.Errorf("Of(%d, %d) = %#x; want %#x", c.seconds, c.nanos, got, c.want)
		}
	}
}

// P20.1: nanos from below 0 to above a second's, each with seconds at all edges; those out of bounds are as the ones at the bounds.
func TestOfNanos(t *testing.T) {
	nanos := []int{math.MinInt, math.MinInt + 1, math.MinInt32, -1000000001, -1000000000, -999999999, -2, -1, 0, 1, 2, 3, 232, 233, 499999999, 500000000, 500000001, 999999997,
		999999998, 999999999, 1000000000, 1000000001, 1999999999, math.MaxInt32, 1<<32 - 1, 1 << 32, 1<<32 + 1, 1 << 62, math.MaxInt - 1, math.MaxInt}
	for _, n := range nanos {
		for _, s := range edges() {
			got := holdOf(t, s, n)
			if n < 0 && got != stamp.Of(s, 0) {
				t.Errorf("Of(%d, %d) is not that of nanos 0", s, n)
			}
			if n > 999999999 && got != stamp.Of(s, 999999999) {
				t.Errorf("Of(%d, %d) is not that of nanos 999999999", s, n)
			}
		}
	}
}

// P20.1: the fraction is rounded downwards: where nanos times 2^32 is a multiple of 10^9 (each 5^9 nanos), and one to either side.
func TestOfDownwards(t *testing.T) {
	const exact = 1953125
	for n := range int64(512) {
		if got := holdOf(t, 0, int(n*exact)); uint32(got) != uint32(n<<23) {
			t.Errorf("Of(0, %d) has the fraction %#x", n*exact, uint32(got))
		}
		holdOf(t, n, int(n*exact-1))
		holdOf(t, -n, int(n*exact+1))
	}
}

// P20.1: at and beside the ends of eras, ahead of 1900 and behind it: an era's first stamp is that of any other one.
func TestOfEras(t *testing.T) {
	for era := int64(-40); era < 40; era++ {
		start := era*second - 2208988800
		for d := int64(-2); d < 3; d++ {
			for _, n := range []int{-1, 0, 1, 999999999, 1000000000} {
				holdOf(t, start+d, n)
			}
		}
		if stamp.Of(start, 0) != 0 || stamp.Of(start-1, 0) != 0xffffffff<<32 || stamp.Of(start+1, 0) != second {
			t.Errorf("the era from %d on begins with %#x", start, stamp.Of(start, 0))
		}
	}
}

// P20.1: times of stamps, written out: the era is the one that near asks for, whatever the fraction.
func TestUnixTimes(t *testing.T) {
	for _, c := range []struct {
		t        uint64
		near     int64
		seconds  int64
		fraction uint32
	}{
		{2208988800 << 32, 0, 0, 0},
		{2208988800<<32 + 1<<31, 0, 0, 1 << 31},
		{2208988801<<32 + 0xffffffff, 0, 1, 0xffffffff},
		{0, 0, 2085978496, 0},
		{0, -61505152, 2085978496 - second, 0},
		{0, -61505151, 2085978496, 0},
		{0, 1795046400, 2085978496, 0},
		{math.MaxUint64, 1795046400, 2085978495, math.MaxUint32},
		{4004035200<<32 + 7, 1795046400, 1795046400, 7},
		{4004035200 << 32, 1795046400 + 1<<31, 1795046400, 0},
		{4004035200 << 32, 1795046400 + 1<<31 + 1, 1795046400 + second, 0},
		{4004035200 << 32, 1795046400 - 1<<31, 1795046400 - second, 0},
		{4004035200 << 32, 1795046400 - 1<<31 + 1, 1795046400, 0},
	} {
		if s, f := holdUnix(t, c.t, c.near); s != c.seconds || f != c.fraction {
			t.Errorf("Unix(%#x, %d) = %d, %d; want %d, %d", c.t, c.near, s, f, c.seconds, c.fraction)
		}
	}
}

// P20.1: stamps at all edges, near to times at all edges, among them the least and the greatest one.
func TestUnixEdges(t *testing.T) {
	for _, at := range stamps() {
		for _, near := range edges() {
			holdUnix(t, at, near)
		}
	}
}

// P20.1: the seconds told are from near - 2^31 on, and below near + 2^31: at both edges, and one beside them.
func TestUnixWindow(t *testing.T) {
	for _, near := range edges() {
		if near < -1<<61 || near > 1<<61 {
			continue
		}
		for _, d := range beside(0, 1<<31, -1<<31) {
			want := near + d
			switch {
			case d < -1<<31:
				want += second
			case d >= 1<<31:
				want -= second
			}
			for _, f := range []uint64{0, 1, 1<<32 - 1} {
				at := uint64(near+d+2208988800)<<32 | f
				if s, got := holdUnix(t, at, near); s != want || uint64(got) != f {
					t.Errorf("Unix(%#x, %d) = %d, %d; want %d, %d", at, near, s, got, want, f)
				}
			}
		}
	}
}

// P20.1: a near below -2^61 is taken as that, one above 2^61 as that; those up to there are not.
func TestUnixFar(t *testing.T) {
	const far = 1 << 61
	for _, at := range stamps() {
		low, lowFraction := holdUnix(t, at, -far)
		high, highFraction := holdUnix(t, at, far)
		if low < -far-1<<31 || low >= -far+1<<31 || high < far-1<<31 || high >= far+1<<31 {
			t.Errorf("Unix(%#x) is %d and %d", at, low, high)
		}
		for _, d := range []int64{1, 2, 1<<31 - 1, 1 << 31, 1<<31 + 1, second, 1 << 60, 1 << 61, greatest - far} {
			if s, f := holdUnix(t, at, -far-d); s != low || f != lowFraction {
				t.Errorf("Unix(%#x, %d) = %d, %d", at, -far-d, s, f)
			}
			if s, f := holdUnix(t, at, far+d); s != high || f != highFraction {
				t.Errorf("Unix(%#x, %d) = %d, %d", at, far+d, s, f)
			}
		}
		if s, f := holdUnix(t, at, least); s != low || f != lowFraction {
			t.Errorf("Unix(%#x, %d) = %d, %d", at, int64(least), s, f)
		}
	}
	for _, near := range beside(-far, far) {
		taken := min(max(near, -far), far)
		if s, _ := holdUnix(t, stamp.Of(taken-1<<31, 0), near); s != taken-1<<31 {
			t.Errorf("near to %d stands %d", near, s)
		}
		if s, _ := holdUnix(t, stamp.Of(taken+1<<31-1, 0), near); s != taken+1<<31-1 {
			t.Errorf("near to %d stands %d", near, s)
		}
	}
}

// P20.7: Unix of Of, near to a time at most 2^31 - 1 seconds away, is that time and its fraction; at both ends.
func TestUnixOf(t *testing.T) {
	for _, s := range edges() {
		for _, d := range beside(0, 1, -1, 1<<30, -1<<30, 1<<31-2, 2-1<<31) {
			near := s + d
			if near < -1<<61 || near > 1<<61 {
				continue
			}
			for _, n := range []int{0, 1, 500000000, 999999999} {
				got, f := stamp.Unix(stamp.Of(s, n), near)
				if got != s || f != uint32(of(s, n)) {
					t.Errorf("Unix of Of(%d, %d), near to %d, is %d, %d", s, n, near, got, f)
				}
			}
		}
	}
}

// P20.1, P20.7: drawn times and stamps, there and back, and by the chapter's words.
func TestTimesDrawn(t *testing.T) {
	d := newDrawer(20)
	for range 20000 {
		s, n := d.number(), int(d.number())
		at := holdOf(t, s, n)
		holdUnix(t, at, d.number())
		holdUnix(t, d.stamp(), d.number())
		s = s >> 3
		near := s + d.from.Int63n(1<<32-1) - (1<<31 - 1)
		if near > 1<<61 || near < -1<<61 {
			continue
		}
		if got, _ := stamp.Unix(stamp.Of(s, n), near); got != s {
			t.Errorf("Unix of Of(%d, %d), near to %d, is %d", s, n, near, got)
		}
	}
}

// FuzzUnix looks for times whose stamp, or whose stamp's time, is not that of the chapter's words.
func FuzzUnix(f *testing.F) {
	for _, n := range []int64{0, 1, -1, 2208988800, 1 << 61, -1 << 61, least, greatest} {
		f.Add(n, 0, uint64(n), -n)
		f.Add(-n, 999999999, uint64(n)<<32, n+1)
	}
	f.Fuzz(func(t *testing.T, seconds int64, nanos int, at uint64, near int64) {
		holdUnix(t, holdOf(t, seconds, nanos), near)
		holdUnix(t, at, near)
	})
}
