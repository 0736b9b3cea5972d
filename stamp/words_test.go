package stamp_test

import (
	"math"
	"math/big"
	"math/rand"
	"slices"
	"testing"

	"pendulum/api"
	"pendulum/stamp"
)

// What the chapter's words say, made anew by math/big, whose numbers know no bounds: the tests hold the program against it.

const (
	least    = math.MinInt64
	greatest = math.MaxInt64
	second   = 1 << 32
)

func whole(n int64) *big.Int { return big.NewInt(n) }

func wholeOf(n uint64) *big.Int { return new(big.Int).SetUint64(n) }

func plus(a, b *big.Int) *big.Int { return new(big.Int).Add(a, b) }

func less(a, b *big.Int) *big.Int { return new(big.Int).Sub(a, b) }

func times(a, b *big.Int) *big.Int { return new(big.Int).Mul(a, b) }

// down is a quotient, downwards also below 0, by what is above 0.
func down(a, b *big.Int) *big.Int { return new(big.Int).Div(a, b) }

// up is a quotient, upwards.
func up(a, b *big.Int) *big.Int {
	q, left := new(big.Int).DivMod(a, b, new(big.Int))
	if left.Sign() != 0 {
		q.Add(q, whole(1))
	}
	return q
}

func power(n uint) *big.Int { return new(big.Int).Lsh(whole(1), n) }

// modulo is a number from 0 on, below 2^n.
func modulo(a *big.Int, n uint) *big.Int { return new(big.Int).Mod(a, power(n)) }

// spanOf is a number modulo 2^64, as a span.
func spanOf(a *big.Int) int64 {
	m := modulo(a, 64)
	if m.Cmp(power(63)) >= 0 {
		m.Sub(m, power(64))
	}
	return m.Int64()
}

// inBounds is a number that is no more than hi, and no less than lo.
func inBounds(a, lo, hi *big.Int) *big.Int {
	if a.Cmp(lo) < 0 {
		return lo
	}
	if a.Cmp(hi) > 0 {
		return hi
	}
	return a
}

// of is P20.1's stamp.
func of(seconds int64, nanos int) uint64 {
	n := inBounds(whole(int64(nanos)), whole(0), whole(999999999))
	since1900 := modulo(plus(whole(seconds), whole(2208988800)), 32)
	return plus(times(since1900, power(32)), down(times(n, power(32)), whole(1000000000))).Uint64()
}

// unix is P20.1's time: the first one from near - 2^31 on that has the stamp's seconds.
func unix(t uint64, near int64) (int64, uint32) {
	n := inBounds(whole(near), new(big.Int).Neg(power(61)), power(61))
	from := less(n, power(31))
	seconds := less(down(wholeOf(t), power(32)), whole(2208988800))
	s := plus(from, modulo(less(seconds, from), 32))
	return s.Int64(), uint32(modulo(wholeOf(t), 32).Uint64())
}

func diff(a, b uint64) int64 { return spanOf(less(wholeOf(a), wholeOf(b))) }

func add(a uint64, d int64) uint64 { return modulo(plus(wholeOf(a), whole(d)), 64).Uint64() }

func measure(t1, t2, t3, t4 uint64) api.Sample {
	x, y := whole(diff(t2, t1)), whole(diff(t3, t4))
	return api.Sample{
		Offset: down(plus(x, y), whole(2)).Int64(),
		Delay:  spanOf(less(whole(diff(t4, t1)), whole(diff(t3, t2)))),
	}
}

func short(d int64) uint32 {
	return uint32(inBounds(up(whole(d), power(16)), whole(0), less(power(32), whole(1))).Uint64())
}

func scaled(d int64, ppm int) int64 {
	if d < 0 || ppm < 0 {
		return 0
	}
	return up(times(whole(d), inBounds(whole(int64(ppm)), whole(0), whole(1000000))), whole(1000000)).Int64()
}

// hold holds what a call told against what it should have told.
func hold[T comparable](t testing.TB, call string, got, want T, given ...any) T {
	t.Helper()
	if got != want {
		t.Errorf("%s of %d = %v; want %v", call, given, got, want)
	}
	return got
}

func holdOf(t testing.TB, seconds int64, nanos int) uint64 {
	t.Helper()
	return hold(t, "Of", stamp.Of(seconds, nanos), of(seconds, nanos), seconds, nanos)
}

// told is both results of Unix.
type told struct {
	seconds  int64
	fraction uint32
}

func holdUnix(t testing.TB, at uint64, near int64) (int64, uint32) {
	t.Helper()
	var got, want told
	got.seconds, got.fraction = stamp.Unix(at, near)
	want.seconds, want.fraction = unix(at, near)
	hold(t, "Unix", got, want, at, near)
	return got.seconds, got.fraction
}

func holdDiff(t testing.TB, a, b uint64) int64 {
	t.Helper()
	return hold(t, "Diff", stamp.Diff(a, b), diff(a, b), a, b)
}

func holdAdd(t testing.TB, a uint64, d int64) uint64 {
	t.Helper()
	return hold(t, "Add", stamp.Add(a, d), add(a, d), a, d)
}

func holdMeasure(t testing.TB, t1, t2, t3, t4 uint64) api.Sample {
	t.Helper()
	return hold(t, "Measure", stamp.Measure(t1, t2, t3, t4), measure(t1, t2, t3, t4), t1, t2, t3, t4)
}

func holdShort(t testing.TB, d int64) uint32 {
	t.Helper()
	return hold(t, "Short", stamp.Short(d), short(d), d)
}

func holdLong(t testing.TB, s uint32) int64 {
	t.Helper()
	return hold(t, "Long", stamp.Long(s), times(whole(int64(s)), power(16)).Int64(), s)
}

func holdScaled(t testing.TB, d int64, ppm int) int64 {
	t.Helper()
	return hold(t, "Scaled", stamp.Scaled(d, ppm), scaled(d, ppm), d, ppm)
}

// beside is numbers, and those one to either side of them, modulo 2^64.
func beside(l ...int64) []int64 {
	var out []int64
	for _, n := range l {
		out = append(out, n-1, n, n+1)
	}
	slices.Sort(out)
	return slices.Compact(out)
}

// edges are numbers at all powers of 2, at the ends of eras and at where 1970 began, with those beside them.
func edges() []int64 {
	l := []int64{0, least, greatest, 2208988800, -2208988800, 2208988800 - second, second - 2208988800, 1000000, 1000000000}
	for n := range 63 {
		l = append(l, 1<<n, -1<<n, greatest-1<<n, 1<<n-2208988800)
	}
	return beside(l...)
}

// stamps are the edges, as stamps.
func stamps() []uint64 {
	var out []uint64
	for _, n := range edges() {
		out = append(out, uint64(n))
	}
	return out
}

// drawer draws numbers that are the same in every run, as often short as long, and now and then an edge.
type drawer struct {
	from  *rand.Rand
	edges []int64
}

func newDrawer(seed int64) drawer { return drawer{rand.New(rand.NewSource(seed)), edges()} }

func (d drawer) number() int64 {
	n := int64(d.from.Uint64()) >> d.from.Intn(64)
	switch d.from.Intn(4) {
	case 0:
		return n << d.from.Intn(40)
	case 1:
		return d.edges[d.from.Intn(len(d.edges))]
	}
	return n
}

func (d drawer) stamp() uint64 { return uint64(d.number()) }
