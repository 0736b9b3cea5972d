package stamp_test

import (
	"math"
	"sync"
	"testing"

	"pendulum/api"
)

// P20.2: spans, written out: of like stamps, of those one and 2^63 apart, and over the end of all eras.
func TestDiffSpans(t *testing.T) {
	for _, c := range []struct {
		a, b uint64
		want int64
	}{
		{0, 0, 0}, {math.MaxUint64, math.MaxUint64, 0}, {1 << 63, 1 << 63, 0},
		{1, 0, 1}, {0, 1, -1}, {0, math.MaxUint64, 1}, {math.MaxUint64, 0, -1}, {1 << 63, 1<<63 - 1, 1}, {1<<63 - 1, 1 << 63, -1},
		{1 << 63, 0, least}, {0, 1 << 63, least}, {math.MaxUint64, 1<<63 - 1, least}, {1<<63 - 1, math.MaxUint64, least},
		{1<<63 - 1, 0, greatest}, {0, 1<<63 + 1, greatest}, {1<<63 + 1, 0, least + 1}, {math.MaxUint64, 1 << 63, greatest},
		{10 << 32, 4 << 32, 6 << 32}, {4 << 32, 10 << 32, -6 << 32}, {1 << 32, 0xffffffff << 32, 2 << 32},
	} {
		if got := holdDiff(t, c.a, c.b); got != c.want {
			t.Errorf("Diff(%#x, %#x) = %d; want %d", c.a, c.b, got, c.want)
		}
	}
}

// P20.2: stamps moved, written out: by the least and the greatest span, and over the end either way.
func TestAddStamps(t *testing.T) {
	for _, c := range []struct {
		a    uint64
		d    int64
		want uint64
	}{
		{0, 0, 0}, {0, 1, 1}, {0, -1, math.MaxUint64}, {math.MaxUint64, 1, 0}, {math.MaxUint64, -1, math.MaxUint64 - 1}, {math.MaxUint64, 2, 1}, {1, -2, math.MaxUint64},
		{0, least, 1 << 63}, {1 << 63, least, 0}, {1, least, 1<<63 + 1}, {math.MaxUint64, least, 1<<63 - 1}, {1<<63 - 1, least, math.MaxUint64},
		{0, greatest, 1<<63 - 1}, {1, greatest, 1 << 63}, {1<<63 + 1, greatest, 0}, {1 << 63, greatest, math.MaxUint64}, {math.MaxUint64, greatest, 1<<63 - 2},
		{4 << 32, 6 << 32, 10 << 32}, {4 << 32, -6 << 32, 0xfffffffe << 32},
	} {
		if got := holdAdd(t, c.a, c.d); got != c.want {
			t.Errorf("Add(%#x, %d) = %#x; want %#x", c.a, c.d, got, c.want)
		}
	}
}

// P20.2, P20.6: stamps and spans at all edges: Add undoes Diff, Diff undoes Add, and Diff turned is negated, but the least.
func TestDiffAddEdges(t *testing.T) {
	for _, a := range stamps() {
		for _, b := range stamps() {
			holdTurned(t, a, b)
		}
	}
}

// holdTurned holds what follows of two stamps.
func holdTurned(t testing.TB, a, b uint64) {
	t.Helper()
	d, back := holdDiff(t, a, b), holdDiff(t, b, a)
	if holdAdd(t, b, d) != a || holdAdd(t, a, back) != b {
		t.Errorf("Add does not undo Diff of %#x and %#x", a, b)
	}
	if d == least && back != least || d != least && back != -d {
		t.Errorf("Diff of %#x and %#x is %d; turned it is %d", a, b, d, back)
	}
	if got := holdDiff(t, holdAdd(t, b, int64(a)), b); got != int64(a) {
		t.Errorf("Diff of Add(%#x, %d) is %d", b, int64(a), got)
	}
}

// P20.3: samples, written out: halves downwards also below 0, sums out of 64 bits either way, a Delay that goes round.
func TestMeasureSamples(t *testing.T) {
	s := func(n uint64) uint64 { return n << 32 }
	const all = math.MaxUint64
	for _, c := range []struct {
		t1, t2, t3, t4 uint64
		want           api.Sample
	}{
		{0, 0, 0, 0, api.Sample{}},
		{s(0), s(10), s(10), s(4), api.Sample{Offset: 8 << 32, Delay: 4 << 32}},
		{s(10), s(0), s(0), s(14), api.Sample{Offset: -12 << 32, Delay: 4 << 32}},
		{s(100), s(103), s(104), s(105), api.Sample{Offset: 1 << 32, Delay: 4 << 32}},
		{0, 1, 0, 0, api.Sample{Offset: 0, Delay: 1}},
		{0, 0, 1, 0, api.Sample{Offset: 0, Delay: -1}},
		{0, 1, 1, 0, api.Sample{Offset: 1, Delay: 0}},
		{1, 0, 0, 0, api.Sample{Offset: -1, Delay: -1}},
		{0, 0, 0, 1, api.Sample{Offset: -1, Delay: 1}},
		{1, 0, 0, 1, api.Sample{Offset: -1, Delay: 0}},
		{2, 0, 0, 1, api.Sample{Offset: -2, Delay: -1}},
		{3, 0, 0, 0, api.Sample{Offset: -2, Delay: -3}},
		{all, 0, 1, all, api.Sample{Offset: 1, Delay: -1}},
		{0, 1<<63 - 1, 1<<63 - 1, 0, api.Sample{Offset: greatest, Delay: 0}},
		{0, 1<<63 - 1, 1<<63 - 2, 0, api.Sample{Offset: greatest - 1, Delay: 1}},
		{0, 1<<63 - 2, 1<<63 - 2, 0, api.Sample{Offset: greatest - 1, Delay: 0}},
		{0, 1 << 63, 1 << 63, 0, api.Sample{Offset: least, Delay: 0}},
		{0, 1 << 63, 1<<63 + 1, 0, api.Sample{Offset: least, Delay: -1}},
		{0, 1 << 63, 1<<63 - 1, 0, api.Sample{Offset: -1, Delay: 1}},
		{0, 1 << 63, 0, 0, api.Sample{Offset: -1 << 62, Delay: least}},
		{0, 0, 0, 1 << 63, api.Sample{Offset: -1 << 62, Delay: least}},
		{0, 0, 1<<63 - 1, 0, api.Sample{Offset: 1<<62 - 1, Delay: least + 1}},
		{0, 1<<63 - 1, 0, 1<<63 - 1, api.Sample{Offset: 0, Delay: -2}},
		{0, 0, 1 << 63, 1<<63 - 1, api.Sample{Offset: 0, Delay: -1}},
		{0, 1<<63 - 1, 0, 1, api.Sample{Offset: 1<<62 - 1, Delay: least}},
	} {
		if got := holdMeasure(t, c.t1, c.t2, c.t3, c.t4); got != c.want {
			t.Errorf("Measure(%#x, %#x, %#x, %#x) = %v; want %v", c.t1, c.t2, c.t3, c.t4, got, c.want)
		}
	}
}

// P20.3: all sums of two spans at the edges, odd and even, also such as 64 bits do not hold, and all differences that go round; from several stamps on.
func TestMeasureEdges(t *testing.T) {
	near := beside(0, 1<<62, -1<<62, least, greatest, second, -second, 1<<31)
	for _, x := range near {
		for _, y := range near {
			for _, far := range near {
				for _, t1 := range []uint64{0, 1, 1 << 63, 0xdeadbeefcafebabe} {
					t4 := add(t1, far)
					holdMeasure(t, t1, add(t1, x), add(t4, y), t4)
				}
			}
		}
	}
}

// P20.3: small spans one by one: halves go downwards, not towards 0.
func TestMeasureSmall(t *testing.T) {
	for x := int64(-6); x < 7; x++ {
		for y := int64(-6); y < 7; y++ {
			for far := int64(-3); far < 4; far++ {
				for _, t1 := range []uint64{0, 100, math.MaxUint64} {
					t4 := add(t1, far)
					holdMeasure(t, t1, add(t1, x), add(t4, y), t4)
				}
			}
		}
	}
}

// P20.6: of two clocks one of which is ahead, and equally long ways, Offset is how far it is ahead, as far as no span is too great; Delay is both ways.
func TestMeasureAhead(t *testing.T) {
	ways := []int64{0, 1, 2, 1000, second, 40 << 32, 1 << 46, 1 << 61, 1<<62 - 1}
	for _, ahead := range edges() {
		for _, way := range ways {
			if ahead > 0 && ahead > greatest-way || ahead < 0 && ahead < least+way {
				continue
			}
			for _, held := range []int64{0, 1, 7, second, 1 << 47} {
				for _, t1 := range []uint64{0, 2208988800 << 32, math.MaxUint64, 1 << 63} {
					heard := add(t1, way)
					answered := add(heard, held)
					got := holdMeasure(t, t1, add(heard, ahead), add(answered, ahead), add(answered, way))
					if got.Offset != ahead || got.Delay != 2*way {
						t.Errorf("a clock that is %d ahead, ways of %d, held %d: %v", ahead, way, held, got)
					}
				}
			}
		}
	}
}

// P20.2, P20.3, P20.6: drawn stamps, by the chapter's words.
func TestSpansDrawn(t *testing.T) {
	d := newDrawer(21)
	for range 20000 {
		a, b := d.stamp(), d.stamp()
		holdTurned(t, a, b)
		holdAdd(t, a, d.number())
		holdMeasure(t, a, b, d.stamp(), d.stamp())
		holdMeasure(t, a, add(a, d.number()), add(b, d.number()), b)
	}
}

// Rule 0.5: calls at once tell what each alone tells.
func TestAtOnce(t *testing.T) {
	var all sync.WaitGroup
	for seed := range int64(8) {
		all.Go(func() {
			d := newDrawer(seed)
			for range 500 {
				holdUnix(t, holdOf(t, d.number(), int(d.number())), d.number())
				holdMeasure(t, d.stamp(), d.stamp(), d.stamp(), d.stamp())
				holdTurned(t, d.stamp(), d.stamp())
				holdShort(t, d.number())
				holdScaled(t, d.number(), int(d.number()))
			}
		})
	}
	all.Wait()
}

// FuzzMeasure looks for spans, stamps and samples that are not those of the chapter's words.
func FuzzMeasure(f *testing.F) {
	f.Add(uint64(0), uint64(10<<32), uint64(10<<32), uint64(4<<32))
	f.Add(uint64(0), uint64(1<<63), uint64(1<<63+1), uint64(0))
	f.Add(uint64(0), uint64(1<<63-1), uint64(1<<63-2), uint64(0))
	f.Add(uint64(3), uint64(0), uint64(0), uint64(math.MaxUint64))
	f.Fuzz(func(t *testing.T, t1, t2, t3, t4 uint64) {
		holdMeasure(t, t1, t2, t3, t4)
		holdTurned(t, t1, t2)
		holdTurned(t, t3, t4)
	})
}
