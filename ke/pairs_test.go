package ke_test

import (
	"math"
	"math/rand"
	"slices"
	"testing"

	"pendulum/api"
	"pendulum/ke"
)

// noNumbers are numbers that two bytes can't tell, also such as have the lowest bits of one.
func noNumbers() []int {
	return []int{math.MinInt, math.MinInt32, -65537, -65536, -65535, -32768, -256, -2, -1, 65536, 65537, 65551, 1 << 17, 1 << 31, 1<<32 + 15, 1 << 48, math.MaxInt}
}

// counted is so many numbers, unlike to one another.
func counted(n int) []int {
	var out []int
	for i := range n {
		out = append(out, i*40503%65536)
	}
	return out
}

// P18.3: numbers as they stand, written out.
func TestPairsBytes(t *testing.T) {
	for _, c := range []struct {
		l    []int
		want string
	}{
		{nil, ""},
		{[]int{}, ""},
		{[]int{0}, "\x00\x00"},
		{[]int{api.Siv256}, "\x00\x0f"},
		{[]int{api.Siv512, api.Siv256}, "\x00\x11\x00\x0f"},
		{[]int{258, 65535, 256, 255}, "\x01\x02\xff\xff\x01\x00\x00\xff"},
		{[]int{15, 15}, "\x00\x0f\x00\x0f"},
	} {
		if got := holdPairs(t, c.l, api.OK); got != c.want {
			t.Errorf("Pairs of %v = %s; want %s", c.l, hexed(got), hexed(c.want))
		}
		if got, e := ke.ToPairs(c.want); !slices.Equal(got, c.l) || e != api.OK {
			t.Errorf("ToPairs of %s = %v, %v; want %v", hexed(c.want), got, e, c.l)
		}
	}
}

// P18.3: each number there and back, alone; and those that are none, alone, ahead of others and behind them.
func TestPairsNumbers(t *testing.T) {
	for n := range 65536 {
		holdToPairs(t, holdPairs(t, []int{n}, api.OK), api.OK)
	}
	for _, n := range noNumbers() {
		holdPairs(t, []int{n}, api.ErrNumber)
		holdPairs(t, []int{n, 1}, api.ErrNumber)
		holdPairs(t, []int{0, 65535, n}, api.ErrNumber)
		holdPairs(t, []int{0, n, 65535}, api.ErrNumber)
	}
}

// P18.3, rule 0.2: 512 numbers and one more, and many; too many ahead of one that is none, wherever it stands.
func TestPairsMany(t *testing.T) {
	for n := range 513 {
		holdPairs(t, counted(n), api.OK)
	}
	for _, n := range []int{513, 514, 1024, 65536, 65537, 100000} {
		holdPairs(t, counted(n), api.ErrMany)
	}
	for _, wrong := range noNumbers() {
		for _, i := range []int{0, 1, 511} {
			l := counted(512)
			l[i] = wrong
			holdPairs(t, l, api.ErrNumber)
			holdPairs(t, append(l, 1), api.ErrMany)
		}
		holdPairs(t, append(counted(511), wrong), api.ErrNumber)
		holdPairs(t, append(counted(512), wrong), api.ErrMany)
	}
}

// P18.3, rule 0.2: texts of each length up to well above the most, and of some more: an odd length is told ahead of one that is too long.
func TestToPairsLengths(t *testing.T) {
	long := drawn(1, 1<<17+1)
	for n := range 3000 {
		holdToPairs(t, long[:n], toPairsFault(n))
	}
	for _, n := range []int{65535, 65536, 65537, 65538, 66560, 1 << 17, 1<<17 + 1} {
		holdToPairs(t, long[:n], toPairsFault(n))
	}
	for _, c := range []struct {
		n     int
		fault api.Errno
	}{{0, api.OK}, {1, api.ErrForm}, {2, api.OK}, {1023, api.ErrForm}, {1024, api.OK}, {1025, api.ErrForm}, {1026, api.ErrLong}, {1027, api.ErrForm}} {
		holdToPairs(t, long[:c.n], c.fault)
	}
}

func toPairsFault(n int) api.Errno {
	switch {
	case n%2 == 1:
		return api.ErrForm
	case n > 1024:
		return api.ErrLong
	}
	return api.OK
}

// P18.3: the most numbers fill just a record's Body, which Write takes (P18.1).
func TestPairsFillABody(t *testing.T) {
	body := holdPairs(t, counted(512), api.OK)
	if len(body) != 1024 {
		t.Fatalf("Pairs of 512 numbers = %d bytes", len(body))
	}
	holdWrite(t, []api.KeRec{{Kind: api.KeAead, Body: body}}, api.OK)
}

// Rule 0.5: what ToPairs has told is its caller's: who changes it changes nothing of what is told later.
func TestToPairsIsNewMemory(t *testing.T) {
	first, _ := ke.ToPairs("\x00\x0f\x00\x11")
	first[0] = 99
	if second, e := ke.ToPairs("\x00\x0f\x00\x11"); !slices.Equal(second, []int{15, 17}) || e != api.OK {
		t.Errorf("ToPairs again = %v, %v", second, e)
	}
}

// P18.5: ToPairs undoes Pairs, and Pairs undoes ToPairs.
func TestPairsThereAndBack(t *testing.T) {
	for n := range 513 {
		r := rand.New(rand.NewSource(int64(n)))
		var l []int
		for range n {
			l = append(l, r.Intn(65536))
		}
		s, e := ke.Pairs(l)
		got, f := ke.ToPairs(s)
		if !slices.Equal(got, l) || e != api.OK || f != api.OK {
			t.Errorf("ToPairs of Pairs of %d numbers = %v, %v, %v; want %v", n, got, e, f, l)
		}
		text := drawn(int64(n), 2*n)
		l, e = ke.ToPairs(text)
		back, f := ke.Pairs(l)
		if back != text || e != api.OK || f != api.OK {
			t.Errorf("Pairs of ToPairs of %s = %s, %v, %v", hexed(text), hexed(back), e, f)
		}
	}
}

// FuzzToPairs looks for texts that are other numbers than by the chapter's words, or are not what Pairs makes.
func FuzzToPairs(f *testing.F) {
	f.Add("", 0)
	f.Add("\x00\x0f", 17)
	f.Add("\x00\x0f\x00", -1)
	f.Add(drawn(1, 1024), 65535)
	f.Add(drawn(1, 1026), 65536)
	f.Fuzz(func(t *testing.T, s string, n int) {
		l, e := unpaired(s)
		holdToPairs(t, s, e)
		if e == api.OK {
			if back := holdPairs(t, l, api.OK); back != s {
				t.Errorf("Pairs of ToPairs of %s = %s", hexed(s), hexed(back))
			}
		}
		l = append(l, n)
		_, e = paired(l)
		holdPairs(t, l, e)
	})
}
