package nego_test

import (
	"math"
	"slices"
	"strings"
	"testing"

	"pendulum/api"
	"pendulum/ke"
	"pendulum/nego"
)

// counted is so many numbers, unlike to one another.
func counted(n int) []int {
	var out []int
	for i := range n {
		out = append(out, i*40503%65536)
	}
	return out
}

// noNumbers are numbers that two bytes can't tell, also such as have the lowest bits of one.
func noNumbers() []int {
	return []int{math.MinInt, math.MinInt32, -65536, -65521, -256, -2, -1, 65536, 65537, 65551, 1 << 31, 1<<32 + 15, math.MaxInt}
}

// noHosts are texts that are neither a host nor "".
func noHosts() []string {
	return []string{strings.Repeat("a", 65), strings.Repeat("a", 66), strings.Repeat("a", 1024), strings.Repeat("~", 1<<16),
		" ", "\x7f", "\x00", "\n", "\xff", "é", "a b", "a\x00", "a\n", " a", "a ", "\x80a", "!\x7f", strings.Repeat("a", 63) + " ", "\x1f" + strings.Repeat("a", 63)}
}

// P19.1: the chapter's example, and others, written out.
func TestAskRecords(t *testing.T) {
	next, last := api.KeRec{Crit: true, Kind: api.KeNext, Body: "\x00\x00"}, api.KeRec{Crit: true, Kind: api.KeEnd}
	for _, c := range []struct {
		aeads []int
		host  string
		port  int
		want  []api.KeRec
	}{
		{[]int{api.Siv256}, "", 0, []api.KeRec{next, {Crit: true, Kind: api.KeAead, Body: "\x00\x0f"}, last}},
		{[]int{api.Siv512, api.Siv256}, "", 0, []api.KeRec{next, {Crit: true, Kind: api.KeAead, Body: "\x00\x11\x00\x0f"}, last}},
		{[]int{15}, "time.example.org", 0, []api.KeRec{next, {Crit: true, Kind: api.KeAead, Body: "\x00\x0f"}, {Kind: api.KeServer, Body: "time.example.org"}, last}},
		{[]int{15}, "", 123, []api.KeRec{next, {Crit: true, Kind: api.KeAead, Body: "\x00\x0f"}, {Kind: api.KePort, Body: "\x00\x7b"}, last}},
		{[]int{0, 258, 65535}, "a", 4460, []api.KeRec{next, {Crit: true, Kind: api.KeAead, Body: "\x00\x00\x01\x02\xff\xff"}, {Kind: api.KeServer, Body: "a"}, {Kind: api.KePort, Body: "\x11\x6c"}, last}},
	} {
		holdAsk(t, c.aeads, c.host, c.port, api.OK)
		if got, e := nego.Ask(c.aeads, c.host, c.port); !slices.Equal(got, c.want) || e != api.OK {
			t.Errorf("Ask of %v, %q, %d = %v, %v; want %v", c.aeads, c.host, c.port, got, e, c.want)
		}
	}
}

// P19.1: as it stands on the wire by RFC 8915.
func TestAskOnTheWire(t *testing.T) {
	l, _ := nego.Ask([]int{api.Siv256}, "", 0)
	if s, e := ke.Write(l); s != "\x80\x01\x00\x02\x00\x00\x80\x04\x00\x02\x00\x0f\x80\x00\x00\x00" || e != api.OK {
		t.Errorf("Write of Ask = %s, %v", hexed(s), e)
	}
}

// P19.1: no ways, each number of them up to 512, and more; the same one more than once; each number that two bytes can tell, a way of sealing or not.
func TestAskWays(t *testing.T) {
	holdAsk(t, nil, "", 0, api.ErrShort)
	holdAsk(t, []int{}, "", 0, api.ErrShort)
	for n := 1; n <= 512; n++ {
		holdAsk(t, counted(n), "a", n, api.OK)
	}
	for _, n := range []int{513, 514, 1024, 65536, 65537, 100000} {
		holdAsk(t, counted(n), "", 0, api.ErrMany)
	}
	holdAsk(t, slices.Repeat([]int{15}, 512), "", 0, api.OK)
	holdAsk(t, slices.Repeat([]int{15}, 513), "", 0, api.ErrMany)
	for n := range 65536 {
		holdAsk(t, []int{n}, "", 0, api.OK)
	}
	for _, n := range noNumbers() {
		holdAsk(t, []int{n}, "", 0, api.ErrNumber)
		holdAsk(t, []int{15, n}, "", 0, api.ErrNumber)
		holdAsk(t, []int{n, 65535, 0}, "", 0, api.ErrNumber)
	}
}

// P19.1: hosts of each length and each byte, alone, first, last and in the midst.
func TestAskHosts(t *testing.T) {
	for n := 1; n <= 64; n++ {
		holdAsk(t, []int{15}, strings.Repeat("!", n), 0, api.OK)
		holdAsk(t, []int{15, 17}, strings.Repeat("~", n), 65535, api.OK)
	}
	for _, s := range noHosts() {
		holdAsk(t, []int{15}, s, 0, api.ErrName)
	}
	for b := range 256 {
		fault := api.ErrName
		if b >= 33 && b <= 126 {
			fault = api.OK
		}
		s := string([]byte{byte(b)})
		for _, host := range []string{s, s + "a", "a" + s, "ab" + s + "cd", s + strings.Repeat("a", 63), strings.Repeat("a", 63) + s, s + s} {
			holdAsk(t, []int{15}, host, 0, fault)
			holdAsk(t, []int{15}, host, 123, fault)
		}
	}
}

// P19.1: each port, and numbers that are none.
func TestAskPorts(t *testing.T) {
	for port := range 65536 {
		holdAsk(t, []int{17}, "", port, api.OK)
	}
	for _, port := range noNumbers() {
		holdAsk(t, []int{15}, "", port, api.ErrNumber)
		holdAsk(t, []int{15}, "a", port, api.ErrNumber)
	}
}

// P19.1, rules 0.2 and 0.3: of all errors together the one that the chapter names first is told, and no records beside it.
func TestAskWhichFirst(t *testing.T) {
	ways := []struct {
		l     []int
		fault api.Errno
	}{{nil, api.ErrShort}, {counted(513), api.ErrMany}, {append(counted(513), -1), api.ErrMany}, {append([]int{-1}, counted(512)...), api.ErrMany}, {[]int{-1}, api.ErrNumber}, {[]int{15, 65536}, api.ErrNumber}, {[]int{15}, api.OK}}
	for _, w := range ways {
		for _, host := range append(noHosts(), "", "a") {
			for _, port := range append(noNumbers(), 0, 1, 65535) {
				fault := w.fault
				if fault == api.OK && host != "" && host != "a" {
					fault = api.ErrName
				}
				if fault == api.OK && (port < 0 || port > 65535) {
					fault = api.ErrNumber
				}
				holdAsk(t, w.l, host, port, fault)
			}
		}
	}
}

// Rule 0.5: what Ask tells is its caller's: who changes it changes nothing of what is told later, nor of what it was given.
func TestAskIsNewMemory(t *testing.T) {
	aeads := []int{15, 17}
	first, _ := nego.Ask(aeads, "a", 1)
	second, _ := nego.Ask(aeads, "a", 1)
	for i := range first {
		first[i] = api.KeRec{Kind: -1}
	}
	aeads[0] = 99
	if want, _ := asked([]int{15, 17}, "a", 1); !slices.Equal(second, want) || aeads[1] != 17 {
		t.Errorf("Ask told %v, of %v", second, aeads)
	}
}

// numbersOf is any numbers, as a fuzzer tells them: most are near those that matter.
func numbersOf(s string) []int {
	var out []int
	for i := range len(s) {
		switch n := int(int8(s[i])); {
		case n >= 100:
			out = append(out, 65536+n-110)
		default:
			out = append(out, n)
		}
	}
	return out
}

// FuzzAsk looks for asking otherwise than by the chapter's words.
func FuzzAsk(f *testing.F) {
	f.Add("\x0f\x11", "", 0)
	f.Add("", "a", 1)
	f.Add("\xff", " ", -1)
	f.Add("\x6e", strings.Repeat("a", 65), 65536)
	f.Fuzz(func(t *testing.T, ways, host string, port int) {
		aeads := numbersOf(ways)
		_, e := asked(aeads, host, port)
		holdAsk(t, aeads, host, port, e)
	})
}
