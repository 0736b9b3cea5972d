package ke_test

import (
	"math/rand"
	"strings"
	"testing"

	"pendulum/api"
	"pendulum/ke"
)

// P18.1: the chapter's example, and other records as they stand, written out.
func TestWriteBytes(t *testing.T) {
	for _, c := range []struct {
		l    []api.KeRec
		want string
	}{
		{nil, ""},
		{[]api.KeRec{}, ""},
		{[]api.KeRec{{Crit: true, Kind: api.KeNext, Body: "\x00\x00"}}, "\x80\x01\x00\x02\x00\x00"},
		{[]api.KeRec{{Crit: true, Kind: api.KeEnd}}, "\x80\x00\x00\x00"},
		{[]api.KeRec{{}}, "\x00\x00\x00\x00"},
		{[]api.KeRec{{Kind: api.KeEnd, Body: "abc"}}, "\x00\x00\x00\x03abc"},
		{[]api.KeRec{{Kind: api.KeCookie, Body: "\xff"}}, "\x00\x05\x00\x01\xff"},
		{[]api.KeRec{{Kind: 258, Body: drawn(1, 259)}}, "\x01\x02\x01\x03" + drawn(1, 259)},
		{[]api.KeRec{{Crit: true, Kind: 258}}, "\x81\x02\x00\x00"},
		{[]api.KeRec{{Kind: 32767}}, "\x7f\xff\x00\x00"},
		{[]api.KeRec{{Crit: true, Kind: 32767}}, "\xff\xff\x00\x00"},
		{[]api.KeRec{{Kind: 1, Body: "a"}, {Crit: true}, {Crit: true, Kind: 2, Body: "bc"}}, "\x00\x01\x00\x01a\x80\x00\x00\x00\x80\x02\x00\x02bc"},
		{asked(), "\x80\x01\x00\x02\x00\x00\x80\x04\x00\x02\x00\x0f\x80\x00\x00\x00"},
	} {
		if got := holdWrite(t, c.l, api.OK); got != c.want {
			t.Errorf("Write of %v = %s; want %s", c.l, hexed(got), hexed(c.want))
		}
	}
}

// asked is what a client asks, as it stands on the wire by RFC 8915: NTPv4, and AES-SIV with keys of 32 bytes.
func asked() []api.KeRec {
	return []api.KeRec{
		{Crit: true, Kind: api.KeNext, Body: "\x00\x00"},
		{Crit: true, Kind: api.KeAead, Body: "\x00\x0f"},
		{Crit: true, Kind: api.KeEnd},
	}
}

// P18.1: each Kind, Crit and not, and those next to the edges; whatever Body it has.
func TestWriteKinds(t *testing.T) {
	for kind := range 32768 {
		holdWrite(t, []api.KeRec{{Kind: kind, Body: "a"}, {Crit: true, Kind: kind}}, api.OK)
	}
	for _, kind := range noKinds() {
		for _, crit := range []bool{false, true} {
			for _, size := range []int{0, 1, 1024} {
				holdWrite(t, []api.KeRec{{Crit: crit, Kind: kind, Body: drawn(1, size)}}, api.ErrNumber)
			}
		}
	}
}

// P18.1: each length of a Body, and some that are too long, also such as two bytes can't tell.
func TestWriteLengths(t *testing.T) {
	long := drawn(2, 1<<17)
	for size := range 1025 {
		holdWrite(t, []api.KeRec{{Crit: size%2 == 0, Kind: size, Body: long[:size]}}, api.OK)
	}
	for _, size := range []int{1025, 1026, 1280, 2040, 2044, 2045, 2048, 2049, 32767, 32768, 65535, 65536, 65537, 66560, 1 << 17} {
		for _, kind := range kinds() {
			holdWrite(t, []api.KeRec{{Kind: kind, Body: long[:size]}}, api.ErrLong)
			holdWrite(t, []api.KeRec{{Crit: true, Kind: kind, Body: long[:size]}}, api.ErrLong)
		}
	}
}

// filling is records of 1024 bytes each, and one of what is left, that have so many bytes together.
func filling(total int) []api.KeRec {
	var out []api.KeRec
	for total > 1024+4 {
		out = append(out, api.KeRec{Kind: api.KeCookie, Body: drawn(int64(total), 1020)})
		total -= 1024
	}
	return append(out, api.KeRec{Kind: api.KeCookie, Body: drawn(int64(total), total-4)})
}

// P18.1: records that have 2048 bytes together, some fewer, one more and many more, in few and in many records, none of which is too long.
func TestWriteTogether(t *testing.T) {
	for _, total := range []int{4, 5, 1024, 1028, 1032, 1033, 2040, 2043, 2044, 2045, 2046, 2047, 2048, 2049, 2050, 2051, 2052, 2053, 3000, 4096, 65536, 65540, 65536 + 2048, 1 << 17} {
		fault := api.OK
		if total > 2048 {
			fault = api.ErrLong
		}
		if got := holdWrite(t, filling(total), fault); fault == api.OK && len(got) != total {
			t.Errorf("Write of %d bytes together = %d bytes", total, len(got))
		}
	}
	for _, n := range []int{511, 512, 513, 1024, 70000} {
		fault := api.OK
		if n > 512 {
			fault = api.ErrLong
		}
		holdWrite(t, make([]api.KeRec, n), fault)
	}
	holdWrite(t, []api.KeRec{{Body: drawn(1, 1024)}, {Body: drawn(2, 1016)}}, api.OK)
	holdWrite(t, []api.KeRec{{Body: drawn(1, 1024)}, {Body: drawn(2, 1017)}}, api.ErrLong)
	holdWrite(t, []api.KeRec{{Body: drawn(1, 1024)}, {Body: drawn(2, 1012)}, {}}, api.OK)
	holdWrite(t, []api.KeRec{{Body: drawn(1, 1024)}, {Body: drawn(2, 1013)}, {}}, api.ErrLong)
}

// P18.1, rule 0.2: of the first record that has an error, its Kind's is ahead of its Body's; what later ones have is not asked, and what all have together is asked last.
func TestWriteOrder(t *testing.T) {
	fine := api.KeRec{Crit: true, Kind: api.KeAead, Body: "\x00\x0f"}
	full := api.KeRec{Kind: api.KeCookie, Body: drawn(1, 1024)}
	low, high := api.KeRec{Kind: -1}, api.KeRec{Kind: 32768}
	long := api.KeRec{Kind: 1, Body: drawn(2, 1025)}
	both := api.KeRec{Kind: 32768, Body: drawn(2, 1025)}
	for _, c := range []struct {
		l     []api.KeRec
		fault api.Errno
	}{
		{[]api.KeRec{both}, api.ErrNumber},
		{[]api.KeRec{{Kind: -1, Body: drawn(2, 70000)}}, api.ErrNumber},
		{[]api.KeRec{fine, low}, api.ErrNumber},
		{[]api.KeRec{fine, high, fine}, api.ErrNumber},
		{[]api.KeRec{fine, fine, long}, api.ErrLong},
		{[]api.KeRec{long, low}, api.ErrLong},
		{[]api.KeRec{fine, long, fine, high}, api.ErrLong},
		{[]api.KeRec{long, both}, api.ErrLong},
		{[]api.KeRec{low, long}, api.ErrNumber},
		{[]api.KeRec{fine, high, long, fine}, api.ErrNumber},
		{[]api.KeRec{full, full}, api.ErrLong},
		{[]api.KeRec{full, full, low}, api.ErrNumber},
		{[]api.KeRec{full, full, full, fine, high}, api.ErrNumber},
		{[]api.KeRec{full, full, full, long, high}, api.ErrLong},
		{append(make([]api.KeRec, 5000), low), api.ErrNumber},
		{append([]api.KeRec{end()}, low), api.ErrNumber},
		{append([]api.KeRec{end()}, long), api.ErrLong},
	} {
		holdWrite(t, c.l, c.fault)
	}
}

// P18.1: what is told of some records is told of each alone, one behind the other; a KeEnd among them ends nothing.
func TestWriteOneByOne(t *testing.T) {
	l := []api.KeRec{end(), {Kind: 0}, {Kind: 0, Body: "x"}, {Crit: true, Kind: 0, Body: "y"}, end(), {Kind: 99, Body: drawn(3, 300)}, end()}
	var want strings.Builder
	for _, r := range l {
		want.WriteString(holdWrite(t, []api.KeRec{r}, api.OK))
	}
	if got := holdWrite(t, l, api.OK); got != want.String() {
		t.Errorf("Write of %d records = %s; one by one %s", len(l), hexed(got), hexed(want.String()))
	}
}

// P18.1: drawn records, some of which are refused.
func TestWriteDrawn(t *testing.T) {
	for seed := range int64(3000) {
		l := drawnRecords(seed)
		_, e := written(l)
		holdWrite(t, l, e)
	}
}

// drawnRecords are some records that are the same in every run: of all kinds, now and then one that can't be written.
func drawnRecords(seed int64) []api.KeRec {
	r := rand.New(rand.NewSource(seed))
	sizes := []int{0, 0, 1, 2, 4, 16, 100, 255, 256, 500, 1000, 1020, 1024}
	var out []api.KeRec
	for range r.Intn(9) {
		kind, size := r.Intn(9), sizes[r.Intn(len(sizes))]
		switch r.Intn(30) {
		case 0:
			kind = noKinds()[r.Intn(len(noKinds()))]
		case 1:
			size = 1025 + r.Intn(2000)
		case 2, 3, 4:
			kind = kinds()[r.Intn(len(kinds()))]
		}
		out = append(out, api.KeRec{Crit: r.Intn(2) == 0, Kind: kind, Body: drawn(seed, size)})
	}
	return out
}

// FuzzWrite looks for records that are written otherwise than by the chapter's words, or not read as they were.
func FuzzWrite(f *testing.F) {
	f.Add(true, 1, "\x00\x00", false, 4, "\x00\x0f")
	f.Add(true, 0, "", true, 0, "")
	f.Add(false, 32768, "a", false, -1, drawn(1, 1025))
	f.Add(false, 5, drawn(1, 1024), true, 5, drawn(2, 1016))
	f.Add(false, 5, drawn(1, 1024), true, 5, drawn(2, 1013))
	f.Fuzz(func(t *testing.T, crit bool, kind int, body string, crit2 bool, kind2 int, body2 string) {
		l := []api.KeRec{{Crit: crit, Kind: kind, Body: body}, {Crit: crit2, Kind: kind2, Body: body2}}
		_, e := written(l)
		said := holdWrite(t, l, e)
		if e == api.OK {
			_, _, e = read(said)
			holdRead(t, said, e)
		}
		if back, _ := ke.Write(l[:1]); back != "" {
			_, _, e = read(back + body2)
			holdRead(t, back+body2, e)
		}
	})
}
