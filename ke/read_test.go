package ke_test

import (
	"math/rand"
	"slices"
	"strings"
	"testing"

	"pendulum/api"
	"pendulum/ke"
)

// P18.2: the chapter's examples, and other texts, written out.
func TestReadBytes(t *testing.T) {
	long := drawn(1, 1024)
	for _, c := range []struct {
		s, rest string
		want    []api.KeRec
	}{
		{"\x80\x00\x00\x00x", "x", []api.KeRec{{Crit: true}}},
		{"\x80\x00\x00\x00", "", []api.KeRec{{Crit: true}}},
		{"\x80\x01\x00\x02\x00\x00\x80\x04\x00\x02\x00\x0f\x80\x00\x00\x00", "", asked()},
		{"\x00\x01\x00\x00" + endBytes, "", []api.KeRec{{Kind: 1}, end()}},
		{"\x7f\xff\x00\x01\x00" + endBytes + "ab", "ab", []api.KeRec{{Kind: 32767, Body: "\x00"}, end()}},
		{"\xff\xff\x04\x00" + long + endBytes, "", []api.KeRec{{Crit: true, Kind: 32767, Body: long}, end()}},
		{"\x01\x02\x01\x03" + long[:259] + endBytes + long, long, []api.KeRec{{Kind: 258, Body: long[:259]}, end()}},
		{endBytes + endBytes, endBytes, []api.KeRec{end()}},
	} {
		holdRead(t, c.s, api.OK)
		if got, rest, e := ke.Read(c.s); !slices.Equal(got, c.want) || rest != c.rest || e != api.OK {
			t.Errorf("Read of %s = %v, %s, %v; want %v, %s", hexed(c.s), got, hexed(rest), e, c.want, hexed(c.rest))
		}
	}
	holdRead(t, "\x00\x00\x00\x00", api.ErrForm)
	holdRead(t, "", api.ErrShort)
}

// P18.2: each kind that two bytes can tell, with no Body and with one: all are read, but a KeEnd, which is the end only if it is Crit and has none.
func TestReadKinds(t *testing.T) {
	for kind := range 65536 {
		fault, filled := api.OK, api.OK
		switch kind {
		case 0:
			fault, filled = api.ErrForm, api.ErrForm
		case 1 << 15:
			filled = api.ErrForm
		}
		holdRead(t, laid(uint16(kind), 0, endBytes+"x"), fault)
		holdRead(t, laid(uint16(kind), 3, "abc"+endBytes+"x"), filled)
	}
}

// P18.2: each length, of a record that is not Crit, of one that is and of both KeEnds: told as soon as it is there, with no byte behind it, with some, with one fewer than it says, and with all of them.
func TestReadLengths(t *testing.T) {
	behind := drawn(1, 65536)
	for n := range 65536 {
		if n > 1100 && n%37 != 0 && n&(n-1) != 0 && n&(n+1) != 0 {
			continue
		}
		for _, kind := range []uint16{0, 1, 0x7fff, 0x8000, 0x8001, 0xffff} {
			short, whole := api.ErrShort, api.ErrShort // as no end is behind it
			switch {
			case n > 1024:
				short, whole = api.ErrLong, api.ErrLong
			case kind == 0, kind == 0x8000 && n > 0:
				short, whole = api.ErrForm, api.ErrForm
			case kind == 0x8000:
				short, whole = api.OK, api.OK
			}
			holdRead(t, laid(kind, uint16(n), ""), short)
			if n > 0 {
				holdRead(t, laid(kind, uint16(n), behind[:n/2]), short)
				holdRead(t, laid(kind, uint16(n), behind[:n-1]), short)
			}
			holdRead(t, laid(kind, uint16(n), behind[:n]), whole)
			if kind != 0 && kind != 0x8000 && n <= 1024 {
				holdRead(t, laid(kind, uint16(n), behind[:n]+endBytes), api.OK)
				holdRead(t, laid(kind, uint16(n), behind[:n]+endBytes+"a"), api.OK)
			}
		}
	}
}

// P18.2: a text that ends ahead of a length's second byte is short, whatever its bytes are, as only a length that is there can tell more.
func TestReadAheadOfLength(t *testing.T) {
	for _, ahead := range []string{"", "\x00\x01\x00\x02ab", laid(5, 1024, drawn(1, 1024)), laid(5, 1024, drawn(1, 1024)) + laid(5, 1016, drawn(2, 1016))} {
		for first := range 256 {
			b := string([]byte{byte(first)})
			holdRead(t, ahead+b, api.ErrShort)
			holdRead(t, ahead+b+"\x00", api.ErrShort)
			holdRead(t, ahead+"\x80"+b, api.ErrShort)
			holdRead(t, ahead+"\x00\x00"+b, api.ErrShort)
			holdRead(t, ahead+"\x80\x00"+b, api.ErrShort)
			holdRead(t, ahead+"\x80\x01"+b, api.ErrShort)
		}
	}
}

// P18.2: a text of each of its records that ends at every place.
func TestReadEndsAhead(t *testing.T) {
	for _, l := range [][]api.KeRec{
		{end()},
		asked(),
		append(filling(2044), end()),
		append(empties(509), end()),
		{{Kind: 1}, {Kind: 2, Body: "a"}, {Crit: true, Kind: 3, Body: drawn(1, 300)}, {Kind: 4, Body: "\x80\x00\x00\x00"}, end()},
	} {
		s, e := ke.Write(l)
		if e != api.OK {
			t.Fatal(e)
		}
		for n := range len(s) {
			holdRead(t, s[:n], api.ErrShort)
		}
		holdRead(t, s, api.OK)
	}
}

// empties is so many records of no Body.
func empties(n int) []api.KeRec {
	return slices.Repeat([]api.KeRec{{Kind: 1}}, n)
}

// P18.2: records that have 2048 bytes with the end, and one more: told as soon as the length is there that makes them too many, be it the end's or another one's; what is there of its Body makes no difference.
func TestReadTogether(t *testing.T) {
	for total := 1000; total <= 2048; total++ {
		said, e := ke.Write(filling(total))
		if e != api.OK || len(said) != total {
			t.Fatalf("Write = %d bytes, %v; want %d", len(said), e, total)
		}
		fault := api.OK
		if total+4 > 2048 {
			fault = api.ErrLong
		}
		holdRead(t, said, api.ErrShort)
		holdRead(t, said+endBytes[:3], api.ErrShort)
		holdRead(t, said+endBytes, fault)
		holdRead(t, said+endBytes+drawn(1, 3000), fault)
		for _, n := range []int{0, 1, 2, 2048 - total - 5, 2048 - total - 4, 2048 - total - 3, 2048 - total, 1023, 1024} {
			if n < 0 || n > 1024 {
				continue
			}
			fault := api.ErrShort
			if total+4+n > 2048 {
				fault = api.ErrLong
			}
			for _, kind := range []uint16{1, 0x8001, 0x7fff} {
				holdRead(t, said+laid(kind, uint16(n), ""), fault)
				holdRead(t, said+laid(kind, uint16(n), drawn(2, n)), fault)
				holdRead(t, said+laid(kind, uint16(n), drawn(2, n)+endBytes), atEnd(total+4+n))
			}
		}
	}
}

// atEnd is what is told of so many bytes and an end.
func atEnd(total int) api.Errno {
	if total+4 > 2048 {
		return api.ErrLong
	}
	return api.OK
}

// P18.2: very many records of no Body: the 512th may be the end, and is the last one that there may be.
func TestReadMany(t *testing.T) {
	none := "\x00\x09\x00\x00"
	for _, n := range []int{0, 1, 509, 510, 511} {
		holdRead(t, strings.Repeat(none, n), api.ErrShort)
		holdRead(t, strings.Repeat(none, n)+endBytes, api.OK)
		holdRead(t, strings.Repeat(none, n)+endBytes+strings.Repeat(none, n), api.OK)
	}
	holdRead(t, strings.Repeat(none, 512), api.ErrShort)
	holdRead(t, strings.Repeat(none, 512)+none[:3], api.ErrShort)
	for _, n := range []int{512, 513, 600, 100000} {
		holdRead(t, strings.Repeat(none, n)+endBytes, api.ErrLong)
	}
}

// P18.2, rule 0.2: which error is first where a record has several: its length above 1024, or all together too long, ahead of a KeEnd's form, and that ahead of a Body that is not there. A record ahead of it tells its own first; and one behind the end tells nothing.
func TestReadOrder(t *testing.T) {
	full := laid(5, 1024, drawn(1, 1024))
	for _, c := range []struct {
		s     string
		fault api.Errno
	}{
		{"\x00\x00\x04\x01", api.ErrLong},
		{"\x80\x00\x04\x01", api.ErrLong},
		{"\x00\x00\xff\xff", api.ErrLong},
		{"\x00\x00\x04\x00", api.ErrForm},
		{"\x80\x00\x04\x00", api.ErrForm},
		{"\x80\x00\x00\x01", api.ErrForm},
		{"\x80\x00\x00\x01a", api.ErrForm},
		{"\x00\x00\x00\x01", api.ErrForm},
		{"\x00\x00\x00\x01a", api.ErrForm},
		{full + "\x80\x00\x03\xf8", api.ErrForm},
		{full + "\x80\x00\x03\xf9", api.ErrLong},
		{full + "\x00\x00\x03\xf8", api.ErrForm},
		{full + "\x00\x00\x03\xf9", api.ErrLong},
		{full + "\x80\x00\x03\xf9" + drawn(2, 1017), api.ErrLong},
		{full + laid(5, 1012, drawn(2, 1012)) + "\x00\x00\x00\x00", api.ErrForm},
		{full + laid(5, 1013, drawn(2, 1013)) + "\x00\x00\x00\x00", api.ErrLong},
		{full + laid(5, 1013, drawn(2, 1013)) + endBytes, api.ErrLong},
		{"\x00\x01\x04\x01" + endBytes, api.ErrLong},
		{"\x00\x01\x00\x05" + endBytes, api.ErrShort},
		{"\x00\x01\x00\x04" + endBytes, api.ErrShort},
		{"\x00\x00\x00\x00\x00\x01\x04\x01", api.ErrForm},
		{"\x00\x00\x00\x00" + endBytes, api.ErrForm},
		{"\x00\x01\x04\x01\x00\x00\x00\x00", api.ErrLong},
		{"\x00\x01\x00\x01a\x00\x00\x00\x00", api.ErrForm},
		{endBytes + "\x00\x00\x00\x00", api.OK},
		{endBytes + "\x00\x01\x04\x01", api.OK},
		{endBytes + full + full + full, api.OK},
	} {
		holdRead(t, c.s, c.fault)
	}
}

// P18.2: what stands behind the end is told as it is, whatever it is and however much.
func TestReadBehind(t *testing.T) {
	said, _ := ke.Write(asked())
	full, _ := ke.Write(append(filling(2044), end()))
	for _, ahead := range []string{endBytes, said, full} {
		for _, behind := range []string{"", "\x00", "\x80", "\x80\x00", "\x80\x00\x00", endBytes, "\x00\x00\x00\x00", "\xff\xff\xff\xff", said, full, drawn(1, 2048), drawn(1, 100000)} {
			holdRead(t, ahead+behind, api.OK)
			if _, rest, _ := ke.Read(ahead + behind); rest != behind {
				t.Errorf("Read of %s and %d bytes behind it = %d bytes behind", hexed(ahead), len(behind), len(rest))
			}
		}
	}
}

// Rule 0.5: what Read has told is its caller's: who changes it changes nothing of what is told later.
func TestReadIsNewMemory(t *testing.T) {
	said, _ := ke.Write(asked())
	first, _, _ := ke.Read(said)
	for i := range first {
		first[i] = api.KeRec{Kind: 99, Body: "gone"}
	}
	if second, _, e := ke.Read(said); !slices.Equal(second, asked()) || e != api.OK {
		t.Errorf("Read again = %v, %v", second, e)
	}
}

// P18.2: drawn texts: records as they are, with bytes put in, taken off and changed.
func TestReadDrawn(t *testing.T) {
	for seed := range int64(8000) {
		s := drawnText(seed)
		_, _, e := read(s)
		holdRead(t, s, e)
	}
}

// drawnText is a text that is the same in every run, and is mostly records.
func drawnText(seed int64) string {
	r := rand.New(rand.NewSource(seed))
	s := drawn(seed, r.Intn(40))
	if r.Intn(10) > 0 {
		l := slices.DeleteFunc(drawnRecords(seed), func(r api.KeRec) bool { return r.Kind <= 0 || r.Kind > 32767 || len(r.Body) > 1024 })
		s, _ = ke.Write(append(l, end()))
	}
	for range r.Intn(3) {
		i := r.Intn(len(s) + 1)
		switch r.Intn(3) {
		case 0:
			s = s[:i] + drawn(seed+1, r.Intn(5)) + s[i:]
		case 1:
			s = s[:i]
		case 2:
			s = s[:i] + drawn(seed+2, 1) + s[min(i+1, len(s)):]
		}
	}
	return s + drawn(seed+3, r.Intn(3))
}

// FuzzRead looks for texts that are read otherwise than by the chapter's words, or are not what Write writes.
func FuzzRead(f *testing.F) {
	f.Add("")
	f.Add("\x80\x00\x00\x00x")
	f.Add("\x00\x00\x00\x00")
	f.Add("\x80\x01\x00\x02\x00\x00\x80\x04\x00\x02\x00\x0f\x80\x00\x00\x00")
	f.Add("\x00\x01\x04\x00" + drawn(1, 1024) + "\x00\x01\x03\xf4" + drawn(2, 1012) + endBytes)
	f.Add("\x00\x01\x04\x00" + drawn(1, 1024) + "\x00\x01\x03\xf9")
	f.Fuzz(func(t *testing.T, s string) {
		_, _, e := read(s)
		holdRead(t, s, e)
		if l, rest, e := ke.Read(s); e == api.OK {
			if back := holdWrite(t, l, api.OK); back+rest != s {
				t.Errorf("Write of Read of %s = %s, and %s behind", hexed(s), hexed(back), hexed(rest))
			}
		}
	})
}
