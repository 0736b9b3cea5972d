package ke_test

import (
	"slices"
	"testing"

	"pendulum/api"
	"pendulum/ke"
)

// rows are records of which the last one alone is a KeEnd, Crit, without a Body, and which Write takes.
func rows() [][]api.KeRec {
	out := [][]api.KeRec{
		{end()},
		asked(),
		answered(),
		append(empties(511), end()),
		append(filling(2044), end()),
		append(filling(2043), end()),
		{{Kind: 1, Body: endBytes}, {Crit: true, Kind: 32767, Body: "\x00\x00\x00\x00"}, end()},
	}
	for seed := range int64(2000) {
		l := slices.DeleteFunc(drawnRecords(seed), func(r api.KeRec) bool { return r.Kind == api.KeEnd })
		l = append(l, end())
		if _, e := written(l); e == api.OK {
			out = append(out, l)
		}
	}
	return out
}

// P18.5: Read of Write of records of which the last one alone is the end, with anything behind, is them, and that.
func TestThereAndBack(t *testing.T) {
	for i, l := range rows() {
		s, e := ke.Write(l)
		if e != api.OK {
			t.Fatalf("Write of %d records: %v", len(l), e)
		}
		for _, behind := range []string{"", "\x00", endBytes, "\x00\x00\x00\x00", "\xff\xff\xff\xff", s, drawn(int64(i), 50), drawn(int64(i), 3000)} {
			if got, rest, e := ke.Read(s + behind); !slices.Equal(got, l) || rest != behind || e != api.OK {
				t.Errorf("Read of Write of %d records, %d bytes behind = %d records, %d bytes behind, %v", len(l), len(behind), len(got), len(rest), e)
			}
		}
	}
}

// P18.5: what is read is written as it stood.
func TestBackAndThere(t *testing.T) {
	whole := 0
	for seed := range int64(8000) {
		s := drawnText(seed)
		l, rest, e := ke.Read(s)
		if e != api.OK {
			continue
		}
		whole++
		if back, f := ke.Write(l); back+rest != s || f != api.OK {
			t.Errorf("Write of Read of %s = %s, %v, and %s behind", hexed(s), hexed(back), f, hexed(rest))
		}
	}
	if whole < 1000 {
		t.Errorf("only %d drawn texts were read", whole)
	}
}

// P18.6: what Read tells, an error other than ErrShort too, does not hang on what stands behind what it has read; of each beginning of that it tells ErrShort.
func TestBehindMakesNoDifference(t *testing.T) {
	for seed := range int64(3000) {
		s := drawnText(seed)
		l, rest, e := ke.Read(s)
		if e == api.ErrShort {
			continue
		}
		for _, more := range []string{"\x00", "\xff", endBytes, drawn(seed, 100), drawn(seed, 2100)} {
			want := rest + more
			if e != api.OK {
				want = ""
			}
			if got, behind, f := ke.Read(s + more); !slices.Equal(got, l) || behind != want || f != e {
				t.Errorf("Read of %s = %d records, %v; with %s behind %d, %v", hexed(s), len(l), e, hexed(more), len(got), f)
			}
		}
	}
	for _, l := range rows()[:200] {
		s, _ := ke.Write(l)
		for n := range len(s) {
			if got, rest, e := ke.Read(s[:n]); got != nil || rest != "" || e != api.ErrShort {
				t.Fatalf("Read of the first %d of %d bytes = %d records, %d bytes behind, %v", n, len(s), len(got), len(rest), e)
			}
		}
	}
}

// P18.6: once a beginning of a text is told to be wrong, or whole, it is so however it goes on: a text told byte by byte is short up to one place, and the same from there on.
func TestReadByteByByte(t *testing.T) {
	for seed := range int64(2000) {
		s := drawnText(seed)
		settled := api.ErrShort
		for n := range len(s) + 1 {
			_, _, e := ke.Read(s[:n])
			if settled != api.ErrShort && e != settled {
				t.Fatalf("Read of the first %d bytes of %s = %v; of fewer %v", n, hexed(s), e, settled)
			}
			settled = e
		}
	}
}

// P18.1 to P18.4 hold for all who call at once: nothing is kept from call to call.
func TestAtOnce(t *testing.T) {
	for i := range 8 {
		t.Run("", func(t *testing.T) {
			t.Parallel()
			for seed := range int64(300) {
				s := drawnText(seed + int64(i))
				_, _, e := read(s)
				holdRead(t, s, e)
				l := drawnRecords(seed + int64(i))
				_, e = written(l)
				holdWrite(t, l, e)
			}
		})
	}
}

func BenchmarkWrite(b *testing.B) {
	l := append(filling(2044), end())
	for b.Loop() {
		ke.Write(l)
	}
}

func BenchmarkRead(b *testing.B) {
	s, _ := ke.Write(append(empties(511), end()))
	for b.Loop() {
		ke.Read(s)
	}
}
