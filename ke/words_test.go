package ke_test

import (
	"bytes"
	"encoding/binary"
	"encoding/hex"
	"io"
	"math"
	"math/rand"
	"slices"
	"testing"

	"pendulum/api"
	"pendulum/ke"
)

// What the chapter's words say, made anew by Go's own library: the tests hold the program against it.

// headed is what stands ahead of a Body, whatever the numbers.
type headed struct {
	Kind, Size uint16
}

// drawn is a text that is the same in every run.
func drawn(seed int64, size int) string {
	out := make([]byte, size)
	rand.New(rand.NewSource(seed)).Read(out)
	return string(out)
}

func hexed(s string) string {
	if len(s) > 60 {
		return hex.EncodeToString([]byte(s[:60])) + ".."
	}
	return hex.EncodeToString([]byte(s))
}

// laid is a kind with its Crit, and a length, as they stand, with what is behind them.
func laid(kind, size uint16, behind string) string {
	var out bytes.Buffer
	binary.Write(&out, binary.BigEndian, headed{kind, size})
	return out.String() + behind
}

// end is the record behind which nothing is read.
func end() api.KeRec {
	return api.KeRec{Crit: true, Kind: api.KeEnd}
}

const endBytes = "\x80\x00\x00\x00"

// kinds are those of records, at all edges.
func kinds() []int {
	return []int{0, 1, 2, 3, 4, 5, 6, 7, 8, 9, 127, 128, 255, 256, 257, 1000, 16383, 16384, 32766, 32767}
}

// noKinds are numbers that are none, also such as have one's lowest bits.
func noKinds() []int {
	return []int{math.MinInt, math.MinInt32, -65536, -65535, -32769, -32768, -32767, -256, -8, -2, -1,
		32768, 32769, 32776, 65535, 65536, 65537, 98304, 1 << 31, 1<<32 + 1, 1 << 48, math.MaxInt}
}

// written is what Write has to tell, by the chapter's words.
func written(l []api.KeRec) (string, api.Errno) {
	var out bytes.Buffer
	for _, r := range l {
		switch {
		case r.Kind != r.Kind&0x7fff:
			return "", api.ErrNumber
		case len(r.Body) > 1024:
			return "", api.ErrLong
		}
		kind := uint16(r.Kind)
		if r.Crit {
			kind |= 1 << 15
		}
		binary.Write(&out, binary.BigEndian, headed{kind, uint16(len(r.Body))})
		out.WriteString(r.Body)
	}
	if out.Len() > 2048 {
		return "", api.ErrLong
	}
	return out.String(), api.OK
}

// read is what Read has to tell, by the chapter's words.
func read(s string) ([]api.KeRec, string, api.Errno) {
	var out []api.KeRec
	in := bytes.NewReader([]byte(s))
	for {
		var h headed
		if binary.Read(in, binary.BigEndian, &h) != nil {
			return nil, "", api.ErrShort
		}
		switch together := len(s) - in.Len() + int(h.Size); {
		case h.Size > 1024, together > 2048:
			return nil, "", api.ErrLong
		case h.Kind == 0, h.Kind == 1<<15 && h.Size != 0:
			return nil, "", api.ErrForm
		}
		body := make([]byte, h.Size)
		if _, err := io.ReadFull(in, body); err != nil {
			return nil, "", api.ErrShort
		}
		out = append(out, api.KeRec{Crit: h.Kind>>15 == 1, Kind: int(h.Kind & 0x7fff), Body: string(body)})
		if h.Kind == 1<<15 {
			rest, _ := io.ReadAll(in)
			return out, string(rest), api.OK
		}
	}
}

// paired is what Pairs has to tell, by the chapter's words.
func paired(l []int) (string, api.Errno) {
	if len(l) > 512 {
		return "", api.ErrMany
	}
	var out []byte
	for _, n := range l {
		if n != int(uint16(n)) {
			return "", api.ErrNumber
		}
		out = binary.BigEndian.AppendUint16(out, uint16(n))
	}
	return string(out), api.OK
}

// unpaired is what ToPairs has to tell, by the chapter's words.
func unpaired(s string) ([]int, api.Errno) {
	switch {
	case len(s)&1 == 1:
		return nil, api.ErrForm
	case len(s) > 1024:
		return nil, api.ErrLong
	}
	numbers := make([]uint16, len(s)/2)
	binary.Read(bytes.NewReader([]byte(s)), binary.BigEndian, numbers)
	var out []int
	for _, n := range numbers {
		out = append(out, int(n))
	}
	return out, api.OK
}

// holdWrite says that Write tells what the chapter's words say, and with which error; and that it leaves the list as it was (rule 0.5).
func holdWrite(t testing.TB, l []api.KeRec, fault api.Errno) string {
	t.Helper()
	want, e := written(l)
	if e != fault {
		t.Fatalf("the words of %d records: %v; want %v", len(l), e, fault)
	}
	was := slices.Clone(l)
	got, e := ke.Write(l)
	if got != want || e != fault {
		t.Errorf("Write of %d records = %d bytes, %s, %v; want %d, %s, %v", len(l), len(got), hexed(got), e, len(want), hexed(want), fault)
	}
	if !slices.Equal(l, was) {
		t.Errorf("Write changed its %d records", len(l))
	}
	return got
}

// holdRead says that Read tells what the chapter's words say, and with which error.
func holdRead(t testing.TB, s string, fault api.Errno) {
	t.Helper()
	want, behind, e := read(s)
	if e != fault {
		t.Fatalf("the words of %d bytes, %s: %v; want %v", len(s), hexed(s), e, fault)
	}
	got, rest, e := ke.Read(s)
	if !slices.Equal(got, want) || rest != behind || e != fault {
		t.Errorf("Read of %d bytes, %s = %d records, %d bytes behind, %v; want %d, %d, %v", len(s), hexed(s), len(got), len(rest), e, len(want), len(behind), fault)
	}
}

// holdPairs says that Pairs tells what the chapter's words say, and with which error; and that it leaves the list as it was (rule 0.5).
func holdPairs(t testing.TB, l []int, fault api.Errno) string {
	t.Helper()
	want, e := paired(l)
	if e != fault {
		t.Fatalf("the words of %d numbers: %v; want %v", len(l), e, fault)
	}
	was := slices.Clone(l)
	got, e := ke.Pairs(l)
	if got != want || e != fault {
		t.Errorf("Pairs of %d numbers = %s, %v; want %s, %v", len(l), hexed(got), e, hexed(want), fault)
	}
	if !slices.Equal(l, was) {
		t.Errorf("Pairs changed its %d numbers", len(l))
	}
	return got
}

// holdToPairs says that ToPairs tells what the chapter's words say, and with which error.
func holdToPairs(t testing.TB, s string, fault api.Errno) {
	t.Helper()
	want, e := unpaired(s)
	if e != fault {
		t.Fatalf("the words of %d bytes: %v; want %v", len(s), e, fault)
	}
	if got, e := ke.ToPairs(s); !slices.Equal(got, want) || e != fault {
		t.Errorf("ToPairs of %d bytes, %s = %v, %v; want %v, %v", len(s), hexed(s), got, e, want, fault)
	}
}
