package der_test

import (
	"crypto/x509"
	"encoding/asn1"
	"math"
	"math/big"
	"math/rand"
	"slices"
	"strings"
	"testing"

	"pendulum/api"
	"pendulum/der"
)

const (
	all     = math.MaxUint64
	mostOid = 16
)

var top = api.Num{all, all, all, all}

// valueOf is a number by the library's arithmetic.
func valueOf(n api.Num) *big.Int {
	v := new(big.Int)
	for k := len(n) - 1; k >= 0; k-- {
		v.Lsh(v, 64).Or(v, new(big.Int).SetUint64(n[k]))
	}
	return v
}

// numOf is a number below 2^256 of the library's.
func numOf(v *big.Int) api.Num {
	var n api.Num
	for i := range 256 {
		n[i/64] |= uint64(v.Bit(i)) << (i % 64)
	}
	return n
}

// nums are numbers of all lengths, and those around each power of 2.
func nums() []api.Num {
	out := []api.Num{{}, {1}, {10}, {127}, {128}, {200}, {255}, {256}, {257}, {32767}, {32768}, {65535}, {65536}, top}
	for i := range 257 {
		p := new(big.Int).Lsh(big.NewInt(1), uint(i))
		if i < 256 {
			out = append(out, numOf(p))
		}
		out = append(out, numOf(p.Sub(p, big.NewInt(1))))
	}
	r := rand.New(rand.NewSource(1))
	for range 500 {
		out = append(out, numOf(new(big.Int).Rand(r, new(big.Int).Lsh(big.NewInt(1), uint(1+r.Intn(256))))))
	}
	return out
}

func mustToInt(t testing.TB, s string, want api.Num) {
	t.Helper()
	if n, e := der.ToInt(s); n != want || e != api.OK {
		t.Fatalf("ToInt(%s) = %v, %v; want %v", hexed(s), n, e, want)
	}
}

func mustNotToInt(t testing.TB, s string, want api.Errno) {
	t.Helper()
	if n, e := der.ToInt(s); n != (api.Num{}) || e != want {
		t.Fatalf("ToInt(%s) = %v, %v; want 0, %v", hexed(s), n, e, want)
	}
}

// P11.3: numbers written out, there and back.
func TestInt(t *testing.T) {
	for _, c := range []struct {
		n api.Num
		s string
	}{
		{api.Num{}, "00"}, {api.Num{1}, "01"}, {api.Num{127}, "7f"}, {api.Num{128}, "00 80"}, {api.Num{200}, "00 c8"}, {api.Num{255}, "00 ff"},
		{api.Num{256}, "01 00"}, {api.Num{32767}, "7f ff"}, {api.Num{32768}, "00 80 00"}, {api.Num{65536}, "01 00 00"},
		{api.Num{0, 1}, "01 00 00 00 00 00 00 00 00"},
		{api.Num{0, 0, 0, 1 << 62}, "40" + strings.Repeat("00", 31)},
		{api.Num{0, 0, 0, 1 << 63}, "00 80" + strings.Repeat("00", 31)},
		{api.Num{all, all, all, all >> 1}, "7f" + strings.Repeat("ff", 31)},
		{api.Num{all, all, all, all >> 8}, "00" + strings.Repeat("ff", 31)},
		{top, "00" + strings.Repeat("ff", 32)},
	} {
		if s := der.Int(c.n); s != unhexed(t, c.s) {
			t.Errorf("Int(%v) = %s, want %s", c.n, hexed(s), c.s)
		}
		mustToInt(t, unhexed(t, c.s), c.n)
	}
}

// P11.3, P11.6: numbers of all lengths are written as Go's own library writes them, and read as they were.
func TestIntLikeTheLibrary(t *testing.T) {
	for _, n := range nums() {
		s := der.Int(n)
		want, err := asn1.Marshal(valueOf(n))
		if err != nil {
			t.Fatal(err)
		}
		if got := mustWrite(t, api.Tlv{Tag: api.TagInt, Body: s}); got != string(want) {
			t.Errorf("Int(%v) = %s, the library's with its tag is %s", n, hexed(s), hexed(string(want)))
		}
		mustToInt(t, s, n)
	}
}

// P11.3: what is no number: none, below 0, a byte 0 too many, too great; and which of them is told.
func TestToIntFaults(t *testing.T) {
	for _, c := range []struct {
		name, s string
		e       api.Errno
	}{
		{"no byte", "", api.ErrShort},
		{"128", "80", api.ErrForm},
		{"255", "ff", api.ErrForm},
		{"128 and more", "80 00 00", api.ErrForm},
		{"two bytes 0", "00 00", api.ErrForm},
		{"a byte 0 ahead of 1", "00 01", api.ErrForm},
		{"a byte 0 ahead of 127", "00 7f", api.ErrForm},
		{"two bytes 0 ahead of 128", "00 00 80", api.ErrForm},
		{"a byte 0 ahead of 31 others", "00 7f" + strings.Repeat("ff", 30), api.ErrForm},
		{"a byte 0 ahead of 32 others", "00 7f" + strings.Repeat("ff", 31), api.ErrForm},
		{"a first byte above 127 of 32", "80" + strings.Repeat("00", 31), api.ErrForm},
		{"a first byte above 127 of 33", "80" + strings.Repeat("00", 32), api.ErrForm},
		{"a first byte above 127 of 100", "ff" + strings.Repeat("00", 99), api.ErrForm},
		{"a byte 0 too many of 100", "00 7f" + strings.Repeat("00", 98), api.ErrForm},
		{"100 bytes 0", strings.Repeat("00", 100), api.ErrForm},
		{"2^256", "01" + strings.Repeat("00", 32), api.ErrNumber},
		{"2^263 less 1", "7f" + strings.Repeat("ff", 32), api.ErrNumber},
		{"2^263", "00 80" + strings.Repeat("00", 32), api.ErrNumber},
		{"34 bytes", "00 ff" + strings.Repeat("ff", 32), api.ErrNumber},
		{"100 bytes", "01" + strings.Repeat("00", 99), api.ErrNumber},
	} {
		if n, e := der.ToInt(unhexed(t, c.s)); n != (api.Num{}) || e != c.e {
			t.Errorf("%s: ToInt = %v, %v; want 0, %v", c.name, n, e, c.e)
		}
	}
	mustNotToInt(t, "\x01"+strings.Repeat("\x00", 1<<20), api.ErrNumber)
}

// checkToInt holds one text against Go's own library, which takes numbers below 0 too, and of any length.
func checkToInt(t testing.TB, s string) {
	t.Helper()
	var v *big.Int
	text := append([]byte(head(2, min(len(s), mostBytes))), s[:min(len(s), mostBytes)]...)
	_, err := asn1.Unmarshal(text, &v)
	switch {
	case s == "":
		mustNotToInt(t, s, api.ErrShort)
	case err != nil || v.Sign() < 0:
		mustNotToInt(t, s, api.ErrForm)
	case v.BitLen() > 256:
		mustNotToInt(t, s, api.ErrNumber)
	default:
		mustToInt(t, s, numOf(v))
		if n, _ := der.ToInt(s); der.Int(n) != s {
			t.Fatalf("Int of ToInt(%s) = %s", hexed(s), hexed(der.Int(n)))
		}
	}
}

// P11.3, P11.6: all texts of up to two bytes, and longer ones of all lengths: what is read is written as it stood.
func TestToIntLikeTheLibrary(t *testing.T) {
	checkToInt(t, "")
	for a := range 256 {
		checkToInt(t, bytesOf(a))
		for b := range 256 {
			checkToInt(t, bytesOf(a, b))
		}
	}
	for size := range 40 {
		for _, first := range []string{"\x00\x00", "\x00\x7f", "\x00\x80", "\x00\xff", "\x01\x00", "\x7f\xff", "\x80\x00", "\xff\xff"} {
			for i := range int64(4) {
				checkToInt(t, first+drawn(i, size))
			}
		}
	}
}

// oidText is what a row of numbers stands as, by the chapter's words; the digits are the library's, of base 2.
func oidText(l []uint32) string {
	out := bytesOf(int(40*l[0] + l[1]))
	for _, n := range l[2:] {
		bits := big.NewInt(int64(n)).Text(2)
		bits = strings.Repeat("0", (7-len(bits)%7)%7) + bits
		for ; len(bits) > 7; bits = bits[7:] {
			v, _ := new(big.Int).SetString("1"+bits[:7], 2)
			out += bytesOf(int(v.Int64()))
		}
		v, _ := new(big.Int).SetString(bits, 2)
		out += bytesOf(int(v.Int64()))
	}
	return out
}

// oids are rows of all lengths, with numbers at which the form turns.
func oids() [][]uint32 {
	turns := []uint32{0, 1, 39, 40, 126, 127, 128, 129, 255, 256, 840, 10045, 16383, 16384, 16385, 1<<21 - 1, 1 << 21, 1<<28 - 1, 1 << 28, 1<<31 - 1, 1 << 31, math.MaxUint32 - 1, math.MaxUint32}
	var out [][]uint32
	for first := range uint32(3) {
		for second := range uint32(48) {
			if first == 2 || second < 40 {
				out = append(out, []uint32{first, second}, []uint32{first, second, first, second})
			}
		}
	}
	for i, a := range turns {
		out = append(out, []uint32{1, 2, a}, []uint32{2, 47, a, a})
		for _, b := range turns {
			out = append(out, []uint32{0, 39, a, b})
		}
		for n := 2; n <= mostOid; n++ {
			out = append(out, append([]uint32{1, 3}, slices.Concat(turns[i:], turns[:i])[:n-2]...))
		}
	}
	return out
}

func mustOid(t testing.TB, l []uint32) string {
	t.Helper()
	s, e := der.Oid(l)
	if want := oidText(l); s != want || e != api.OK {
		t.Fatalf("Oid(%v) = %s, %v; want %s", l, hexed(s), e, hexed(want))
	}
	return s
}

func mustToOid(t testing.TB, s string, want []uint32) {
	t.Helper()
	if l, e := der.ToOid(s); !slices.Equal(l, want) || e != api.OK {
		t.Fatalf("ToOid(%s) = %v, %v; want %v", hexed(s), l, e, want)
	}
}

func mustNotToOid(t testing.TB, s string, want api.Errno) {
	t.Helper()
	if l, e := der.ToOid(s); len(l) != 0 || e != want {
		t.Fatalf("ToOid(%s) = %v, %v; want none, %v", hexed(s), l, e, want)
	}
}

// P11.4: rows written out, there and back.
func TestOid(t *testing.T) {
	for _, c := range []struct {
		l []uint32
		s string
	}{
		{[]uint32{1, 2, 840, 10045}, "2a 86 48 ce 3d"},
		{[]uint32{1, 2, 840, 10045, 4, 3, 2}, "2a 86 48 ce 3d 04 03 02"},
		{[]uint32{2, 5, 29, 17}, "55 1d 11"},
		{[]uint32{0, 0}, "00"}, {[]uint32{0, 39}, "27"}, {[]uint32{1, 0}, "28"}, {[]uint32{1, 39}, "4f"}, {[]uint32{2, 0}, "50"},
		{[]uint32{2, 39}, "77"}, {[]uint32{2, 40}, "78"}, {[]uint32{2, 47}, "7f"},
		{[]uint32{0, 0, 0}, "00 00"}, {[]uint32{0, 0, 0, 0}, "00 00 00"},
		{[]uint32{1, 2, 127}, "2a 7f"}, {[]uint32{1, 2, 128}, "2a 81 00"}, {[]uint32{1, 2, 129}, "2a 81 01"},
		{[]uint32{1, 2, 16383}, "2a ff 7f"}, {[]uint32{1, 2, 16384}, "2a 81 80 00"},
		{[]uint32{1, 2, 1<<28 - 1}, "2a ff ff ff 7f"}, {[]uint32{1, 2, 1 << 28}, "2a 81 80 80 80 00"},
		{[]uint32{1, 2, math.MaxUint32}, "2a 8f ff ff ff 7f"}, {[]uint32{1, 2, math.MaxUint32, 0}, "2a 8f ff ff ff 7f 00"},
	} {
		if s, e := der.Oid(c.l); s != unhexed(t, c.s) || e != api.OK {
			t.Errorf("Oid(%v) = %s, %v; want %s", c.l, hexed(s), e, c.s)
		}
		mustToOid(t, unhexed(t, c.s), c.l)
	}
}

// P11.4, P11.6: rows of all lengths are written as the words and Go's own library say, and read as they were.
func TestOidLikeTheLibrary(t *testing.T) {
	for _, l := range oids() {
		s := mustOid(t, l)
		wide := make([]uint64, len(l))
		for i, n := range l {
			wide[i] = uint64(n)
		}
		id, err := x509.OIDFromInts(wide)
		if err != nil {
			t.Fatal(err)
		}
		if want, _ := id.MarshalBinary(); s != string(want) {
			t.Errorf("Oid(%v) = %s, the library says %s", l, hexed(s), hexed(string(want)))
		}
		mustToOid(t, s, l)
	}
}

// P11.4: what Oid refuses, and in which order.
func TestOidFaults(t *testing.T) {
	wrong := func(n int, first ...uint32) []uint32 { return append(first, make([]uint32, n-len(first))...) }
	for _, c := range []struct {
		l []uint32
		e api.Errno
	}{
		{nil, api.ErrShort}, {[]uint32{}, api.ErrShort}, {[]uint32{0}, api.ErrShort}, {[]uint32{1}, api.ErrShort}, {[]uint32{3}, api.ErrShort},
		{wrong(16, 1, 2), api.OK}, {wrong(17, 1, 2), api.ErrMany}, {wrong(18, 1, 2), api.ErrMany}, {wrong(1000, 1, 2), api.ErrMany},
		{wrong(17, 3, 0), api.ErrMany}, {wrong(17, 1, 40), api.ErrMany}, {wrong(17, 2, 48), api.ErrMany},
		{[]uint32{2, 0}, api.OK}, {[]uint32{3, 0}, api.ErrNumber}, {[]uint32{3, 7, 1}, api.ErrNumber}, {[]uint32{4, 0}, api.ErrNumber}, {[]uint32{math.MaxUint32, 0}, api.ErrNumber},
		{[]uint32{0, 39}, api.OK}, {[]uint32{0, 40}, api.ErrNumber}, {[]uint32{0, 47}, api.ErrNumber}, {[]uint32{1, 39}, api.OK}, {[]uint32{1, 40}, api.ErrNumber},
		{[]uint32{1, 47}, api.ErrNumber}, {[]uint32{0, 128}, api.ErrNumber}, {[]uint32{0, 256}, api.ErrNumber}, {[]uint32{0, math.MaxUint32}, api.ErrNumber}, {[]uint32{1, math.MaxUint32 - 39}, api.ErrNumber},
		{[]uint32{2, 40}, api.OK}, {[]uint32{2, 47}, api.OK}, {[]uint32{2, 48}, api.ErrNumber}, {[]uint32{2, 999, 3}, api.ErrNumber}, {[]uint32{2, math.MaxUint32}, api.ErrNumber},
		{[]uint32{1, 2, 40}, api.OK}, {[]uint32{1, 2, 48}, api.OK}, {[]uint32{1, 2, math.MaxUint32}, api.OK},
	} {
		s, e := der.Oid(c.l)
		if e != c.e || e != api.OK && s != "" {
			t.Errorf("Oid(%v) = %s, %v; want %v", c.l, hexed(s), e, c.e)
		}
	}
}

// P11.4: what ToOid refuses, and which of two faults, from the left.
func TestToOidFaults(t *testing.T) {
	full := "2a" + strings.Repeat("01", 14) // 16 numbers
	for _, c := range []struct {
		name, s string
		e       api.Errno
	}{
		{"no byte", "", api.ErrShort},
		{"a last byte above 127", "2a 81", api.ErrShort},
		{"a last byte of 255", "2a 03 ff", api.ErrShort},
		{"a last byte above 127 behind more of its number", "2a 86 c8", api.ErrShort},
		{"a first byte of 128", "80 01", api.ErrForm},
		{"a first byte of 129", "81 00", api.ErrForm},
		{"a first byte of 255", "ff", api.ErrForm},
		{"a first byte of 128 alone", "80", api.ErrForm},
		{"a number that begins with 128", "2a 80 01", api.ErrForm},
		{"a number that begins with 128, as 0", "2a 80 00", api.ErrForm},
		{"a later number that begins with 128", "2a 86 48 80 01", api.ErrForm},
		{"a number that begins with 128 and ends there", "2a 80", api.ErrForm},
		{"128 at the first, and short", "80 81", api.ErrForm},
		{"2^32", "2a 90 80 80 80 00", api.ErrNumber},
		{"2^35 less 1", "2a ff ff ff ff 7f", api.ErrNumber},
		{"2^35", "2a 81 80 80 80 80 00", api.ErrNumber},
		{"2^32 behind others", "2a 03 04 90 80 80 80 00 05", api.ErrNumber},
		{"2^32, which does not end", "2a 90 80 80 80 80", api.ErrNumber},
		{"2^64 and more", "2a 83 80 80 80 80 80 80 80 80 00", api.ErrNumber},
		{"2^70", "2a 81 80 80 80 80 80 80 80 80 80 00", api.ErrNumber},
		{"a great one that has not got there when the text ends", "2a 90 80 80 80", api.ErrShort},
		{"17 numbers", full + "01", api.ErrMany},
		{"17 numbers, the last one great", full + "8f ff ff ff 7f", api.ErrMany},
		{"100 numbers", full + strings.Repeat("01", 84), api.ErrMany},
		{"16 numbers, and one that does not end", full + "81", api.ErrShort},
		{"16 numbers, and one that begins with 128", full + "80 01", api.ErrForm},
		{"16 numbers, and 2^32", full + "90 80 80 80 00", api.ErrNumber},
		{"17 numbers, and one that does not end", full + "01 81", api.ErrMany},
		{"17 numbers, and one that begins with 128", full + "01 80 01", api.ErrMany},
		{"17 numbers, and 2^32", full + "01 90 80 80 80 00", api.ErrMany},
		{"128 ahead of 2^32", "2a 80 01 90 80 80 80 00", api.ErrForm},
		{"2^32 ahead of 128", "2a 90 80 80 80 00 80 01", api.ErrNumber},
		{"128 ahead of a number that does not end", "2a 80 01 81", api.ErrForm},
		{"2^32 ahead of a number that does not end", "2a 90 80 80 80 00 81", api.ErrNumber},
		{"a first byte above 127 ahead of all others", "ff 90 80 80 80 00 80 01" + full + "81", api.ErrForm},
	} {
		if l, e := der.ToOid(unhexed(t, c.s)); len(l) != 0 || e != c.e {
			t.Errorf("%s: ToOid(%s) = %v, %v; want none, %v", c.name, c.s, l, e, c.e)
		}
	}
	mustToOid(t, unhexed(t, full), append([]uint32{1, 2}, slices.Repeat([]uint32{1}, 14)...))
	mustNotToOid(t, "\x2a"+strings.Repeat("\xff", 1<<20), api.ErrNumber)
	mustNotToOid(t, strings.Repeat("\x01", 1<<20), api.ErrMany)
}

// fault is an error, and the place in a text up to which one has to read to see it.
type fault struct {
	place int
	e     api.Errno
}

// oidFaults are all faults of a text, in the order in which the chapter names them.
func oidFaults(s string) []fault {
	var out, forms, greats, many []fault
	if s == "" || s[len(s)-1] > 127 {
		out = append(out, fault{len(s), api.ErrShort})
	}
	value, whole := new(big.Int), 1
	for i := range len(s) {
		if i == 0 {
			if s[0] > 127 {
				forms = append(forms, fault{0, api.ErrForm})
			}
			whole++
			continue
		}
		begins := i == 1 || s[i-1] < 128
		if begins {
			value.SetInt64(0)
			if s[i] == 128 {
				forms = append(forms, fault{i, api.ErrForm})
			}
		}
		value.Lsh(value, 7)
		value.Add(value, big.NewInt(int64(s[i]&127)))
		if value.BitLen() > 32 {
			greats = append(greats, fault{i, api.ErrNumber})
		}
		if s[i] < 128 {
			whole++
			if whole > mostOid {
				many = append(many, fault{i, api.ErrMany})
			}
		}
	}
	return slices.Concat(out, forms, greats, many)
}

// checkToOid holds one text against the chapter's words: the fault that is seen first, and if there is none, numbers that are written as they stood.
func checkToOid(t testing.TB, s string) {
	t.Helper()
	if faults := oidFaults(s); len(faults) > 0 {
		first := slices.MinFunc(faults, func(a, b fault) int { return a.place - b.place })
		mustNotToOid(t, s, first.e)
		return
	}
	l, e := der.ToOid(s)
	if e != api.OK || len(l) < 2 || len(l) > mostOid {
		t.Fatalf("ToOid(%s) = %v, %v", hexed(s), l, e)
	}
	if back := mustOid(t, l); back != s {
		t.Fatalf("Oid of ToOid(%s) = %s", hexed(s), hexed(back))
	}
}

// P11.4, P11.6: all texts of up to two bytes, all of some bytes up to seven, and drawn ones: what is read is written as it stood.
func TestToOidByTheWords(t *testing.T) {
	for a := range 256 {
		checkToOid(t, bytesOf(a))
		for b := range 256 {
			checkToOid(t, bytesOf(a, b))
		}
	}
	texts("\x00\x01\x7f\x80\x90\xff", 6, func(s string) {
		checkToOid(t, s)
		checkToOid(t, "\x2a"+s)
	})
	r := rand.New(rand.NewSource(1))
	for range 20000 {
		s := []byte{byte(r.Intn(132))}
		for range r.Intn(25) {
			s = append(s, byte(r.Intn(128)))
			if r.Intn(5) == 0 {
				s[len(s)-1] |= 128
			}
		}
		checkToOid(t, string(s))
	}
}

// FuzzToInt looks for texts that are read as wrong numbers.
func FuzzToInt(f *testing.F) {
	for _, s := range []string{"", "\x00", "\x7f", "\x00\x80", "\x00\x7f", "\x80", "\x01" + strings.Repeat("\x00", 32), "\x00" + strings.Repeat("\xff", 32)} {
		f.Add(s)
	}
	f.Fuzz(func(t *testing.T, s string) {
		checkToInt(t, s[:min(len(s), mostBytes)])
	})
}

// FuzzToOid looks for texts that are read as wrong rows of numbers.
func FuzzToOid(f *testing.F) {
	for _, s := range []string{"", "\x2a\x86\x48\xce\x3d", "\x7f", "\x80", "\x2a\x80\x01", "\x2a\x90\x80\x80\x80\x00", strings.Repeat("\x01", 16)} {
		f.Add(s)
	}
	f.Fuzz(func(t *testing.T, s string) {
		checkToOid(t, s)
	})
}
