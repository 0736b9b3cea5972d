package num_test

import (
	"math"
	"math/big"
	"math/rand"
	"strings"
	"testing"

	"pendulum/api"
	"pendulum/num"
)

const all = math.MaxUint64

var (
	zero = api.Num{}
	one  = api.Num{1}
	top  = api.Num{all, all, all, all}
)

// value is a number by the library's arithmetic, which the tests hold the program's against.
func value(n api.Num) *big.Int {
	v := new(big.Int)
	for k := len(n) - 1; k >= 0; k-- {
		v.Lsh(v, 64).Or(v, new(big.Int).SetUint64(n[k]))
	}
	return v
}

func wideValue(lo, hi api.Num) *big.Int {
	v := value(hi)
	return v.Lsh(v, 256).Or(v, value(lo))
}

// cut is a value's 256 bits from the given one on.
func cut(v *big.Int, from uint) api.Num {
	var n api.Num
	for i := range 256 {
		n[i/64] |= uint64(v.Bit(int(from)+i)) << (i % 64)
	}
	return n
}

func power(i int) api.Num {
	var n api.Num
	n[i/64] = 1 << (i % 64)
	return n
}

// edges are numbers at which carries, borrows, shifts and guesses of quotients turn.
func edges() []api.Num {
	out := []api.Num{zero, one, {2}, {3}, {10}, {all}, {all - 1}, {0, 1}, {1, 1}, {0, all}, {all, all},
		{0, 0, 1}, {all, 0, 1}, {all, all, all}, {0, 0, 0, 1}, {1, 0, 0, 1}, {0, 0, 0, all}, {1, 0, 0, 1 << 63},
		{0, 0, 0, 1 << 63}, {all, all, all, 1<<63 - 1}, {all, 0, 0, 1 << 63}, {0, all, 0, all}, {all, 0, all, 0},
		{all, all, all, 1 << 63}, {0, 0, all, 1<<63 - 1}, {all, all, 0, 1 << 63},
		{all - 18, all, all, 1<<63 - 1}, {all, 1<<32 - 1, 0, 0xffffffff00000001}, {all - 1, all, all, all}, top}
	return out
}

// samples are the edges and numbers of all lengths, the same in every run.
func samples(more int) []api.Num {
	r := rand.New(rand.NewSource(1))
	out := edges()
	for range more {
		var n api.Num
		for k := range n {
			switch r.Intn(5) {
			case 0:
			case 1:
				n[k] = all
			default:
				n[k] = r.Uint64() >> uint(r.Intn(64))
			}
		}
		out = append(out, n)
	}
	return out
}

// P1.1: Text has 64 digits, the highest first.
func TestText(t *testing.T) {
	for _, c := range []struct {
		n    api.Num
		want string
	}{
		{zero, strings.Repeat("0", 64)},
		{api.Num{10}, strings.Repeat("0", 63) + "a"},
		{top, strings.Repeat("f", 64)},
		{api.Num{0xcdef, 0x89ab, 0x4567, 0x0123}, "0000000000000123000000000000456700000000000089ab000000000000cdef"},
		{api.Num{0x0123456789abcdef, 0xfedcba9876543210, 1, 1 << 63}, "80000000000000000000000000000001fedcba98765432100123456789abcdef"},
	} {
		if got := num.Text(c.n); got != c.want {
			t.Errorf("Text(%v) = %q, want %q", c.n, got, c.want)
		}
	}
	for _, n := range samples(200) {
		want := value(n).Text(16)
		want = strings.Repeat("0", 64-len(want)) + want
		if got := num.Text(n); got != want {
			t.Errorf("Text(%v) = %q, want %q", n, got, want)
		}
	}
}

// P1.1: Parse tells a wrong length ahead of a wrong digit, and nothing beside an error.
func TestParse(t *testing.T) {
	good := "80000000000000000000000000000001fedcba98765432100123456789abcdef"
	for _, c := range []struct {
		name, s string
		n       api.Num
		e       api.Errno
	}{
		{"64 digits", good, api.Num{0x0123456789abcdef, 0xfedcba9876543210, 1, 1 << 63}, api.OK},
		{"all highest", strings.Repeat("f", 64), top, api.OK},
		{"nothing", "", zero, api.ErrShort},
		{"63 digits", good[1:], zero, api.ErrShort},
		{"65 digits", good + "0", zero, api.ErrLong},
		{"65 digits, the first 0", "0" + good, zero, api.ErrLong},
		{"63 bytes, none a digit", strings.Repeat("x", 63), zero, api.ErrShort},
		{"65 bytes, none a digit", strings.Repeat("x", 65), zero, api.ErrLong},
		{"a great digit", "A" + good[1:], zero, api.ErrForm},
		{"0x ahead", "0x" + good[2:], zero, api.ErrForm},
		{"63 digits and a space", good[:63] + " ", zero, api.ErrForm},
		{"62 digits and a letter of two bytes", good[:62] + "é", zero, api.ErrForm},
		{"64 letters of two bytes", strings.Repeat("é", 64), zero, api.ErrLong},
	} {
		if n, e := num.Parse(c.s); n != c.n || e != c.e {
			t.Errorf("%s: Parse(%q) = %v, %v, want %v, %v", c.name, c.s, n, e, c.n, c.e)
		}
	}
}

// P1.1: of all bytes, at every place, just the sixteen digits are read.
func TestParseEveryByte(t *testing.T) {
	for at := range 64 {
		for c := range 256 {
			s := []byte(strings.Repeat("0", 64))
			s[at] = byte(c)
			n, e := num.Parse(string(s))
			wantN, wantE := zero, api.ErrForm
			if v := strings.IndexByte("0123456789abcdef", byte(c)); v >= 0 {
				wantE = api.OK
				wantN[3-at/16] = uint64(v) << (4 * (15 - at%16))
			}
			if n != wantN || e != wantE {
				t.Fatalf("Parse of byte %d at %d = %v, %v, want %v, %v", c, at, n, e, wantN, wantE)
			}
		}
	}
}

// P1.2: Big has 32 bytes, the highest first, Little the same ones, the lowest first.
func TestBigLittle(t *testing.T) {
	n := api.Num{0x08090a0b0c0d0e0f, 0x0001020304050607, 0xf8f9fafbfcfdfeff, 0xf0f1f2f3f4f5f6f7}
	high := "\xf0\xf1\xf2\xf3\xf4\xf5\xf6\xf7\xf8\xf9\xfa\xfb\xfc\xfd\xfe\xff\x00\x01\x02\x03\x04\x05\x06\x07\x08\x09\x0a\x0b\x0c\x0d\x0e\x0f"
	low := "\x0f\x0e\x0d\x0c\x0b\x0a\x09\x08\x07\x06\x05\x04\x03\x02\x01\x00\xff\xfe\xfd\xfc\xfb\xfa\xf9\xf8\xf7\xf6\xf5\xf4\xf3\xf2\xf1\xf0"
	if got := num.Big(n); got != high {
		t.Errorf("Big = %x, want %x", got, high)
	}
	if got := num.Little(n); got != low {
		t.Errorf("Little = %x, want %x", got, low)
	}
	if got, e := num.FromBig(high); got != n || e != api.OK {
		t.Errorf("FromBig = %v, %v, want %v", got, e, n)
	}
	if got, e := num.FromLittle(low); got != n || e != api.OK {
		t.Errorf("FromLittle = %v, %v, want %v", got, e, n)
	}
	for _, n := range samples(200) {
		want := value(n).FillBytes(make([]byte, 32))
		if got := num.Big(n); got != string(want) {
			t.Errorf("Big(%v) = %x, want %x", n, got, want)
		}
		if got := num.Little(n); len(got) != 32 || got[0] != want[31] || got[31] != want[0] {
			t.Errorf("Little(%v) = %x, want %x turned", n, got, want)
		}
	}
}

// P1.2: every other length than 32 bytes is refused.
func TestFromBytesLength(t *testing.T) {
	for length := range 70 {
		s := strings.Repeat("\xff", length)
		wantN, wantE := zero, api.ErrShort
		if length == 32 {
			wantN, wantE = top, api.OK
		} else if length > 32 {
			wantE = api.ErrLong
		}
		if n, e := num.FromBig(s); n != wantN || e != wantE {
			t.Errorf("FromBig of %d bytes = %v, %v, want %v, %v", length, n, e, wantN, wantE)
		}
		if n, e := num.FromLittle(s); n != wantN || e != wantE {
			t.Errorf("FromLittle of %d bytes = %v, %v, want %v, %v", length, n, e, wantN, wantE)
		}
	}
}

// P1.3: Cmp, Add, Sub and Mul are those of whole numbers.
func TestArithmetic(t *testing.T) {
	list := samples(150)
	for _, a := range list {
		for _, b := range list {
			va, vb := value(a), value(b)
			order := va.Cmp(vb)
			if got := num.Cmp(a, b); got != order {
				t.Fatalf("Cmp(%v, %v) = %d, want %d", a, b, got, order)
			}
			sum := new(big.Int).Add(va, vb)
			if got, c := num.Add(a, b); got != cut(sum, 0) || c != uint64(sum.Bit(256)) {
				t.Fatalf("Add(%v, %v) = %v, %d", a, b, got, c)
			}
			borrow := uint64(0)
			rest := new(big.Int).Sub(va, vb)
			if order < 0 {
				borrow = 1
				rest.Add(rest, new(big.Int).Lsh(big.NewInt(1), 256))
			}
			if got, c := num.Sub(a, b); got != cut(rest, 0) || c != borrow {
				t.Fatalf("Sub(%v, %v) = %v, %d", a, b, got, c)
			}
			product := new(big.Int).Mul(va, vb)
			if lo, hi := num.Mul(a, b); lo != cut(product, 0) || hi != cut(product, 256) {
				t.Fatalf("Mul(%v, %v) = %v, %v", a, b, lo, hi)
			}
		}
	}
}

// P1.3: sums and differences that are carried through all parts, and products with an upper half, written out.
func TestCarries(t *testing.T) {
	if n, c := num.Add(top, one); n != zero || c != 1 {
		t.Errorf("Add(top, 1) = %v, %d", n, c)
	}
	if n, c := num.Add(api.Num{all, all, all}, one); n != power(192) || c != 0 {
		t.Errorf("Add(2^192 less 1, 1) = %v, %d", n, c)
	}
	if n, c := num.Add(top, top); n != (api.Num{all - 1, all, all, all}) || c != 1 {
		t.Errorf("Add(top, top) = %v, %d", n, c)
	}
	if n, c := num.Sub(zero, one); n != top || c != 1 {
		t.Errorf("Sub(0, 1) = %v, %d", n, c)
	}
	if n, c := num.Sub(power(192), one); n != (api.Num{all, all, all}) || c != 0 {
		t.Errorf("Sub(2^192, 1) = %v, %d", n, c)
	}
	if n, c := num.Sub(zero, top); n != one || c != 1 {
		t.Errorf("Sub(0, top) = %v, %d", n, c)
	}
	if n, c := num.Sub(top, top); n != zero || c != 0 {
		t.Errorf("Sub(top, top) = %v, %d", n, c)
	}
	if lo, hi := num.Mul(power(255), api.Num{2}); lo != zero || hi != one {
		t.Errorf("Mul(2^255, 2) = %v, %v", lo, hi)
	}
	if lo, hi := num.Mul(top, top); lo != one || hi != (api.Num{all - 1, all, all, all}) {
		t.Errorf("Mul(top, top) = %v, %v", lo, hi)
	}
	if lo, hi := num.Mul(top, zero); lo != zero || hi != zero {
		t.Errorf("Mul(top, 0) = %v, %v", lo, hi)
	}
}

// P1.3: what two powers of 2 make, at every pair of places.
func TestPowers(t *testing.T) {
	for i := range 256 {
		for j := range 256 {
			lo, hi := num.Mul(power(i), power(j))
			wantLo, wantHi := zero, zero
			if i+j < 256 {
				wantLo = power(i + j)
			} else {
				wantHi = power(i + j - 256)
			}
			if lo != wantLo || hi != wantHi {
				t.Fatalf("Mul(2^%d, 2^%d) = %v, %v", i, j, lo, hi)
			}
			want := 0
			if i < j {
				want = -1
			} else if i > j {
				want = 1
			}
			if got := num.Cmp(power(i), power(j)); got != want {
				t.Fatalf("Cmp(2^%d, 2^%d) = %d, want %d", i, j, got, want)
			}
		}
	}
}

// checkDiv holds one quotient against the library's.
func checkDiv(t *testing.T, lo, hi, m api.Num) {
	t.Helper()
	q, p, r, e := num.Div(lo, hi, m)
	if m == zero {
		if q != zero || p != zero || r != zero || e != api.ErrNumber {
			t.Fatalf("Div(%v, %v, 0) = %v, %v, %v, %v", lo, hi, q, p, r, e)
		}
		return
	}
	quotient, left := new(big.Int).QuoRem(wideValue(lo, hi), value(m), new(big.Int))
	if q != cut(quotient, 0) || p != cut(quotient, 256) || r != cut(left, 0) || e != api.OK {
		t.Fatalf("Div(%v, %v, %v) = %v, %v, %v, %v, want %x left %x", lo, hi, m, q, p, r, e, quotient, left)
	}
}

// P1.4: Div at all triples of edges, a divisor 0 and upper halves among them.
func TestDivEdges(t *testing.T) {
	list := edges()
	for _, lo := range list {
		for _, hi := range list {
			for _, m := range list {
				checkDiv(t, lo, hi, m)
			}
		}
	}
}

// P1.4: Div at numbers of all lengths, and by divisors of every length.
func TestDivSamples(t *testing.T) {
	list := samples(3000)
	for i, lo := range list {
		hi, m := list[(i*7+1)%len(list)], list[(i*13+5)%len(list)]
		checkDiv(t, lo, hi, m)
	}
	for i := range 256 {
		below, _ := num.Sub(power(i), one)
		above, _ := num.Add(power(i), one)
		for _, m := range []api.Num{power(i), below, above} {
			checkDiv(t, top, top, m)
			checkDiv(t, zero, power(i), m)
			checkDiv(t, top, below, m)
			checkDiv(t, zero, one, m)
			checkDiv(t, below, zero, m)
		}
	}
}

// P1.4: quotients whose parts are all ones, and numbers one below a multiple: there a guess is too great.
func TestDivMultiples(t *testing.T) {
	for _, m := range samples(60) {
		for _, q := range edges() {
			lo, hi := num.Mul(m, q)
			checkDiv(t, lo, hi, m)
			under, c := num.Sub(lo, one)
			over, _ := num.Sub(hi, api.Num{c})
			checkDiv(t, under, over, m)
		}
	}
}

// P1.4: the chapter's example, and nothing beside an error.
func TestDivWritten(t *testing.T) {
	if q, p, r, e := num.Div(api.Num{7}, zero, api.Num{2}); q != (api.Num{3}) || p != zero || r != one || e != api.OK {
		t.Errorf("Div(7, 0, 2) = %v, %v, %v, %v", q, p, r, e)
	}
	if q, p, r, e := num.Div(top, top, zero); q != zero || p != zero || r != zero || e != api.ErrNumber {
		t.Errorf("Div(top, top, 0) = %v, %v, %v, %v", q, p, r, e)
	}
	if q, p, r, e := num.Div(zero, zero, zero); q != zero || p != zero || r != zero || e != api.ErrNumber {
		t.Errorf("Div(0, 0, 0) = %v, %v, %v, %v", q, p, r, e)
	}
	if q, p, r, e := num.Div(api.Num{5}, api.Num{6}, one); q != (api.Num{5}) || p != (api.Num{6}) || r != zero || e != api.OK {
		t.Errorf("Div(5, 6, 1) = %v, %v, %v, %v", q, p, r, e)
	}
	if q, p, r, e := num.Div(top, top, top); q != one || p != one || r != zero || e != api.OK {
		t.Errorf("Div(top, top, top) = %v, %v, %v, %v", q, p, r, e)
	}
}

// P1.5: Bit is a number's bit, and 0 of all others.
func TestBit(t *testing.T) {
	for _, n := range samples(60) {
		v := value(n)
		for i := range 256 {
			if got := num.Bit(n, i); got != uint64(v.Bit(i)) {
				t.Fatalf("Bit(%v, %d) = %d", n, i, got)
			}
		}
	}
	for i := -600; i < 900; i++ {
		want := uint64(1)
		if i < 0 || i > 255 {
			want = 0
		}
		if got := num.Bit(top, i); got != want {
			t.Errorf("Bit(top, %d) = %d, want %d", i, got, want)
		}
	}
	for _, i := range []int{math.MinInt, math.MinInt + 1, math.MinInt32, math.MaxInt32, math.MaxInt - 63, math.MaxInt - 1, math.MaxInt} {
		if got := num.Bit(top, i); got != 0 {
			t.Errorf("Bit(top, %d) = %d, want 0", i, got)
		}
	}
}

// P1.5: Len is the least k for which a number is below 2^k.
func TestLen(t *testing.T) {
	if got := num.Len(zero); got != 0 {
		t.Errorf("Len(0) = %d", got)
	}
	if got := num.Len(top); got != 256 {
		t.Errorf("Len(top) = %d", got)
	}
	for i := range 256 {
		if got := num.Len(power(i)); got != i+1 {
			t.Errorf("Len(2^%d) = %d", i, got)
		}
		below, _ := num.Sub(power(i), one)
		if got := num.Len(below); got != i {
			t.Errorf("Len(2^%d less 1) = %d", i, got)
		}
	}
	for _, n := range samples(300) {
		if got := num.Len(n); got != value(n).BitLen() {
			t.Errorf("Len(%v) = %d", n, got)
		}
	}
}

// P1.6: what is written is read as it was, and a difference undoes a sum.
func TestThereAndBack(t *testing.T) {
	list := samples(200)
	for i, n := range list {
		if got, e := num.Parse(num.Text(n)); got != n || e != api.OK {
			t.Errorf("Parse(Text(%v)) = %v, %v", n, got, e)
		}
		if got, e := num.FromBig(num.Big(n)); got != n || e != api.OK {
			t.Errorf("FromBig(Big(%v)) = %v, %v", n, got, e)
		}
		if got, e := num.FromLittle(num.Little(n)); got != n || e != api.OK {
			t.Errorf("FromLittle(Little(%v)) = %v, %v", n, got, e)
		}
		b := list[(i*11+3)%len(list)]
		sum, carry := num.Add(n, b)
		if got, borrow := num.Sub(sum, b); got != n || borrow != carry {
			t.Errorf("Sub(Add(%v, %v)) = %v, %d, carried %d", n, b, got, borrow, carry)
		}
	}
}

// wideSum is a sum of two halves each, and what is carried.
func wideSum(aLo, aHi, bLo, bHi api.Num) (api.Num, api.Num, uint64) {
	lo, c := num.Add(aLo, bLo)
	hi, d := num.Add(aHi, bHi)
	hi, e := num.Add(hi, api.Num{c})
	return lo, hi, d + e
}

// P1.7: the quotient times m and what is left is the number, and what is left is below m.
func TestDivUndone(t *testing.T) {
	list := samples(600)
	for i, m := range list {
		if m == zero {
			continue
		}
		lo, hi := list[(i*5+1)%len(list)], list[(i*17+2)%len(list)]
		q, p, r, e := num.Div(lo, hi, m)
		if e != api.OK || num.Cmp(r, m) >= 0 {
			t.Fatalf("Div(%v, %v, %v) leaves %v, %v", lo, hi, m, r, e)
		}
		gotLo, gotHi := num.Mul(q, m)
		upper, none := num.Mul(p, m)
		gotLo, gotHi, c := wideSum(gotLo, gotHi, r, upper)
		if gotLo != lo || gotHi != hi || none != zero || c != 0 {
			t.Fatalf("Div(%v, %v, %v) = %v, %v, %v does not go back", lo, hi, m, q, p, r)
		}
	}
}

// P1.7: Add and Mul are commutative, Mul is distributive.
func TestLaws(t *testing.T) {
	list := samples(600)
	for i, a := range list {
		b, c := list[(i*5+1)%len(list)], list[(i*17+2)%len(list)]
		ab, carried := num.Add(a, b)
		ba, carriedToo := num.Add(b, a)
		if ab != ba || carried != carriedToo {
			t.Fatalf("Add of %v and %v is not commutative", a, b)
		}
		lo, hi := num.Mul(a, b)
		if loToo, hiToo := num.Mul(b, a); lo != loToo || hi != hiToo {
			t.Fatalf("Mul of %v and %v is not commutative", a, b)
		}
		// (a + b) c, with what a + b carries as 2^256 c.
		wholeLo, wholeHi := num.Mul(ab, c)
		wholeOver := uint64(0)
		if carried == 1 {
			wholeLo, wholeHi, wholeOver = wideSum(wholeLo, wholeHi, zero, c)
		}
		acLo, acHi := num.Mul(a, c)
		bcLo, bcHi := num.Mul(b, c)
		sumLo, sumHi, sumOver := wideSum(acLo, acHi, bcLo, bcHi)
		if wholeLo != sumLo || wholeHi != sumHi || wholeOver != sumOver {
			t.Fatalf("Mul is not distributive at %v, %v, %v", a, b, c)
		}
	}
}

// Rule 0.5: a number that a call is given is as it was.
func TestArgumentsStay(t *testing.T) {
	a, b, c := api.Num{1, 2, 3, 4}, api.Num{5, 6, 7, 8}, api.Num{9, 10, 11, 12}
	num.Add(a, b)
	num.Sub(a, b)
	num.Mul(a, b)
	num.Div(a, b, c)
	num.Little(a)
	num.Big(a)
	if a != (api.Num{1, 2, 3, 4}) || b != (api.Num{5, 6, 7, 8}) || c != (api.Num{9, 10, 11, 12}) {
		t.Errorf("changed: %v, %v, %v", a, b, c)
	}
}

func FuzzDiv(f *testing.F) {
	f.Add(num.Big(top), num.Big(top), num.Big(power(255)))
	f.Add(num.Big(zero), num.Big(power(255)), num.Big(api.Num{all, 0, 0, 1 << 63}))
	f.Add("", num.Big(one), num.Big(zero))
	f.Fuzz(func(t *testing.T, l, h, d string) {
		lo, _ := num.FromBig(l)
		hi, _ := num.FromBig(h)
		m, _ := num.FromBig(d)
		checkDiv(t, lo, hi, m)
	})
}

func BenchmarkMulDiv(b *testing.B) {
	m := api.Num{all, 1<<32 - 1, 0, 0xffffffff00000001}
	x := api.Num{3, 5, 7, 11}
	for range b.N {
		lo, hi := num.Mul(x, api.Num{all, 9, all, 13 << 50})
		_, _, x, _ = num.Div(lo, hi, m)
	}
}
