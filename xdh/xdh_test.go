package xdh_test

import (
	"crypto/ecdh"
	"encoding/hex"
	"math"
	"math/big"
	"math/rand"
	"strings"
	"testing"

	"pendulum/api"
	"pendulum/mod"
	"pendulum/num"
	"pendulum/xdh"
)

const all = math.MaxUint64

var (
	zero = api.Num{}
	none = strings.Repeat("\x00", 32)
)

// bytesOf is the text of hexadecimal digits.
func bytesOf(t testing.TB, digits string) string {
	t.Helper()
	b, err := hex.DecodeString(digits)
	if err != nil {
		t.Fatal(err)
	}
	return string(b)
}

// value is the number of bytes, the lowest first, by the library's arithmetic.
func value(s string) *big.Int {
	v := new(big.Int)
	for i := len(s) - 1; i >= 0; i-- {
		v.Lsh(v, 8).Or(v, big.NewInt(int64(s[i])))
	}
	return v
}

func prime() *big.Int {
	p := new(big.Int).Lsh(big.NewInt(1), 255)
	return p.Sub(p, big.NewInt(19))
}

// primeAnd is p and a little number, as bytes.
func primeAnd(more int64) string {
	return written(new(big.Int).Add(prime(), big.NewInt(more)))
}

// written is a value below 2^256 as 32 bytes, the lowest first.
func written(v *big.Int) string {
	out := v.FillBytes(make([]byte, 32))
	for i := range 16 {
		out[i], out[31-i] = out[31-i], out[i]
	}
	return string(out)
}

func little(n uint64) string {
	return written(new(big.Int).SetUint64(n))
}

// flipped is a text with one bit, counted from the lowest byte's lowest on, the other way.
func flipped(s string, bit int) string {
	b := []byte(s)
	b[bit/8] ^= 1 << (bit % 8)
	return string(b)
}

func bitOf(s string, bit int) byte {
	return s[bit/8] >> (bit % 8) & 1
}

// drawn are texts of 32 bytes, the same in every run.
func drawn(seed int64, count int) []string {
	r := rand.New(rand.NewSource(seed))
	out := make([]string, count)
	for i := range out {
		b := make([]byte, 32)
		r.Read(b)
		out[i] = string(b)
	}
	return out
}

// edges are texts at which bits are taken away or put in, and numbers around p.
func edges() []string {
	out := []string{none, strings.Repeat("\xff", 32), strings.Repeat("\xaa", 32), strings.Repeat("\x55", 32)}
	for _, bit := range []int{0, 1, 2, 3, 63, 64, 128, 253, 254, 255} {
		out = append(out, flipped(none, bit), flipped(strings.Repeat("\xff", 32), bit))
	}
	for _, more := range []int64{-9, -2, -1, 0, 1, 2, 9, 18} {
		out = append(out, primeAnd(more), flipped(primeAnd(more), 255))
	}
	return append(out, little(8), little(9), little(19))
}

// lows are the coordinates of points of a little order, on the curve and beside it: every scalar comes to 0 there.
func lows(t testing.TB) []string {
	return []string{
		little(0), little(1), primeAnd(-1), primeAnd(0), primeAnd(1),
		bytesOf(t, "e0eb7a7c3b41b8ae1656e3faf19fc46ada098deb9c32b1fd866205165f49b800"),
		bytesOf(t, "5f9c95bca3508c24b1d0b1559c83ef5b04445cc4581c8e86d8224eddd09f1157"),
	}
}

// libraryShared is X25519 by the library; false: all bytes are 0.
func libraryShared(t testing.TB, k, u string) (string, bool) {
	t.Helper()
	key, err := ecdh.X25519().NewPrivateKey([]byte(k))
	if err != nil {
		t.Fatal(err)
	}
	other, err := ecdh.X25519().NewPublicKey([]byte(u))
	if err != nil {
		t.Fatal(err)
	}
	s, err := key.ECDH(other)
	return string(s), err == nil
}

// check holds Raw and Shared against the library's.
func check(t testing.TB, k, u string) {
	t.Helper()
	want, ok := libraryShared(t, k, u)
	wantE := api.OK
	raw := want
	if !ok {
		want, raw, wantE = "", none, api.ErrPoint
	}
	if got, e := xdh.Raw(k, u); got != raw || e != api.OK {
		t.Fatalf("Raw(%x, %x) = %x, %v, want %x", k, u, got, e, raw)
	}
	if got, e := xdh.Shared(k, u); got != want || e != wantE {
		t.Fatalf("Shared(%x, %x) = %x, %v, want %x, %v", k, u, got, e, want, wantE)
	}
}

// P3.1: the bits 0, 1, 2 and 255 are taken away, 254 is put in, all others stay; the lowest byte comes first.
func TestClamp(t *testing.T) {
	for _, k := range append(edges(), drawn(1, 100)...) {
		got, e := xdh.Clamp(k)
		if e != api.OK {
			t.Fatalf("Clamp(%x) = %v", k, e)
		}
		for i := range 256 {
			want := uint64(bitOf(k, i))
			switch i {
			case 0, 1, 2, 255:
				want = 0
			case 254:
				want = 1
			}
			if bit := num.Bit(got, i); bit != want {
				t.Fatalf("bit %d of Clamp(%x) = %d, want %d", i, k, bit, want)
			}
		}
	}
}

// P3.1: every bit, alone and alone missing.
func TestClampEveryBit(t *testing.T) {
	for i := range 256 {
		alone, without := api.Num{0, 0, 0, 1 << 62}, api.Num{all &^ 7, all, all, all >> 1}
		switch i {
		case 0, 1, 2, 254, 255:
		default:
			alone[i/64] |= 1 << (i % 64)
			without[i/64] &^= 1 << (i % 64)
		}
		if got, e := xdh.Clamp(flipped(none, i)); got != alone || e != api.OK {
			t.Errorf("Clamp of bit %d = %v, %v, want %v", i, got, e, alone)
		}
		if got, e := xdh.Clamp(flipped(strings.Repeat("\xff", 32), i)); got != without || e != api.OK {
			t.Errorf("Clamp of all but bit %d = %v, %v, want %v", i, got, e, without)
		}
	}
}

// P3.1: a scalar written out.
func TestClampWrittenOut(t *testing.T) {
	k := bytesOf(t, "a546e36bf0527c9d3b16154b82465edd62144c0ac1fc5a18506a2244ba449ac4")
	want := "449a44ba44226a50185afcc10a4c1462dd5e46824b15163b9d7c52f06be346a0"
	if got, e := xdh.Clamp(k); num.Text(got) != want || e != api.OK {
		t.Errorf("Clamp(%x) = %s, %v, want %s", k, num.Text(got), e, want)
	}
}

// lengthError is what a text of so many bytes is answered with.
func lengthError(length int) api.Errno {
	switch {
	case length < 32:
		return api.ErrShort
	case length > 32:
		return api.ErrLong
	}
	return api.OK
}

// P3.1 to P3.4: every other length than 32 bytes is refused, with nothing beside the error.
func TestLengths(t *testing.T) {
	for length := range 70 {
		s, e := strings.Repeat("\x09", length), lengthError(length)
		if n, got := xdh.Clamp(s); got != e || e != api.OK && n != zero {
			t.Errorf("Clamp of %d bytes = %v, %v, want %v", length, n, got, e)
		}
		p, got := xdh.Public(s)
		if got != e || (p == "") != (e != api.OK) {
			t.Errorf("Public of %d bytes = %x, %v, want %v", length, p, got, e)
		}
		if on := xdh.On(s); length != 32 && on {
			t.Errorf("On of %d bytes", length)
		}
	}
	for _, s := range []string{"", "\x09", little(9)[:31], little(9) + "\x00", "\x00" + little(9)} {
		if xdh.On(s) {
			t.Errorf("On(%x), which has %d bytes", s, len(s))
		}
	}
}

// P3.2 and P3.3: k's error is told ahead of u's.
func TestLengthsOfBoth(t *testing.T) {
	for _, i := range []int{0, 1, 31, 32, 33, 64, 1000} {
		for _, j := range []int{0, 1, 31, 32, 33, 64, 1000} {
			want := lengthError(i)
			if want == api.OK {
				want = lengthError(j)
			}
			// Bytes of 9 are no coordinate at which all come to 0.
			k, u := strings.Repeat("\x40", i), strings.Repeat("\x09", j)
			if s, e := xdh.Raw(k, u); e != want || (s == "") != (want != api.OK) {
				t.Errorf("Raw of %d and %d bytes = %x, %v, want %v", i, j, s, e, want)
			}
			if s, e := xdh.Shared(k, u); e != want || (s == "") != (want != api.OK) {
				t.Errorf("Shared of %d and %d bytes = %x, %v, want %v", i, j, s, e, want)
			}
		}
	}
}

// P3.2: the chapter's example and the published one beside it.
func TestRawWrittenOut(t *testing.T) {
	for _, c := range []struct{ k, u, want string }{
		{"a546e36bf0527c9d3b16154b82465edd62144c0ac1fc5a18506a2244ba449ac4",
			"e6db6867583030db3594c1a424b15f7c726624ec26b3353b10a903a6d0ab1c4c",
			"c3da55379de9c6908e94ea4df28d084f32eccf03491c71f754b4075577a28552"},
		{"4b66e9d4d1b4673c5ad22691957d6af5c11b6421e0ea01d42ca4169e7918ba0d",
			"e5210f12786811d3f4b7959d0538ae2c31dbe7106fc03c3efc4cd549c715a493",
			"95cbde9476e8907d7aade45cb4b873f88b595a68799fa152e6f8f7647aac7957"},
	} {
		if got, e := xdh.Raw(bytesOf(t, c.k), bytesOf(t, c.u)); got != bytesOf(t, c.want) || e != api.OK {
			t.Errorf("Raw(%s, %s) = %x, %v, want %s", c.k, c.u, got, e, c.want)
		}
	}
}

// P3.2: the published row in which each answer is the next scalar, and the scalar the next coordinate.
func TestRawAgainAndAgain(t *testing.T) {
	k, u := little(9), little(9)
	wants := map[int]string{
		1:    "422c8e7a6227d7bca1350b3e2bb7279f7897b87bb6854b783c60e80311ae3079",
		1000: "684cf59ba83309552800ef566f2f4d3c1c3887c49360e3875f2eb94d99532c51",
	}
	rounds := 1000
	if testing.Short() {
		rounds = 1
	}
	for i := range rounds {
		s, e := xdh.Raw(k, u)
		if e != api.OK {
			t.Fatalf("round %d: %v", i+1, e)
		}
		k, u = s, k
		if want, ok := wants[i+1]; ok && s != bytesOf(t, want) {
			t.Fatalf("round %d: %x, want %s", i+1, s, want)
		}
	}
}

// P3.2 and P3.3: at pairs of edges, against the library.
func TestEdges(t *testing.T) {
	list := edges()
	for i, k := range list {
		// Edges of scalars fall together behind Clamp: a third of the pairs meets all of them.
		for j := i % 3; j < len(list); j += 3 {
			check(t, k, list[j])
		}
	}
}

// P3.2 and P3.3: at drawn texts, on the curve and beside it, against the library.
func TestDrawn(t *testing.T) {
	us := drawn(3, 200)
	for i, k := range drawn(2, 200) {
		check(t, k, us[i])
	}
}

// P3.2: Public is Raw with the coordinate 9.
func TestPublic(t *testing.T) {
	for _, k := range append(edges(), drawn(4, 50)...) {
		got, e := xdh.Public(k)
		raw, rawE := xdh.Raw(k, little(9))
		if got != raw || e != api.OK || rawE != api.OK {
			t.Fatalf("Public(%x) = %x, %v, want %x", k, got, e, raw)
		}
		key, err := ecdh.X25519().NewPrivateKey([]byte(k))
		if err != nil {
			t.Fatal(err)
		}
		if want := string(key.PublicKey().Bytes()); got != want {
			t.Fatalf("Public(%x) = %x, want %x", k, got, want)
		}
	}
}

// P3.3: where Raw tells 32 bytes of 0, Shared tells ErrPoint and nothing beside it.
func TestSharedOfNothing(t *testing.T) {
	for _, low := range lows(t) {
		for _, u := range []string{low, flipped(low, 255)} {
			for _, k := range append(drawn(5, 5), none, strings.Repeat("\xff", 32)) {
				if s, e := xdh.Raw(k, u); s != none || e != api.OK {
					t.Errorf("Raw(%x, %x) = %x, %v, want 32 bytes of 0", k, u, s, e)
				}
				if s, e := xdh.Shared(k, u); s != "" || e != api.ErrPoint {
					t.Errorf("Shared(%x, %x) = %x, %v, want ErrPoint", k, u, s, e)
				}
			}
		}
	}
}

// P3.3: a length is told ahead of a result of 0.
func TestSharedLengthFirst(t *testing.T) {
	for _, c := range []struct {
		k, u string
		want api.Errno
	}{
		{none[1:], none, api.ErrShort},
		{none + "\x00", none, api.ErrLong},
		{none, none[1:], api.ErrShort},
		{none, none + "\x00", api.ErrLong},
	} {
		if s, e := xdh.Shared(c.k, c.u); s != "" || e != c.want {
			t.Errorf("Shared of %d and %d bytes = %x, %v, want %v", len(c.k), len(c.u), s, e, c.want)
		}
	}
}

// onCurve tells by the library whether a coordinate has a y on the curve.
func onCurve(u string) bool {
	p := prime()
	x := value(u)
	x.SetBit(x, 255, 0).Mod(x, p)
	squared := new(big.Int).Mul(x, x)
	y := new(big.Int).Mul(squared, x)
	y.Add(y, squared.Mul(squared, big.NewInt(486662))).Add(y, x).Mod(y, p)
	return big.Jacobi(y, p) >= 0
}

// P3.4: On at edges, at little numbers, and at drawn texts, of which about a half is On.
func TestOn(t *testing.T) {
	list := append(edges(), drawn(6, 300)...)
	for n := range uint64(100) {
		list = append(list, little(n), flipped(little(n), 255))
	}
	on := 0
	for _, u := range list {
		got := xdh.On(u)
		if want := onCurve(u); got != want {
			t.Errorf("On(%x) = %v, want %v", u, got, want)
		}
		if got {
			on++
		}
	}
	if on < len(list)/4 || on > len(list)*3/4 {
		t.Errorf("%d of %d are On", on, len(list))
	}
}

// P3.4: coordinates written out: those of the base point, of a y of 0, of p and more, and of points beside the curve.
func TestOnWrittenOut(t *testing.T) {
	for _, c := range []struct {
		name, u string
		want    bool
	}{
		{"9", little(9), true},
		{"9, with bit 255", flipped(little(9), 255), true},
		{"9, and p", primeAnd(9), true},
		{"0, whose y is 0", none, true},
		{"0, with bit 255", flipped(none, 255), true},
		{"p", primeAnd(0), true},
		{"p, with bit 255", flipped(primeAnd(0), 255), true},
		{"1", little(1), true},
		{"2", little(2), false},
		{"2, with bit 255", flipped(little(2), 255), false},
		{"2, and p", primeAnd(2), false},
		{"p less 1", primeAnd(-1), false},
		{"the chapter's coordinate", bytesOf(t, "e6db6867583030db3594c1a424b15f7c726624ec26b3353b10a903a6d0ab1c4c"), true},
	} {
		if got := xdh.On(c.u); got != c.want {
			t.Errorf("On of %s = %v, want %v", c.name, got, c.want)
		}
	}
}

// P3.5: what one makes of its scalar and the other's Public is what the other makes.
func TestInCommon(t *testing.T) {
	ones, others := append(drawn(7, 40), edges()...), append(edges(), drawn(8, 40)...)
	seen := map[string]bool{}
	for i, a := range ones {
		b := others[i]
		publicA, e := xdh.Public(a)
		if e != api.OK {
			t.Fatal(e)
		}
		publicB, e := xdh.Public(b)
		if e != api.OK {
			t.Fatal(e)
		}
		here, e := xdh.Shared(a, publicB)
		there, f := xdh.Shared(b, publicA)
		if here != there || e != api.OK || f != api.OK || len(here) != 32 {
			t.Fatalf("scalars %x and %x: %x, %v and %x, %v", a, b, here, e, there, f)
		}
		if i < 40 {
			seen[here] = true
		}
	}
	if len(seen) != 40 {
		t.Errorf("40 drawn scalars make %d secrets", len(seen))
	}
}

// P3.5: the published pair.
func TestInCommonWrittenOut(t *testing.T) {
	a := bytesOf(t, "77076d0a7318a57d3c16c17251b26645df4c2f87ebc0992ab177fba51db92c2a")
	b := bytesOf(t, "5dab087e624a8a4b79e17f8b83800ee66f3bb1292618b6fd1c2f8b27ff88e0eb")
	publicA := bytesOf(t, "8520f0098930a754748b7ddcb43ef75a0dbf3a0d26381af4eba4a98eaa9b4e6a")
	publicB := bytesOf(t, "de9edb7d7b7dc1b4d35b61c2ece435373f8343c85b78674dadfc7e146f882b4f")
	want := bytesOf(t, "4a5d9d5ba4ce2de1728e3bf480350f25e07e21c947d19e3376f09b3c1e161742")
	if got, e := xdh.Public(a); got != publicA || e != api.OK {
		t.Errorf("Public(a) = %x, %v", got, e)
	}
	if got, e := xdh.Public(b); got != publicB || e != api.OK {
		t.Errorf("Public(b) = %x, %v", got, e)
	}
	if got, e := xdh.Shared(a, publicB); got != want || e != api.OK {
		t.Errorf("Shared(a, b's) = %x, %v", got, e)
	}
	if got, e := xdh.Shared(b, publicA); got != want || e != api.OK {
		t.Errorf("Shared(b, a's) = %x, %v", got, e)
	}
}

// P3.6: bits 0 to 2 and 255 of a scalar play no part, one by one and all together, nor does 254, which is put in.
func TestScalarBits(t *testing.T) {
	u := drawn(9, 1)[0]
	for _, k := range drawn(10, 3) {
		want, e := xdh.Shared(k, u)
		if e != api.OK {
			t.Fatal(e)
		}
		for change := range 32 {
			other := k
			for i, bit := range []int{0, 1, 2, 254, 255} {
				if change>>i&1 == 1 {
					other = flipped(other, bit)
				}
			}
			if got, e := xdh.Shared(other, u); got != want || e != api.OK {
				t.Errorf("Shared(%x, %x) = %x, %v, want %x", other, u, got, e, want)
			}
		}
		for _, bit := range []int{3, 4, 7, 8, 63, 64, 200, 252, 253} {
			if got, e := xdh.Shared(flipped(k, bit), u); got == want || e != api.OK {
				t.Errorf("bit %d of the scalar %x plays no part", bit, k)
			}
		}
	}
}

// P3.6: bit 255 of a coordinate plays no part, all others do.
func TestCoordinateBits(t *testing.T) {
	k := drawn(11, 1)[0]
	for _, u := range drawn(12, 3) {
		want, e := xdh.Shared(k, u)
		if e != api.OK {
			t.Fatal(e)
		}
		if got, e := xdh.Shared(k, flipped(u, 255)); got != want || e != api.OK {
			t.Errorf("bit 255 of the coordinate %x plays a part", u)
		}
		if xdh.On(u) != xdh.On(flipped(u, 255)) {
			t.Errorf("On: bit 255 of the coordinate %x plays a part", u)
		}
		for _, bit := range []int{0, 1, 2, 3, 63, 64, 200, 253, 254} {
			if got, e := xdh.Shared(k, flipped(u, bit)); got == want || e != api.OK {
				t.Errorf("bit %d of the coordinate %x plays no part", bit, u)
			}
		}
	}
}

// P3.6: a coordinate's multiple of p plays no part: 0 to 18 are the numbers to which p can be added.
func TestCoordinatePrime(t *testing.T) {
	k := drawn(13, 1)[0]
	for n := range 19 {
		u, more := little(uint64(n)), primeAnd(int64(n))
		want, wantE := xdh.Raw(k, u)
		for _, other := range []string{more, flipped(more, 255)} {
			if got, e := xdh.Raw(k, other); got != want || e != wantE {
				t.Errorf("Raw at %d and p = %x, %v, want %x", n, got, e, want)
			}
			if xdh.On(other) != xdh.On(u) {
				t.Errorf("On at %d and p = %v", n, xdh.On(other))
			}
		}
	}
}

// P3.6: what is told is below p, with bit 255 0: it is a coordinate as it stands.
func TestBelowPrime(t *testing.T) {
	us := edges()
	for i, k := range drawn(14, len(us)) {
		s, e := xdh.Raw(k, us[i])
		n, f := num.FromLittle(s)
		if e != api.OK || f != api.OK || num.Cmp(n, mod.P25519()) >= 0 {
			t.Errorf("Raw(%x, %x) = %x, %v", k, us[i], s, e)
		}
	}
}

// P3.7: Publics are On.
func TestPublicsAreOn(t *testing.T) {
	for _, k := range append(edges(), drawn(15, 60)...) {
		public, e := xdh.Public(k)
		if e != api.OK || !xdh.On(public) || !onCurve(public) {
			t.Errorf("Public(%x) = %x, %v, On %v", k, public, e, xdh.On(public))
		}
	}
}

func FuzzShared(f *testing.F) {
	f.Add(none, little(9))
	f.Add(strings.Repeat("\xff", 32), primeAnd(9))
	f.Add("", none)
	f.Fuzz(func(t *testing.T, k, u string) {
		if len(k) == 32 && len(u) == 32 {
			check(t, k, u)
		} else if s, e := xdh.Shared(k, u); s != "" || e == api.OK {
			t.Fatalf("Shared(%x, %x) = %x, %v", k, u, s, e)
		}
		if got, want := xdh.On(u), len(u) == 32 && onCurve(u); got != want {
			t.Fatalf("On(%x) = %v, want %v", u, got, want)
		}
	})
}

func BenchmarkShared(b *testing.B) {
	k, u := drawn(16, 1)[0], little(9)
	for range b.N {
		u, _ = xdh.Shared(k, u)
	}
}
