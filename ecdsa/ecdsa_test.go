package ecdsa_test

import (
	"crypto"
	"crypto/ecdh"
	library "crypto/ecdsa"
	"crypto/elliptic"
	"crypto/sha256"
	"encoding/asn1"
	"encoding/hex"
	"math"
	"math/big"
	"math/rand"
	"strings"
	"testing"

	"pendulum/api"
	"pendulum/ecdsa"
	"pendulum/mod"
	"pendulum/num"
	"pendulum/point"
)

const all = math.MaxUint64

var (
	zero = api.Num{}
	one  = api.Num{1}
	top  = api.Num{all, all, all, all}
	inf  = api.Point{Inf: true}
)

// value is a number by the library's arithmetic, which the tests hold the program's against.
func value(n api.Num) *big.Int {
	return new(big.Int).SetBytes([]byte(num.Big(n)))
}

// order is n, which the published tables have as these digits.
func order() *big.Int {
	n, _ := new(big.Int).SetString("ffffffff00000000ffffffffffffffffbce6faada7179e84f3b9cac2fc632551", 16)
	return n
}

// left is what is left of a value modulo n.
func left(v *big.Int) api.Num {
	var n api.Num
	v = new(big.Int).Mod(v, order())
	for i := range 256 {
		n[i/64] |= uint64(v.Bit(i)) << (i % 64)
	}
	return n
}

func read(t testing.TB, digits string) api.Num {
	t.Helper()
	n, e := num.Parse(strings.ToLower(digits))
	if e != api.OK {
		t.Fatalf("Parse(%s): %v", digits, e)
	}
	return n
}

func more(a api.Num, k uint64) api.Num {
	out, _ := num.Add(a, api.Num{k})
	return out
}

func less(a api.Num, k uint64) api.Num {
	out, _ := num.Sub(a, api.Num{k})
	return out
}

// half is n less 1, divided by 2.
func half() api.Num {
	return left(new(big.Int).Rsh(order(), 1))
}

// negated is n less a number from 1 to n less 1.
func negated(a api.Num) api.Num {
	return left(new(big.Int).Neg(value(a)))
}

// public is a secret number's point by the library.
func public(t testing.TB, d api.Num) api.Point {
	t.Helper()
	key, err := ecdh.P256().NewPrivateKey([]byte(num.Big(d)))
	if err != nil {
		t.Fatal(err)
	}
	text := hex.EncodeToString(key.PublicKey().Bytes())
	return api.Point{X: read(t, text[2:66]), Y: read(t, text[66:])}
}

// signature is the chapter's R and S by the library, whether or not one of them is 0.
func signature(t testing.TB, d, k api.Num, digest string) api.Sign {
	t.Helper()
	r := value(public(t, k).X)
	r.Mod(r, order())
	s := new(big.Int).Mul(r, value(d))
	s.Add(s, new(big.Int).SetBytes([]byte(digest)))
	s.Mul(s, new(big.Int).ModInverse(value(k), order()))
	return api.Sign{R: left(r), S: left(s)}
}

// taken tells whether the library takes a signature.
func taken(t testing.TB, q api.Point, digest string, s api.Sign) bool {
	t.Helper()
	key, err := library.ParseUncompressedPublicKey(elliptic.P256(), []byte("\x04"+num.Big(q.X)+num.Big(q.Y)))
	if err != nil {
		return false
	}
	text, err := asn1.Marshal(struct{ R, S *big.Int }{value(s.R), value(s.S)})
	if err != nil {
		t.Fatal(err)
	}
	return library.VerifyASN1(key, []byte(digest), text)
}

// drawn are numbers from 1 to n less 1, the same in every run.
func drawn(seed int64, count int) []api.Num {
	r := rand.New(rand.NewSource(seed))
	out := make([]api.Num, count)
	for i := range out {
		out[i] = left(new(big.Int).Rand(r, order()))
		if out[i] == zero {
			out[i] = one
		}
	}
	return out
}

// secrets are numbers from 1 to n less 1: both ends, the middle, and drawn ones.
func secrets(seed int64, count int) []api.Num {
	n := mod.N256()
	out := []api.Num{one, {2}, {3}, less(n, 1), less(n, 2), half(), more(half(), 1), {0, 0, 0, 1}}
	return append(out, drawn(seed, count)...)
}

// strangers are numbers that are not from 1 to n less 1.
func strangers() []api.Num {
	n := mod.N256()
	return []api.Num{zero, n, more(n, 1), more(n, 2), mod.P256(), less(top, 1), top}
}

// digests are digests with numbers at both ends, around n, and of texts.
func digests() []string {
	n := mod.N256()
	out := []string{}
	for _, z := range []api.Num{zero, one, less(n, 1), n, more(n, 1), top, {0, 0, 0, 1 << 63}} {
		out = append(out, num.Big(z))
	}
	for _, text := range []string{"", "abc", "sample", "test"} {
		z := sha256.Sum256([]byte(text))
		out = append(out, string(z[:]))
	}
	return out
}

// misfits are texts that are no digests.
func misfits() []string {
	return []string{"", "\x00", strings.Repeat("\x00", 31), strings.Repeat("\x00", 33), strings.Repeat("\xff", 31), strings.Repeat("\xff", 33), strings.Repeat("a", 64), strings.Repeat("a", 4096)}
}

// nowhere are points that are none, or Inf.
func nowhere() []api.Point {
	b := point.Base()
	p := mod.P256()
	// The curve has a point with an X of 5, and p and 5 is still a number.
	five, _ := found(api.Num{5})
	return []api.Point{
		inf,
		{},
		{X: b.X, Y: b.X},
		{X: b.Y, Y: b.X},
		{X: more(b.X, 1), Y: b.Y},
		{X: b.X, Y: less(b.Y, 1)},
		{X: b.X, Y: b.Y, Inf: true},
		{X: one, Inf: true},
		{Y: one, Inf: true},
		{X: more(p, 5), Y: five.Y},
		{X: p, Y: b.Y},
		{X: top, Y: top},
	}
}

// found is a point of a number below p that has one, by the library's square root.
func found(x api.Num) (api.Point, bool) {
	p := value(mod.P256())
	b, _ := new(big.Int).SetString("5ac635d8aa3a93e7b3ebbd55769886bc651d06b0cc53b0f63bce3c3e27d2604b", 16)
	v := new(big.Int).Exp(value(x), big.NewInt(3), p)
	v.Sub(v, new(big.Int).Mul(value(x), big.NewInt(3))).Add(v, b).Mod(v, p)
	if v.ModSqrt(v, p) == nil {
		return api.Point{}, false
	}
	a := api.Point{X: x}
	for i := range 256 {
		a.Y[i/64] |= uint64(v.Bit(i)) << (i % 64)
	}
	return a, true
}

// high is a point whose X is above n, with what X is modulo n.
func high(t testing.TB) (api.Point, api.Num) {
	t.Helper()
	for k := uint64(1); k < 1000; k++ {
		if a, ok := found(more(mod.N256(), k)); ok {
			return a, api.Num{k}
		}
	}
	t.Fatal("no point with an X above n")
	return api.Point{}, zero
}

// example is a signature that holds.
type example struct {
	d, k   api.Num
	q      api.Point
	digest string
	sign   api.Sign
}

// examples are made by the library alone.
func examples(t testing.TB, seed int64, count int) []example {
	t.Helper()
	texts := digests()
	ks := secrets(seed+1, count)
	out := []example{}
	for i, d := range secrets(seed, count) {
		x := example{d: d, k: ks[(i+3)%len(ks)], q: public(t, d), digest: texts[i%len(texts)]}
		x.sign = signature(t, x.d, x.k, x.digest)
		if x.sign.S != zero {
			out = append(out, x)
		}
	}
	return out
}

// P5.1: the point of a secret number is the one that the library has.
func TestPublic(t *testing.T) {
	for _, d := range secrets(1, 20) {
		got, e := ecdsa.Public(d)
		if e != api.OK || got != public(t, d) {
			t.Errorf("Public(%s): %v, %v", num.Text(d), got, e)
		}
	}
}

// P5.1: at both ends of secret numbers stand the base and the one of the other sign.
func TestPublicEnds(t *testing.T) {
	first, e := ecdsa.Public(one)
	if e != api.OK || first != point.Base() {
		t.Errorf("Public of 1: %v, %v", first, e)
	}
	last, e := ecdsa.Public(less(mod.N256(), 1))
	if e != api.OK || last != point.Neg(point.Base()) {
		t.Errorf("Public of n less 1: %v, %v", last, e)
	}
}

// P5.1, rule 0.3: 0, n and what is above it are no secret numbers, and there is no point beside the error.
func TestPublicOfStrangers(t *testing.T) {
	for _, d := range strangers() {
		if got, e := ecdsa.Public(d); e != api.ErrNumber || got != (api.Point{}) {
			t.Errorf("Public(%s): %v, %v", num.Text(d), got, e)
		}
	}
}

// P5.2: R and S are those that the library's arithmetic makes, at digests below n and above it.
func TestSign(t *testing.T) {
	ks := secrets(3, 4)
	for i, d := range secrets(2, 4) {
		for j, digest := range digests() {
			k := ks[(i+j)%len(ks)]
			want, wantError := signature(t, d, k, digest), api.OK
			if want.S == zero {
				want, wantError = api.Sign{}, api.ErrNumber
			}
			if got, e := ecdsa.Sign(d, k, digest); e != wantError || got != want {
				t.Errorf("Sign(%s, %s, %x): %v, %v, not %v", num.Text(d), num.Text(k), digest, got, e, want)
			}
		}
	}
}

// published are the signatures of RFC 6979, A.2.5, which hold for the SHA-256 of texts.
func published(t testing.TB) []example {
	t.Helper()
	d := read(t, "C9AFA9D845BA75166B5C215767B1D6934E50C3DB36E89B127B8A622B120F6721")
	q := api.Point{
		X: read(t, "60FED4BA255A9D31C961EB74C6356D68C049B8923B61FA6CE669622E60F29FB6"),
		Y: read(t, "7903FE1008B8BC99A41AE9E95628BC64F2F1B20C2D7E9F5177A3C294D4462299"),
	}
	sample, test := sha256.Sum256([]byte("sample")), sha256.Sum256([]byte("test"))
	return []example{
		{d: d, q: q, digest: string(sample[:]),
			k: read(t, "A6E3C57DD01ABE90086538398355DD4C3B17AA873382B0F24D6129493D8AAD60"),
			sign: api.Sign{
				R: read(t, "EFD48B2AACB6A8FD1140DD9CD45E81D69D2C877B56AAF991C34D0EA84EAF3716"),
				S: read(t, "F7CB1C942D657C41D436C7A1B6E29F65F3E900DBB9AFF4064DC4AB2F843ACDA8"),
			}},
		{d: d, q: q, digest: string(test[:]),
			k: read(t, "D16B6AE827F17175E040871A1C7EC3500192C4C92677336EC2537ACAEE0008E0"),
			sign: api.Sign{
				R: read(t, "F1ABB023518351CD71D881567B1EA663ED3EFCF6C5132B354F28D3B0B7D38367"),
				S: read(t, "019F4113742A2B14BD25926B49C649155F267E60D3814B4C0CC84250E46F0083"),
			}},
	}
}

// P5.1, P5.2, P5.3: what is published is what is made, and is taken.
func TestPublished(t *testing.T) {
	for _, x := range published(t) {
		if q, e := ecdsa.Public(x.d); e != api.OK || q != x.q {
			t.Errorf("Public: %v, %v", q, e)
		}
		if s, e := ecdsa.Sign(x.d, x.k, x.digest); e != api.OK || s != x.sign {
			t.Errorf("Sign(%x): %v, %v", x.digest, s, e)
		}
		if e := ecdsa.Check(x.q, x.digest, x.sign); e != api.OK {
			t.Errorf("Check(%x): %v", x.digest, e)
		}
	}
}

// The chapter's example 1 (P5.2, P5.3).
func TestExamples(t *testing.T) {
	base := point.Base()
	zeros, ones := strings.Repeat("\x00", 32), strings.Repeat("\x01", 32)
	s, e := ecdsa.Sign(one, one, zeros)
	if want := mod.Rem(base.X, zero, mod.N256()); e != api.OK || s.R != want || s.S != want {
		t.Fatalf("Sign: %v, %v", s, e)
	}
	if e := ecdsa.Check(base, zeros, s); e != api.OK {
		t.Errorf("Check of zeros: %v", e)
	}
	if e := ecdsa.Check(base, ones, s); e != api.ErrSign {
		t.Errorf("Check of ones: %v", e)
	}
}

// refuses fails if Sign answers anything but an error.
func refuses(t *testing.T, d, k api.Num, digest string, want api.Errno) {
	t.Helper()
	if s, e := ecdsa.Sign(d, k, digest); e != want || s != (api.Sign{}) {
		t.Errorf("Sign(%s, %s, %x): %v, %v, not %v", num.Text(d), num.Text(k), digest, s, e, want)
	}
}

// P5.2, rules 0.2 and 0.3: which d, k and digests are refused, by which error, and that numbers are looked at first.
func TestSignErrors(t *testing.T) {
	fit := digests()[7]
	for _, a := range strangers() {
		refuses(t, a, one, fit, api.ErrNumber)
		refuses(t, one, a, fit, api.ErrNumber)
		refuses(t, a, a, fit, api.ErrNumber)
		for _, digest := range misfits() {
			refuses(t, a, one, digest, api.ErrNumber)
			refuses(t, one, a, digest, api.ErrNumber)
		}
	}
	for _, digest := range misfits() {
		refuses(t, one, one, digest, api.ErrForm)
		refuses(t, less(mod.N256(), 1), less(mod.N256(), 1), digest, api.ErrForm)
	}
}

// zeroing is the digest with which S is 0: its number and R d are 0 modulo n.
func zeroing(r, d api.Num) string {
	return num.Big(left(new(big.Int).Neg(new(big.Int).Mul(value(r), value(d)))))
}

// P5.2: a digest with which S is 0 is not signed.
func TestSignOfNoS(t *testing.T) {
	ks := secrets(5, 10)
	for i, d := range secrets(4, 10) {
		k := ks[len(ks)-1-i]
		refuses(t, d, k, zeroing(signature(t, d, k, digests()[0]).R, d), api.ErrNumber)
	}
}

// P5.3: what the library's arithmetic signs is taken.
func TestCheck(t *testing.T) {
	for _, x := range examples(t, 6, 12) {
		if e := ecdsa.Check(x.q, x.digest, x.sign); e != api.OK {
			t.Errorf("Check(%v, %x, %v): %v", x.q, x.digest, x.sign, e)
		}
	}
}

// P5.3: what the library signs is taken.
func TestCheckOfLibrary(t *testing.T) {
	for _, d := range secrets(7, 6) {
		key, err := library.ParseRawPrivateKey(elliptic.P256(), []byte(num.Big(d)))
		if err != nil {
			t.Fatal(err)
		}
		for _, digest := range digests()[5:] {
			text, err := key.Sign(nil, []byte(digest), crypto.SHA256)
			if err != nil {
				t.Fatal(err)
			}
			var s struct{ R, S *big.Int }
			if _, err := asn1.Unmarshal(text, &s); err != nil {
				t.Fatal(err)
			}
			if e := ecdsa.Check(public(t, d), digest, api.Sign{R: left(s.R), S: left(s.S)}); e != api.OK {
				t.Errorf("Check of %x by %s: %v", digest, num.Text(d), e)
			}
		}
	}
}

// flipped is a number with another bit.
func flipped(n api.Num, i int) api.Num {
	n[i/64] ^= 1 << (i % 64)
	return n
}

// P5.3: another R, S, digest or point than those of the signature is refused.
func TestCheckOfOthers(t *testing.T) {
	x := published(t)[0]
	z, _ := num.FromBig(x.digest)
	for i := 0; i < 256; i += 5 {
		for what, e := range map[string]api.Errno{
			"R":      ecdsa.Check(x.q, x.digest, api.Sign{R: flipped(x.sign.R, i), S: x.sign.S}),
			"S":      ecdsa.Check(x.q, x.digest, api.Sign{R: x.sign.R, S: flipped(x.sign.S, i)}),
			"digest": ecdsa.Check(x.q, num.Big(flipped(z, i)), x.sign),
		} {
			if e != api.ErrSign {
				t.Errorf("%s with another bit %d: %v", what, i, e)
			}
		}
		if e := ecdsa.Check(public(t, flipped(x.d, i)), x.digest, x.sign); e != api.ErrSign {
			t.Errorf("another secret number (bit %d): %v", i, e)
		}
	}
	if e := ecdsa.Check(x.q, x.digest, api.Sign{R: x.sign.S, S: x.sign.R}); e != api.ErrSign {
		t.Errorf("R and S exchanged: %v", e)
	}
	if e := ecdsa.Check(point.Neg(x.q), x.digest, x.sign); e != api.ErrSign {
		t.Errorf("the point of the other sign: %v", e)
	}
}

// P5.3: Inf and what is no point is refused first, whatever else is wrong (rule 0.2).
func TestCheckOfNoPoint(t *testing.T) {
	x := published(t)[0]
	for _, q := range nowhere() {
		for _, s := range []api.Sign{x.sign, {}, {R: top, S: top}} {
			for _, digest := range []string{x.digest, "", strings.Repeat("a", 33)} {
				if e := ecdsa.Check(q, digest, s); e != api.ErrPoint {
					t.Errorf("Check(%v, %x, %v): %v", q, digest, s, e)
				}
			}
		}
	}
}

// P5.3: texts of other lengths are refused ahead of numbers.
func TestCheckOfNoDigest(t *testing.T) {
	x := published(t)[0]
	for _, digest := range append(misfits(), x.digest[:31], x.digest+"\x00", "\x00"+x.digest) {
		for _, s := range []api.Sign{x.sign, {}, {R: one}, {S: one}, {R: top, S: top}, {R: one, S: one}} {
			if e := ecdsa.Check(x.q, digest, s); e != api.ErrForm {
				t.Errorf("Check of %x, %v: %v", digest, s, e)
			}
		}
	}
}

// P5.3: R and S of 0, n and above are refused as numbers, even where n less would hold.
func TestCheckOfNoNumbers(t *testing.T) {
	x := published(t)[0]
	for _, a := range strangers() {
		for _, s := range []api.Sign{{R: a, S: x.sign.S}, {R: x.sign.R, S: a}, {R: a, S: a}, {R: a, S: one}, {R: one, S: a}} {
			if e := ecdsa.Check(x.q, x.digest, s); e != api.ErrNumber {
				t.Errorf("Check of %v: %v", s, e)
			}
		}
	}
	for _, a := range []api.Num{one, less(mod.N256(), 1)} {
		for _, s := range []api.Sign{{R: a, S: x.sign.S}, {R: x.sign.R, S: a}, {R: a, S: a}} {
			if e := ecdsa.Check(x.q, x.digest, s); e != api.ErrSign {
				t.Errorf("Check of %v: %v", s, e)
			}
		}
	}
}

// lowS is a signature with an S so low that n and it is still a number.
func lowS(t testing.TB) example {
	t.Helper()
	x := example{d: one, k: one, q: point.Base()}
	// By d and k of 1, S is z and R.
	r := value(public(t, one).X)
	x.digest = num.Big(left(new(big.Int).Sub(big.NewInt(7), r)))
	x.sign = signature(t, x.d, x.k, x.digest)
	return x
}

// P5.3: an S that is alike modulo n is none.
func TestCheckOfAlike(t *testing.T) {
	x := lowS(t)
	if x.sign.S != (api.Num{7}) || ecdsa.Check(x.q, x.digest, x.sign) != api.OK {
		t.Fatalf("no signature: %v", x.sign)
	}
	x.sign.S = more(mod.N256(), 7)
	if e := ecdsa.Check(x.q, x.digest, x.sign); e != api.ErrNumber {
		t.Errorf("S of n and 7: %v", e)
	}
	a, r := high(t)
	if e := ecdsa.Check(a, num.Big(zero), api.Sign{R: a.X, S: r}); e != api.ErrNumber {
		t.Errorf("R of n and %v: %v", r, e)
	}
}

// P5.3: where the sum is Inf, no S holds.
func TestCheckOfInf(t *testing.T) {
	rs := secrets(9, 6)
	for i, d := range secrets(8, 6) {
		r := rs[len(rs)-1-i]
		for _, s := range []api.Num{one, r, d, less(mod.N256(), 1)} {
			if e := ecdsa.Check(public(t, d), zeroing(r, d), api.Sign{R: r, S: s}); e != api.ErrSign {
				t.Errorf("Check by %s of %s, %s: %v", num.Text(d), num.Text(r), num.Text(s), e)
			}
		}
	}
}

// P5.3: of an X above n, R is what is left of it. With a digest of 0, and R as S, the sum is the point itself.
func TestCheckOfHighX(t *testing.T) {
	a, r := high(t)
	for _, z := range []api.Num{zero, mod.N256()} {
		if e := ecdsa.Check(a, num.Big(z), api.Sign{R: r, S: r}); e != api.OK {
			t.Errorf("Check of %s: %v", num.Text(r), e)
		}
		if e := ecdsa.Check(a, num.Big(z), api.Sign{R: more(r, 1), S: more(r, 1)}); e != api.ErrSign {
			t.Errorf("Check of %s: %v", num.Text(more(r, 1)), e)
		}
	}
	if !taken(t, a, num.Big(zero), api.Sign{R: r, S: r}) {
		t.Error("the library thinks otherwise")
	}
}

// P5.3: both multiples count: where one of them is that of 0, the other one is the sum.
func TestCheckOfOneMultiple(t *testing.T) {
	for _, q := range []api.Point{point.Base(), public(t, drawn(10, 1)[0])} {
		x := mod.Rem(q.X, zero, mod.N256())
		if e := ecdsa.Check(q, num.Big(zero), api.Sign{R: x, S: x}); e != api.OK {
			t.Errorf("Check of %v: %v", q, e)
		}
	}
}

// P5.4: the lower one of S and n less S, at the half of n, below and above it, and at both ends.
func TestLow(t *testing.T) {
	n := mod.N256()
	for _, x := range []struct{ s, want api.Num }{
		{zero, zero},
		{one, one},
		{api.Num{2}, api.Num{2}},
		{less(half(), 1), less(half(), 1)},
		{half(), half()},
		{more(half(), 1), half()},
		{more(half(), 2), less(half(), 1)},
		{less(n, 2), api.Num{2}},
		{less(n, 1), one},
	} {
		for _, r := range []api.Num{zero, one, half(), more(half(), 1), less(n, 1)} {
			if got := ecdsa.Low(api.Sign{R: r, S: x.s}); got != (api.Sign{R: r, S: x.want}) {
				t.Errorf("Low of %s, %s: %v", num.Text(r), num.Text(x.s), got)
			}
		}
	}
	for _, s := range drawn(11, 200) {
		want := s
		if value(s).Cmp(value(half())) > 0 {
			want = negated(s)
		}
		if got := ecdsa.Low(api.Sign{R: one, S: s}); got != (api.Sign{R: one, S: want}) {
			t.Errorf("Low of %s: %v", num.Text(s), got)
		}
	}
}

// P5.4: with an R or S that is not below n, a signature stays as it is.
func TestLowOfStrangers(t *testing.T) {
	others := []api.Num{zero, one, half(), more(half(), 1), less(mod.N256(), 1)}
	for _, a := range strangers()[1:] {
		for _, b := range append(others, a) {
			for _, s := range []api.Sign{{R: a, S: b}, {R: b, S: a}} {
				if got := ecdsa.Low(s); got != s {
					t.Errorf("Low of %v: %v", s, got)
				}
			}
		}
	}
}

// P5.5: what Sign tells, Check takes; so does the library.
func TestSignedHolds(t *testing.T) {
	ks := secrets(13, 10)
	for i, d := range secrets(12, 10) {
		q, _ := ecdsa.Public(d)
		digest := digests()[i%len(digests())]
		s, e := ecdsa.Sign(d, ks[(i+5)%len(ks)], digest)
		if e != api.OK {
			t.Fatalf("Sign: %v", e)
		}
		if e := ecdsa.Check(q, digest, s); e != api.OK || !taken(t, q, digest, s) {
			t.Errorf("Check of %x by %s: %v", digest, num.Text(d), e)
		}
	}
}

// mirrored is the other digest that a signature holds for: its number, the other one and 2 R d are 0 modulo n.
func mirrored(x example) string {
	z := new(big.Int).Mul(value(x.sign.R), value(x.d))
	z.Lsh(z, 1).Add(z, new(big.Int).SetBytes([]byte(x.digest)))
	return num.Big(left(z.Neg(z)))
}

// P5.5: no other digest is taken, but those alike modulo n and the one on the other side.
func TestNoOtherDigest(t *testing.T) {
	for _, x := range examples(t, 14, 4) {
		z := new(big.Int).SetBytes([]byte(x.digest))
		opposite := num.Big(left(new(big.Int).Neg(z)))
		others := append(digests(), opposite, zeroing(x.sign.R, x.d), num.Big(x.sign.R), num.Big(x.sign.S))
		twin := mirrored(x)
		for _, digest := range others {
			other := new(big.Int).SetBytes([]byte(digest))
			want := api.ErrSign
			if left(other) == left(z) || num.Big(left(other)) == twin {
				want = api.OK
			}
			if e := ecdsa.Check(x.q, digest, x.sign); e != want {
				t.Errorf("Check of %x, signed for %x: %v, not %v", digest, x.digest, e, want)
			}
		}
		if e := ecdsa.Check(x.q, twin, x.sign); e != api.OK {
			t.Errorf("Check of the digest on the other side: %v", e)
		}
	}
}

// P5.5: digests that are alike modulo n have one signature, and each is taken for the other.
func TestAlikeDigests(t *testing.T) {
	for _, z := range []uint64{0, 1, 2, all} {
		below, above := num.Big(api.Num{z}), num.Big(more(mod.N256(), z))
		for _, d := range drawn(int64(z), 2) {
			a, _ := ecdsa.Sign(d, api.Num{5}, below)
			b, _ := ecdsa.Sign(d, api.Num{5}, above)
			if a != b || ecdsa.Check(public(t, d), below, b) != api.OK || ecdsa.Check(public(t, d), above, a) != api.OK {
				t.Errorf("digests of %d and n more: %v, %v", z, a, b)
			}
		}
	}
}

// P5.6: with S negated a signature holds, too, and Low of both is one, which holds.
func TestOtherSignature(t *testing.T) {
	for _, x := range examples(t, 15, 8) {
		other := api.Sign{R: x.sign.R, S: negated(x.sign.S)}
		if e := ecdsa.Check(x.q, x.digest, other); e != api.OK {
			t.Errorf("Check of the other one: %v", e)
		}
		low := ecdsa.Low(x.sign)
		if low != ecdsa.Low(other) || low != x.sign && low != other || low != ecdsa.Low(low) {
			t.Errorf("Low of both: %v, %v", low, ecdsa.Low(other))
		}
		if e := ecdsa.Check(x.q, x.digest, low); e != api.OK {
			t.Errorf("Check of the lower one: %v", e)
		}
	}
}

// FuzzSign holds Public and Sign against the library's arithmetic, and Check against what Sign tells.
func FuzzSign(f *testing.F) {
	f.Add([]byte{1}, []byte{1}, []byte{0})
	n := []byte(num.Big(mod.N256()))
	f.Add(n, n, n)
	f.Fuzz(func(t *testing.T, a, b, c []byte) {
		d, k := left(new(big.Int).SetBytes(a)), left(new(big.Int).SetBytes(b))
		if d == zero || k == zero {
			return
		}
		var z [32]byte
		copy(z[:], c)
		want := signature(t, d, k, string(z[:]))
		s, e := ecdsa.Sign(d, k, string(z[:]))
		if want.S == zero && e == api.ErrNumber {
			return
		}
		q, _ := ecdsa.Public(d)
		if s != want || e != api.OK || q != public(t, d) || ecdsa.Check(q, string(z[:]), s) != api.OK {
			t.Errorf("Sign(%v, %v, %x): %v, %v, not %v", d, k, z, s, e, want)
		}
	})
}

// FuzzCheck holds Check against the library at any numbers, and at points of secret numbers.
func FuzzCheck(f *testing.F) {
	for _, x := range published(f) {
		f.Add([]byte(num.Big(x.d)), []byte(x.digest), []byte(num.Big(x.sign.R)), []byte(num.Big(x.sign.S)))
	}
	f.Fuzz(func(t *testing.T, a, digest, r, s []byte) {
		d := left(new(big.Int).SetBytes(a))
		if d == zero || len(digest) != 32 || len(r) != 32 || len(s) != 32 {
			return
		}
		var sign api.Sign
		sign.R, _ = num.FromBig(string(r))
		sign.S, _ = num.FromBig(string(s))
		q := public(t, d)
		e := ecdsa.Check(q, string(digest), sign)
		if (e == api.OK) != taken(t, q, string(digest), sign) {
			t.Errorf("Check(%v, %x, %v): %v", q, digest, sign, e)
		}
	})
}

func BenchmarkSign(b *testing.B) {
	x := published(b)[0]
	for range b.N {
		ecdsa.Sign(x.d, x.k, x.digest)
	}
}

func BenchmarkCheck(b *testing.B) {
	x := published(b)[0]
	for range b.N {
		ecdsa.Check(x.q, x.digest, x.sign)
	}
}
