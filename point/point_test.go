package point_test

import (
	"crypto/ecdh"
	"encoding/hex"
	"math"
	"math/big"
	"math/rand"
	"strings"
	"testing"

	"pendulum/api"
	"pendulum/mod"
	"pendulum/num"
	"pendulum/point"
)

const all = math.MaxUint64

var (
	zero = api.Num{}
	one  = api.Num{1}
	top  = api.Num{all, all, all, all}
	inf  = api.Point{Inf: true}
)

// value is a number by the library's arithmetic, which the tests hold the program's against.
func value(n api.Num) *big.Int {
	v := new(big.Int)
	for k := len(n) - 1; k >= 0; k-- {
		v.Lsh(v, 64).Or(v, new(big.Int).SetUint64(n[k]))
	}
	return v
}

// number is a value's lowest 256 bits.
func number(v *big.Int) api.Num {
	var n api.Num
	for i := range 256 {
		n[i/64] |= uint64(v.Bit(i)) << (i % 64)
	}
	return n
}

// left is what is left of a value modulo p.
func left(v *big.Int) api.Num {
	return number(new(big.Int).Mod(v, prime()))
}

func read(t testing.TB, digits string) api.Num {
	t.Helper()
	n, e := num.Parse(strings.ToLower(digits))
	if e != api.OK {
		t.Fatalf("Parse(%s): %v", digits, e)
	}
	return n
}

func at(t testing.TB, x, y string) api.Point {
	t.Helper()
	return api.Point{X: read(t, x), Y: read(t, y)}
}

// more is a number and another one; the test fails if that is 2^256 or more.
func more(t testing.TB, a, b api.Num) api.Num {
	t.Helper()
	sum, carry := num.Add(a, b)
	if carry != 0 {
		t.Fatalf("%v and %v are too great", a, b)
	}
	return sum
}

func less(a, b api.Num) api.Num {
	rest, _ := num.Sub(a, b)
	return rest
}

func prime() *big.Int {
	return value(mod.P256())
}

// height is x^3 - 3 x + b by the library.
func height(x *big.Int) *big.Int {
	b, _ := new(big.Int).SetString("5ac635d8aa3a93e7b3ebbd55769886bc651d06b0cc53b0f63bce3c3e27d2604b", 16)
	out := new(big.Int).Exp(x, big.NewInt(3), prime())
	out.Sub(out, new(big.Int).Mul(x, big.NewInt(3))).Add(out, b)
	return out.Mod(out, prime())
}

// isPoint tells by the library what the chapter's head says of a point.
func isPoint(a api.Point) bool {
	if a.Inf {
		return a.X == zero && a.Y == zero
	}
	x, y := value(a.X), value(a.Y)
	squared := new(big.Int).Exp(y, big.NewInt(2), prime())
	return x.Cmp(prime()) < 0 && y.Cmp(prime()) < 0 && squared.Cmp(height(x)) == 0
}

// sum is the chapter's sum by the library, with its division.
func sum(a, b api.Point) api.Point {
	if a.Inf {
		return b
	}
	if b.Inf {
		return a
	}
	p := prime()
	ax, ay, bx, by := value(a.X), value(a.Y), value(b.X), value(b.Y)
	above, below := new(big.Int).Sub(by, ay), new(big.Int).Sub(bx, ax)
	if ax.Cmp(bx) == 0 {
		if new(big.Int).Mod(new(big.Int).Add(ay, by), p).Sign() == 0 {
			return inf
		}
		above.Mul(ax, ax).Sub(above, big.NewInt(1)).Mul(above, big.NewInt(3))
		below.Add(ay, ay)
	}
	below.Mod(below, p)
	t := above.Mul(above, below.ModInverse(below, p))
	x := new(big.Int).Mul(t, t)
	x.Sub(x, ax).Sub(x, bx)
	y := new(big.Int).Sub(ax, x)
	y.Mul(y, t).Sub(y, ay)
	return api.Point{X: left(x), Y: left(y)}
}

// public is a multiple of the base by the library, of a number from 1 to mod.N256 less 1.
func public(t testing.TB, k api.Num) api.Point {
	t.Helper()
	key, err := ecdh.P256().NewPrivateKey([]byte(num.Big(k)))
	if err != nil {
		t.Fatal(err)
	}
	return apart(t, string(key.PublicKey().Bytes()))
}

// apart are the two coordinates of 65 bytes, without a look at the curve.
func apart(t testing.TB, s string) api.Point {
	t.Helper()
	return at(t, hex.EncodeToString([]byte(s[1:33])), hex.EncodeToString([]byte(s[33:])))
}

// sharedX is the X of a multiple by the library, of a number from 1 to mod.N256 less 1.
func sharedX(t testing.TB, k api.Num, a api.Point) string {
	t.Helper()
	key, err := ecdh.P256().NewPrivateKey([]byte(num.Big(k)))
	if err != nil {
		t.Fatal(err)
	}
	other, err := ecdh.P256().NewPublicKey([]byte("\x04" + num.Big(a.X) + num.Big(a.Y)))
	if err != nil {
		t.Fatal(err)
	}
	x, err := key.ECDH(other)
	if err != nil {
		t.Fatal(err)
	}
	return string(x)
}

// drawn are numbers of all lengths, the same in every run.
func drawn(seed int64, count int) []api.Num {
	r := rand.New(rand.NewSource(seed))
	out := make([]api.Num, count)
	for i := range out {
		for k := range out[i] {
			out[i][k] = r.Uint64()
		}
		if i%4 == 3 {
			out[i], _, _, _ = num.Div(out[i], zero, api.Num{0, 0, 1 << r.Intn(64)})
		}
	}
	return out
}

// factors are numbers at which multiples turn: around 0, around how many points there are, and the greatest.
func factors() []api.Num {
	n := mod.N256()
	out := []api.Num{zero, one, {2}, {3}, {4}, {5}, {7}, {8}, {255}, {all}, {0, 1}, {0, 0, 0, 1 << 63}, {all, all, all, all >> 1}, top}
	for k := range uint64(4) {
		above, _ := num.Add(n, api.Num{k})
		out = append(out, less(n, api.Num{k + 1}), above)
	}
	half, _, _, _ := num.Div(n, zero, api.Num{2})
	return append(out, half, less(half, one), mod.P256(), less(top, n))
}

// found is the point of a number below p that has one, by the library's square root; false of others.
func found(x api.Num) (api.Point, bool) {
	y := new(big.Int).ModSqrt(height(value(x)), prime())
	if y == nil {
		return api.Point{}, false
	}
	return api.Point{X: x, Y: left(y)}, true
}

// points are Inf, points of little numbers and at the edges of coordinates, and drawn ones; they are no multiples that the program made.
func points(t testing.TB, count int) []api.Point {
	t.Helper()
	base := at(t, baseX, baseY)
	out := []api.Point{inf, base, sum(base, base), sum(base, sum(base, base))}
	out = append(out, at(t, lowX, lowY), low(t), api.Point{X: base.X, Y: less(mod.P256(), base.Y)})
	for _, x := range drawn(1, 4*count) {
		if a, ok := found(mod.Rem(x, zero, mod.P256())); ok && len(out) < count {
			out = append(out, a)
		}
	}
	return out
}

const (
	baseX = "6b17d1f2e12c4247f8bce6e563a440f277037d812deb33a0f4a13945d898c296"
	baseY = "4fe342e2fe1a7f9b8ee7eb4a7c0f9e162bce33576b315ececbb6406837bf51f5"
	lowX  = "0000000000000000000000000000000000000000000000000000000000000000"
	lowY  = "66485c780e2f83d72433bd5d84a06bb6541c2af31dae871728bf856a174f93f4"
)

// low is a point with a Y of 1, so that p and it is still a number.
func low(t testing.TB) api.Point {
	t.Helper()
	return api.Point{X: read(t, "09e78d4ef60d05f750f6636209092bc43cbdd6b47e11a9de20a9feb2a50bb96c"), Y: one}
}

// P4.1: the base is the published one, and a point.
func TestBase(t *testing.T) {
	if got, want := point.Base(), at(t, baseX, baseY); got != want || !isPoint(want) {
		t.Errorf("Base() = %v, want %v", got, want)
	}
}

// P4.1: On of points, and of each of them with another Y, another X or with Inf beside its coordinates.
func TestOn(t *testing.T) {
	for _, a := range points(t, 60) {
		if !point.On(a) || !isPoint(a) {
			t.Fatalf("not On(%v)", a)
		}
		other := a
		other.Inf = !a.Inf
		for name, b := range map[string]api.Point{
			"Inf the other way": other,
			"Y and 1":           {X: a.X, Y: mod.Add(a.Y, one, mod.P256()), Inf: a.Inf},
			"X and 1":           {X: mod.Add(a.X, one, mod.P256()), Y: a.Y, Inf: a.Inf},
			"X and Y exchanged": {X: a.Y, Y: a.X, Inf: a.Inf},
			"X the other sign":  {X: mod.Sub(zero, a.X, mod.P256()), Y: a.Y, Inf: a.Inf},
		} {
			if got, want := point.On(b), isPoint(b); got != want {
				t.Errorf("%s: On(%v) = %v, want %v", name, b, got, want)
			}
		}
	}
}

// P4.1: On at the edges, written out.
func TestOnWrittenOut(t *testing.T) {
	p := mod.P256()
	five := at(t, "0000000000000000000000000000000000000000000000000000000000000005", "459243b9aa581806fe913bce99817ade11ca503c64d9a3c533415c083248fbcc")
	origin := at(t, lowX, lowY)
	base := at(t, baseX, baseY)
	for _, c := range []struct {
		name string
		a    api.Point
		want bool
	}{
		{"Inf", inf, true},
		{"Inf with an X", api.Point{X: one, Inf: true}, false},
		{"Inf with a Y", api.Point{Y: one, Inf: true}, false},
		{"Inf with an X and a Y", api.Point{X: one, Y: one, Inf: true}, false},
		{"Inf with the base's X and Y", api.Point{X: base.X, Y: base.Y, Inf: true}, false},
		{"Inf with an X of p", api.Point{X: p, Inf: true}, false},
		{"Inf with a Y of p", api.Point{Y: p, Inf: true}, false},
		{"Inf with a Y of 2^192", api.Point{Y: api.Num{0, 0, 0, 1}, Inf: true}, false},
		{"0 and 0, not Inf", api.Point{}, false},
		{"p and p, not Inf", api.Point{X: p, Y: p}, false},
		{"an X of 0", origin, true},
		{"an X of p", api.Point{X: p, Y: origin.Y}, false},
		{"an X of 5", five, true},
		{"an X of p and 5", api.Point{X: more(t, p, five.X), Y: five.Y}, false},
		{"a Y of 1", low(t), true},
		{"a Y of p less 1", api.Point{X: low(t).X, Y: less(p, one)}, true},
		{"a Y of p and 1", api.Point{X: low(t).X, Y: more(t, p, one)}, false},
		{"the greatest X", api.Point{X: top, Y: one}, false},
		{"the greatest Y", api.Point{X: one, Y: top}, false},
		{"the base with its X as Y", api.Point{X: base.X, Y: base.X}, false},
		{"a point of x^3 + b", beside(t, 0), false},
		{"a point of x^3 + 3 x + b", beside(t, 3), false},
		{"a point of x^3 - 2 x + b", beside(t, -2), false},
	} {
		if got := point.On(c.a); got != c.want {
			t.Errorf("On of %s = %v, want %v", c.name, got, c.want)
		}
	}
}

// beside is a point of another curve, of which there is another number ahead of x.
func beside(t testing.TB, middle int64) api.Point {
	t.Helper()
	for x := int64(1); x < 100; x++ {
		y := height(big.NewInt(x))
		y.Add(y, big.NewInt((3+middle)*x)).Mod(y, prime())
		if root := new(big.Int).ModSqrt(y, prime()); root != nil {
			return api.Point{X: api.Num{uint64(x)}, Y: left(root)}
		}
	}
	t.Fatal("there is none")
	return api.Point{}
}

// P4.1: every bit of a point plays a part.
func TestOnEveryBit(t *testing.T) {
	for i := range 256 {
		a, b := point.Base(), point.Base()
		a.X[i/64] ^= 1 << (i % 64)
		b.Y[i/64] ^= 1 << (i % 64)
		if got, want := point.On(a), isPoint(a); got != want {
			t.Errorf("bit %d of X: On = %v, want %v", i, got, want)
		}
		if point.On(b) {
			t.Errorf("bit %d of Y: On", i)
		}
	}
}

// P4.1: Neg has the same X, and p less Y; of Inf it is Inf.
func TestNeg(t *testing.T) {
	if got := point.Neg(inf); got != inf {
		t.Errorf("Neg(Inf) = %v", got)
	}
	for _, a := range points(t, 60)[1:] {
		want := api.Point{X: a.X, Y: less(mod.P256(), a.Y)}
		if got := point.Neg(a); got != want || !point.On(got) {
			t.Errorf("Neg(%v) = %v, want %v", a, got, want)
		}
		if got := point.Neg(point.Neg(a)); got != a {
			t.Errorf("Neg of Neg of %v = %v", a, got)
		}
	}
}

// P4.2: the chapter's sum at all pairs: Inf on either side and on both, a point and itself, a point and its Neg among them.
func TestAdd(t *testing.T) {
	list := points(t, 30)
	for _, a := range list[1:] {
		list = append(list, api.Point{X: a.X, Y: less(mod.P256(), a.Y)})
	}
	for _, a := range list {
		for _, b := range list {
			if got, want := point.Add(a, b), sum(a, b); got != want {
				t.Fatalf("Add(%v, %v) = %v, want %v", a, b, got, want)
			}
		}
	}
}

// P4.2: sums written out, the chapter's example among them.
func TestAddWrittenOut(t *testing.T) {
	base := at(t, baseX, baseY)
	for _, c := range []struct {
		name       string
		a, b, want api.Point
	}{
		{"Inf and Inf", inf, inf, inf},
		{"the base and Inf", base, inf, base},
		{"Inf and the base", inf, base, base},
		{"the base and itself", base, base, multiple(t, "2")},
		{"the base and twice it", base, multiple(t, "2"), multiple(t, "3")},
		{"twice the base and it", multiple(t, "2"), base, multiple(t, "3")},
		{"twice the base and thrice it", multiple(t, "2"), multiple(t, "3"), multiple(t, "5")},
		{"the base and its Neg", base, point.Neg(base), inf},
		{"its Neg and the base", point.Neg(base), base, inf},
		{"thrice the base and twice its Neg", multiple(t, "3"), point.Neg(multiple(t, "2")), base},
		{"twice the base and its Neg", multiple(t, "2"), point.Neg(base), base},
	} {
		if got := point.Add(c.a, c.b); got != c.want {
			t.Errorf("%s = %v, want %v", c.name, got, c.want)
		}
	}
}

// multiple is a published multiple of the base.
func multiple(t testing.TB, k string) api.Point {
	t.Helper()
	switch k {
	case "2":
		return at(t, "7cf27b188d034f7e8a52380304b51ac3c08969e277f21b35a60b48fc47669978",
			"07775510db8ed040293d9ac69f7430dbba7dade63ce982299e04b79d227873d1")
	case "3":
		return at(t, "5ecbe4d1a6330a44c8f7ef951d4bf165e6c6b721efada985fb41661bc6e7fd6c",
			"8734640c4998ff7e374b06ce1a64a2ecd82ab036384fb83d9a79b127a27d5032")
	case "5":
		return at(t, "51590b7a515140d2d784c85608668fdfef8c82fd1f5be52421554a0dc3d033ed",
			"e0c17da8904a727d8ae1bf36bf8a79260d012f00d4d80888d1d0bb44fda16da4")
	case "112233445566778899":
		return at(t, "339150844ec15234807fe862a86be77977dbfb3ae3d96f4c22795513aeaab82f",
			"b1c14ddfdc8ec1b2583f51e85a5eb3a155840f2034730e9b5ada38b674336a21")
	case "RFC 6979":
		return at(t, "60fed4ba255a9d31c961eb74c6356d68c049b8923b61fa6ce669622e60f29fb6",
			"7903fe1008b8bc99a41ae9e95628bc64f2f1b20c2d7e9f5177a3c294d4462299")
	}
	t.Fatalf("no multiple by %s", k)
	return api.Point{}
}

// P4.3: published multiples of the base, and those by 0, by 1, by mod.N256, around it and far above it.
func TestMulWrittenOut(t *testing.T) {
	base, n := at(t, baseX, baseY), mod.N256()
	for _, c := range []struct {
		name string
		k    api.Num
		want api.Point
	}{
		{"0", zero, inf},
		{"1", one, base},
		{"2", api.Num{2}, multiple(t, "2")},
		{"3", api.Num{3}, multiple(t, "3")},
		{"5", api.Num{5}, multiple(t, "5")},
		{"112233445566778899", api.Num{112233445566778899}, multiple(t, "112233445566778899")},
		{"RFC 6979's", read(t, "c9afa9d845ba75166b5c215767b1d6934e50c3db36e89b127b8a622b120f6721"), multiple(t, "RFC 6979")},
		{"n less 2", less(n, api.Num{2}), point.Neg(multiple(t, "2"))},
		{"n less 1", less(n, one), point.Neg(base)},
		{"n", n, inf},
		{"n and 1", more(t, n, one), base},
		{"n and 2", more(t, n, api.Num{2}), multiple(t, "2")},
		{"n and 5", more(t, n, api.Num{5}), multiple(t, "5")},
		{"2^256 less 1", top, public(t, less(top, n))},
	} {
		if got := point.Mul(c.k, base); got != c.want {
			t.Errorf("Mul of %s = %v, want %v", c.name, got, c.want)
		}
		if got := point.Mul(c.k, inf); got != inf {
			t.Errorf("Mul of %s and Inf = %v", c.name, got)
		}
	}
}

// P4.3: a little multiple is that many sums.
func TestMulIsSums(t *testing.T) {
	for _, a := range points(t, 12) {
		want := inf
		for k := range uint64(70) {
			if got := point.Mul(api.Num{k}, a); got != want {
				t.Fatalf("Mul(%d, %v) = %v, want %v", k, a, got, want)
			}
			want = sum(want, a)
		}
	}
}

// P4.3: a power of 2 is that many sums of a point and itself.
func TestMulByPowers(t *testing.T) {
	a := points(t, 8)[7]
	want := a
	for i := range 256 {
		var k api.Num
		k[i/64] = 1 << (i % 64)
		if got := point.Mul(k, a); got != want {
			t.Fatalf("Mul(2^%d, %v) = %v, want %v", i, a, got, want)
		}
		want = sum(want, want)
	}
}

// P4.3: multiples against the library, of the base and of other points; numbers above mod.N256 come round.
func TestMul(t *testing.T) {
	list := points(t, 60)[1:]
	for i, k := range append(factors(), drawn(2, 40)...) {
		a := list[i%len(list)]
		got, ofBase := point.Mul(k, a), point.Mul(k, point.Base())
		rest := mod.Rem(k, zero, mod.N256())
		if rest == zero {
			if got != inf || ofBase != inf {
				t.Fatalf("Mul(%v, %v) = %v; of the base %v", k, a, got, ofBase)
			}
			continue
		}
		if want := public(t, rest); ofBase != want {
			t.Fatalf("Mul(%v) of the base = %v, want %v", k, ofBase, want)
		}
		if num.Big(got.X) != sharedX(t, rest, a) || !isPoint(got) || got.Inf {
			t.Fatalf("Mul(%v, %v) = %v, want an X %x", k, a, got, sharedX(t, rest, a))
		}
	}
}

// multipleOf is a multiple by the chapter's sums alone.
func multipleOf(k api.Num, a api.Point) api.Point {
	out := inf
	for i := 255; i >= 0; i-- {
		out = sum(out, out)
		if value(k).Bit(i) == 1 {
			out = sum(out, a)
		}
	}
	return out
}

// P4.3: both coordinates of a multiple, by the chapter's sums.
func TestMulBySums(t *testing.T) {
	list := points(t, 30)
	for i, k := range append(factors(), drawn(3, 10)...) {
		a := list[i%len(list)]
		if got, want := point.Mul(k, a), multipleOf(k, a); got != want {
			t.Fatalf("Mul(%v, %v) = %v, want %v", k, a, got, want)
		}
	}
}

// P4.3: Both is the sum of two multiples, the first one of the base: at pairs of edges, and where one multiple is the other or its Neg.
func TestBoth(t *testing.T) {
	list := points(t, 20)
	edges := factors()
	check := func(j, k api.Num, a api.Point) {
		t.Helper()
		want := sum(multipleOf(j, at(t, baseX, baseY)), multipleOf(k, a))
		if got := point.Both(j, k, a); got != want {
			t.Fatalf("Both(%v, %v, %v) = %v, want %v", j, k, a, got, want)
		}
	}
	for i, j := range edges {
		check(j, edges[(i*5+3)%len(edges)], list[i%len(list)])
		check(j, j, point.Base())
		check(j, j, point.Neg(point.Base()))
		check(j, zero, list[i%len(list)])
		check(zero, j, list[i%len(list)])
		check(j, edges[(i*7+2)%len(edges)], inf)
	}
	ks := drawn(4, 12)
	for i, j := range drawn(5, 12) {
		check(j, ks[i], list[i%len(list)])
	}
}

// P4.3: all little pairs of multiples, of the base itself, of its Neg and of its double: each sum on the way may be Inf or meet what is added.
func TestBothLittle(t *testing.T) {
	base, n := point.Base(), mod.N256()
	for step, a := range map[uint64]api.Point{0: inf, 1: base, 2: multiple(t, "2"), 3: multiple(t, "3")} {
		for j := range uint64(10) {
			for k := range uint64(10) {
				want := multipleOf(api.Num{j + step*k}, base)
				if got := point.Both(api.Num{j}, api.Num{k}, a); got != want {
					t.Fatalf("Both(%d, %d, the base %d times) = %v, want %v", j, k, step, got, want)
				}
				want = multipleOf(mod.Sub(api.Num{j}, api.Num{step * k}, n), base)
				if got := point.Both(api.Num{j}, api.Num{k}, point.Neg(a)); got != want {
					t.Fatalf("Both(%d, %d, the base's Neg %d times) = %v, want %v", j, k, step, got, want)
				}
			}
		}
	}
}

// P4.4: Encode has a byte 4, X and Y, the highest byte first; of Inf there is nothing.
func TestEncode(t *testing.T) {
	if got := point.Encode(inf); got != "" {
		t.Errorf("Encode(Inf) = %x", got)
	}
	want, _ := hex.DecodeString("04" + baseX + baseY)
	if got := point.Encode(point.Base()); got != string(want) {
		t.Errorf("Encode(Base()) = %x, want %x", got, want)
	}
	for _, a := range points(t, 40)[1:] {
		want := append([]byte{4}, value(a.X).FillBytes(make([]byte, 32))...)
		want = append(want, value(a.Y).FillBytes(make([]byte, 32))...)
		if got := point.Encode(a); got != string(want) {
			t.Errorf("Encode(%v) = %x, want %x", a, got, want)
		}
	}
}

// P4.4: which error Decode tells of a text, with nothing beside it.
func TestDecodeErrors(t *testing.T) {
	good := "\x04" + num.Big(read(t, baseX)) + num.Big(read(t, baseY))
	p := mod.P256()
	five, fiveY := api.Num{5}, read(t, "459243b9aa581806fe913bce99817ade11ca503c64d9a3c533415c083248fbcc")
	for _, c := range []struct {
		name, s string
		want    api.Errno
	}{
		{"nothing", "", api.ErrShort},
		{"a byte 4", "\x04", api.ErrShort},
		{"33 bytes", good[:33], api.ErrShort},
		{"64 bytes", good[:64], api.ErrShort},
		{"64 bytes that are no point", "\x04" + strings.Repeat("\xff", 63), api.ErrShort},
		{"66 bytes", good + "\x00", api.ErrLong},
		{"66 bytes that are no point", "\x04" + strings.Repeat("\xff", 65), api.ErrLong},
		{"129 bytes", good + good[1:], api.ErrLong},
		{"1000 bytes", "\x04" + strings.Repeat("\x00", 999), api.ErrLong},
		{"a byte 2 alone", "\x02", api.ErrForm},
		{"33 bytes of the short form", "\x03" + good[1:33], api.ErrForm},
		{"a byte 0 alone", "\x00", api.ErrForm},
		{"the digit 4", "4" + good[1:], api.ErrForm},
		{"64 bytes behind another one", good[1:], api.ErrForm},
		{"65 bytes that begin with 6", "\x06" + good[1:], api.ErrForm},
		{"66 bytes that begin with 5", "\x05" + good[1:] + "\x00", api.ErrForm},
		{"a 4 too late", "\x00\x04" + good[1:64], api.ErrForm},
		{"0 and 0", "\x04" + strings.Repeat("\x00", 64), api.ErrPoint},
		{"the greatest numbers", "\x04" + strings.Repeat("\xff", 64), api.ErrPoint},
		{"X and Y exchanged", "\x04" + good[33:] + good[1:33], api.ErrPoint},
		{"another last byte", good[:64] + "\xf4", api.ErrPoint},
		{"an X of p and 5", "\x04" + num.Big(more(t, p, five)) + num.Big(fiveY), api.ErrPoint},
		{"a Y of p and 1", "\x04" + num.Big(low(t).X) + num.Big(more(t, p, one)), api.ErrPoint},
		{"an X of p", "\x04" + num.Big(p) + num.Big(read(t, lowY)), api.ErrPoint},
		{"both p", "\x04" + num.Big(p) + num.Big(p), api.ErrPoint},
	} {
		if a, e := point.Decode(c.s); a != (api.Point{}) || e != c.want {
			t.Errorf("Decode of %s = %v, %v, want %v", c.name, a, e, c.want)
		}
	}
	if a, e := point.Decode(good); a != at(t, baseX, baseY) || e != api.OK {
		t.Errorf("Decode of the base = %v, %v", a, e)
	}
}

// P4.4: every first byte at every length.
func TestDecodeLengths(t *testing.T) {
	good := point.Encode(point.Base()) + strings.Repeat("\x00", 10)
	for first := range 256 {
		for length := 1; length <= len(good); length++ {
			want := api.OK
			switch {
			case first != 4:
				want = api.ErrForm
			case length < 65:
				want = api.ErrShort
			case length > 65:
				want = api.ErrLong
			}
			s := string([]byte{byte(first)}) + good[1:length]
			if a, e := point.Decode(s); e != want || (a == point.Base()) != (want == api.OK) {
				t.Fatalf("Decode of %d bytes that begin with %d = %v, %v, want %v", length, first, a, e, want)
			}
		}
	}
}

// P4.5: sums do not hang on order or brackets, Neg undoes, and all that is told is a point.
func TestGroup(t *testing.T) {
	list := points(t, 40)
	for _, a := range list[:10] {
		list = append(list, point.Neg(a), point.Add(a, a))
	}
	for i, a := range list {
		for j := range list {
			b, c := list[j], list[(i*7+j*3)%len(list)]
			ab := point.Add(a, b)
			if !isPoint(ab) || !point.On(ab) {
				t.Fatalf("Add(%v, %v) = %v, which is no point", a, b, ab)
			}
			if got := point.Add(b, a); got != ab {
				t.Fatalf("Add(%v, %v) = %v, the other way round %v", a, b, ab, got)
			}
			if here, there := point.Add(ab, c), point.Add(a, point.Add(b, c)); here != there {
				t.Fatalf("%v, %v and %v: %v and %v", a, b, c, here, there)
			}
			if got := point.Add(ab, point.Neg(b)); got != a {
				t.Fatalf("Add of %v and of %v and its Neg = %v", a, b, got)
			}
		}
		if got := point.Add(a, point.Neg(a)); got != inf {
			t.Fatalf("Add of %v and its Neg = %v", a, got)
		}
	}
}

// P4.5: multiples and Boths are points too.
func TestAllArePoints(t *testing.T) {
	list := points(t, 40)
	ks := append(factors(), drawn(6, 20)...)
	for i, k := range ks {
		a := list[i%len(list)]
		for _, b := range []api.Point{point.Mul(k, a), point.Both(k, ks[(i*3+1)%len(ks)], a), point.Neg(a)} {
			if !isPoint(b) || !point.On(b) {
				t.Fatalf("of %v and %v: %v, which is no point", k, a, b)
			}
		}
	}
}

// P4.6: Mul of a sum of numbers is the sum of Muls, modulo mod.N256 too.
func TestMulOfSum(t *testing.T) {
	list := points(t, 30)
	ks := append(factors(), drawn(7, 30)...)
	for i, j := range ks {
		k, a := ks[(i*11+5)%len(ks)], list[i%len(list)]
		want := point.Add(point.Mul(j, a), point.Mul(k, a))
		if got := point.Mul(mod.Add(j, k, mod.N256()), a); got != want {
			t.Fatalf("Mul of %v and %v modulo n, of %v = %v, want %v", j, k, a, got, want)
		}
		if whole, carry := num.Add(j, k); carry == 0 {
			if got := point.Mul(whole, a); got != want {
				t.Fatalf("Mul of %v and %v, of %v = %v, want %v", j, k, a, got, want)
			}
		}
	}
}

// P4.6: mod.N256 times any point is Inf, and one time less its Neg.
func TestOrder(t *testing.T) {
	for _, a := range points(t, 60) {
		if got := point.Mul(mod.N256(), a); got != inf {
			t.Errorf("Mul of n and %v = %v", a, got)
		}
		if got := point.Mul(less(mod.N256(), one), a); got != point.Neg(a) {
			t.Errorf("Mul of n less 1 and %v = %v", a, got)
		}
		if got := point.Mul(more(t, mod.N256(), one), a); got != a {
			t.Errorf("Mul of n and 1 and %v = %v", a, got)
		}
		if got := point.Both(mod.N256(), mod.N256(), a); got != inf {
			t.Errorf("Both of n and n and %v = %v", a, got)
		}
	}
}

// P4.7: Decode undoes Encode of any point but Inf.
func TestThereAndBack(t *testing.T) {
	list := points(t, 100)[1:]
	for _, k := range drawn(8, 20) {
		list = append(list, point.Mul(k, point.Base()))
	}
	for _, a := range list {
		s := point.Encode(a)
		if got, e := point.Decode(s); len(s) != 65 || got != a || e != api.OK {
			t.Errorf("Decode of Encode of %v = %v, %v", a, got, e)
		}
	}
	if a, e := point.Decode(point.Encode(inf)); a != (api.Point{}) || e != api.ErrShort {
		t.Errorf("Decode of Encode of Inf = %v, %v", a, e)
	}
}

// Rule 0.1: what is no point is answered somehow, and no call panics or goes on for ever.
func TestNoPoints(t *testing.T) {
	others := []api.Point{{}, {X: one}, {Y: one}, {X: top, Y: top}, {X: mod.P256(), Y: mod.P256()},
		{X: one, Y: one, Inf: true}, {X: top, Y: top, Inf: true}, {X: mod.P256(), Y: one}, {X: point.Base().X, Y: one}}
	for _, a := range others {
		point.Neg(a)
		point.Encode(a)
		for _, k := range []api.Num{zero, one, {2}, {7}, mod.N256(), top} {
			point.Mul(k, a)
			point.Both(top, k, a)
		}
		for _, b := range append(others, points(t, 10)...) {
			point.Add(a, b)
			point.Add(b, a)
		}
	}
}

func FuzzBoth(f *testing.F) {
	f.Add("", "", "")
	f.Add("\x01", num.Big(mod.N256()), "\x02")
	f.Add(num.Big(top), num.Big(top), num.Big(top))
	f.Fuzz(func(t *testing.T, j, k, l string) {
		number := func(s string) api.Num { return number(new(big.Int).SetBytes([]byte(s))) }
		a := point.Mul(number(l), point.Base())
		if want := multipleOf(number(l), at(t, baseX, baseY)); a != want {
			t.Fatalf("Mul(%x) = %v, want %v", l, a, want)
		}
		want := sum(multipleOf(number(j), at(t, baseX, baseY)), multipleOf(number(k), a))
		if got := point.Both(number(j), number(k), a); got != want {
			t.Fatalf("Both(%x, %x, %v) = %v, want %v", j, k, a, got, want)
		}
	})
}

func FuzzDecode(f *testing.F) {
	f.Add("")
	f.Add("\x02")
	f.Add(point.Encode(point.Base()))
	f.Fuzz(func(t *testing.T, s string) {
		a, e := point.Decode(s)
		want := api.OK
		switch {
		case s == "" || s[0] == 4 && len(s) < 65:
			want = api.ErrShort
		case s[0] != 4:
			want = api.ErrForm
		case len(s) > 65:
			want = api.ErrLong
		case !isPoint(apart(t, s)):
			want = api.ErrPoint
		}
		if e != want {
			t.Fatalf("Decode(%x) = %v, %v, want %v", s, a, e, want)
		}
		if e == api.OK && point.Encode(a) != s || e != api.OK && a != (api.Point{}) {
			t.Fatalf("Decode(%x) = %v, %v", s, a, e)
		}
	})
}

func BenchmarkMul(b *testing.B) {
	k, a := drawn(9, 1)[0], point.Base()
	for range b.N {
		a = point.Mul(k, a)
	}
}

func BenchmarkBoth(b *testing.B) {
	ks, a := drawn(10, 2), point.Base()
	for range b.N {
		a = point.Both(ks[0], ks[1], a)
	}
}
