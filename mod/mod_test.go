package mod_test

import (
	"math"
	"math/big"
	"math/rand"
	"testing"

	"pendulum/api"
	"pendulum/mod"
	"pendulum/num"
)

const all = math.MaxUint64

var (
	zero = api.Num{}
	one  = api.Num{1}
	two  = api.Num{2}
	top  = api.Num{all, all, all, all}
)

// value is a number by the library's arithmetic, which the tests hold the program's against.
func value(n api.Num) *big.Int {
	v := new(big.Int)
	for k := len(n) - 1; k >= 0; k-- {
		v.Lsh(v, 64).Or(v, new(big.Int).SetUint64(n[k]))
	}
	return v
}

// number is a value below 2^256.
func number(v *big.Int) api.Num {
	var n api.Num
	for i := range 256 {
		n[i/64] |= uint64(v.Bit(i)) << (i % 64)
	}
	return n
}

// left is what is left, from 0 up to m, of a value that may be below 0; of an m of 0 it is 0.
func left(v *big.Int, m api.Num) api.Num {
	if m == zero {
		return zero
	}
	return number(new(big.Int).Mod(v, value(m)))
}

func primes() []api.Num {
	return []api.Num{mod.P25519(), mod.P256(), mod.N256()}
}

// edges are the primes and numbers around them, the least ones, powers of 2, the greatest ones, and ones of divisors in common.
func edges() []api.Num {
	out := []api.Num{zero, one, two, {3}, {9}, {10}, {all}, {0, 1}, {1, 1}, {all, all}, {0, 0, 1}, {0, 0, 0, 1},
		{0, 0, 0, 1 << 63}, {1, 0, 0, 1 << 63}, {all, all, all, 1<<63 - 1}, {all - 1, all, all, all}, top}
	for _, p := range primes() {
		less, _ := num.Sub(p, one)
		more, _ := num.Add(p, one)
		out = append(out, less, p, more)
	}
	return out
}

// samples are the edges and numbers of all lengths, the same in every run.
func samples(more int) []api.Num {
	r := rand.New(rand.NewSource(2))
	out := edges()
	for range more {
		var n api.Num
		for k := range n {
			switch r.Intn(5) {
			case 0:
			case 1:
				n[k] = all
			default:
				n[k] = r.Uint64() >> uint(r.Intn(64))
			}
		}
		out = append(out, n)
	}
	return out
}

// P2.1: the three primes, as they are written out.
func TestPrimes(t *testing.T) {
	for _, c := range []struct {
		name, want string
		got        api.Num
	}{
		{"P25519", "7fffffffffffffffffffffffffffffffffffffffffffffffffffffffffffffed", mod.P25519()},
		{"P256", "ffffffff00000001000000000000000000000000ffffffffffffffffffffffff", mod.P256()},
		{"N256", "ffffffff00000000ffffffffffffffffbce6faada7179e84f3b9cac2fc632551", mod.N256()},
	} {
		if got := num.Text(c.got); got != c.want {
			t.Errorf("%s = %s, want %s", c.name, got, c.want)
		}
		if !value(c.got).ProbablyPrime(32) {
			t.Errorf("%s is no prime", c.name)
		}
	}
	less := new(big.Int).Lsh(big.NewInt(1), 255)
	if less.Sub(less, big.NewInt(19)).Cmp(value(mod.P25519())) != 0 {
		t.Error("P25519 is not 2^255 less 19")
	}
}

// The chapter's examples, and the edges that it names, written out.
func TestWrittenOut(t *testing.T) {
	n := func(x uint64) api.Num { return api.Num{x} }
	for _, c := range []struct {
		name      string
		got, want api.Num
	}{
		{"Mul of 5 and 7 modulo 9", mod.Mul(n(5), n(7), n(9)), n(8)},
		{"Sub of 2 and 5 modulo 9", mod.Sub(n(2), n(5), n(9)), n(6)},
		{"Sub of 5 and 2 modulo 9", mod.Sub(n(5), n(2), n(9)), n(3)},
		{"Sub of 0 and 9 modulo 9", mod.Sub(n(0), n(9), n(9)), zero},
		{"Sub of 20 and 31 modulo 9", mod.Sub(n(20), n(31), n(9)), n(7)},
		{"Sub of 31 and 20 modulo 9", mod.Sub(n(31), n(20), n(9)), n(2)},
		{"Sub of 0 and 2^256 less 1 modulo 10", mod.Sub(zero, top, n(10)), n(5)},
		{"Add of 4 and 5 modulo 9", mod.Add(n(4), n(5), n(9)), zero},
		{"Add of 20 and 31 modulo 9", mod.Add(n(20), n(31), n(9)), n(6)},
		{"Add of 2^256 less 1, twice, modulo 10", mod.Add(top, top, n(10)), n(0)},
		{"Add of 2^256 less 2, twice, modulo 2^256 less 1", mod.Add(api.Num{all - 1, all, all, all}, api.Num{all - 1, all, all, all}, top), api.Num{all - 2, all, all, all}},
		{"Mul of 2^256 less 1, twice, modulo 10", mod.Mul(top, top, n(10)), n(5)},
		{"Mul of 2^256 less 2, twice, modulo 2^256 less 1", mod.Mul(api.Num{all - 1, all, all, all}, api.Num{all - 1, all, all, all}, top), one},
		{"Rem of 2^256 modulo 10", mod.Rem(zero, one, n(10)), n(6)},
		{"Rem of 2^256 modulo 2^256 less 1", mod.Rem(zero, one, top), one},
		{"Pow of 2 and 10 modulo 1000", mod.Pow(n(2), n(10), n(1000)), n(24)},
		{"Pow of 7 and 0 modulo 10", mod.Pow(n(7), zero, n(10)), one},
		{"Pow of 0 and 0 modulo 10", mod.Pow(zero, zero, n(10)), one},
		{"Pow of 0 and 5 modulo 10", mod.Pow(zero, n(5), n(10)), zero},
		{"Pow of 7 and 0 modulo 1", mod.Pow(n(7), zero, one), zero},
		{"Pow of 17 and 1 modulo 10", mod.Pow(n(17), one, n(10)), n(7)},
		{"Pow of 2 and 2^256 less 1 modulo 7", mod.Pow(n(2), top, n(7)), one},
		{"Pow of 2 and 2^255 modulo 7", mod.Pow(n(2), api.Num{0, 0, 0, 1 << 63}, n(7)), n(4)},
		{"Pow of 2 and 2^254 modulo 7", mod.Pow(n(2), api.Num{0, 0, 0, 1 << 62}, n(7)), n(2)},
	} {
		if c.got != c.want {
			t.Errorf("%s = %v, want %v", c.name, c.got, c.want)
		}
	}
}

// Of an m of 0 all tell 0 and false; of an m of 1 nothing is left, and the inverse is 0.
func TestLeastModuli(t *testing.T) {
	list := samples(20)
	for _, m := range []api.Num{zero, one} {
		for _, a := range list {
			for _, b := range list {
				for name, got := range map[string]api.Num{
					"Rem": mod.Rem(a, b, m), "Add": mod.Add(a, b, m), "Sub": mod.Sub(a, b, m), "Mul": mod.Mul(a, b, m),
				} {
					if got != zero {
						t.Fatalf("%s(%v, %v, %v) = %v", name, a, b, m, got)
					}
				}
			}
			for _, e := range []api.Num{zero, one, two, top} {
				if got := mod.Pow(a, e, m); got != zero {
					t.Fatalf("Pow(%v, %v, %v) = %v", a, e, m, got)
				}
			}
			if got, ok := mod.Inv(a, m); got != zero || ok != (m == one) {
				t.Fatalf("Inv(%v, %v) = %v, %v", a, m, got, ok)
			}
		}
	}
}

// check holds Rem, Add, Sub and Mul against the library's.
func check(t *testing.T, a, b, m api.Num) {
	t.Helper()
	va, vb := value(a), value(b)
	both := new(big.Int).Lsh(vb, 256)
	both.Add(both, va)
	if got, want := mod.Rem(a, b, m), left(both, m); got != want {
		t.Fatalf("Rem(%v, %v, %v) = %v, want %v", a, b, m, got, want)
	}
	if got, want := mod.Add(a, b, m), left(new(big.Int).Add(va, vb), m); got != want {
		t.Fatalf("Add(%v, %v, %v) = %v, want %v", a, b, m, got, want)
	}
	if got, want := mod.Sub(a, b, m), left(new(big.Int).Sub(va, vb), m); got != want {
		t.Fatalf("Sub(%v, %v, %v) = %v, want %v", a, b, m, got, want)
	}
	if got, want := mod.Mul(a, b, m), left(new(big.Int).Mul(va, vb), m); got != want {
		t.Fatalf("Mul(%v, %v, %v) = %v, want %v", a, b, m, got, want)
	}
}

// P2.2: at all triples of edges, numbers greater than m, differences below 0 and sums of 2^256 and more among them.
func TestArithmeticEdges(t *testing.T) {
	list := edges()
	for _, a := range list {
		for _, b := range list {
			for _, m := range list {
				check(t, a, b, m)
			}
		}
	}
}

// P2.2: at samples, modulo the three primes and modulo any.
func TestArithmetic(t *testing.T) {
	list := samples(150)
	for i, a := range list {
		for j, b := range list {
			check(t, a, b, list[(i*13+j*7)%len(list)])
			check(t, a, b, primes()[(i+j)%3])
		}
	}
}

// power is a to the power e by the library.
func power(a, e, m api.Num) api.Num {
	if m == zero {
		return zero
	}
	return left(new(big.Int).Exp(value(a), value(e), value(m)), m)
}

// P2.3: Pow at edges of exponents and moduli, and at samples modulo the three primes.
func TestPow(t *testing.T) {
	list := edges()
	for _, a := range []api.Num{zero, two, mod.P256(), top} {
		for _, e := range list {
			for _, m := range list {
				if got, want := mod.Pow(a, e, m), power(a, e, m); got != want {
					t.Fatalf("Pow(%v, %v, %v) = %v, want %v", a, e, m, got, want)
				}
			}
		}
	}
	list = samples(200)
	for i, a := range list {
		e, m := list[(i*5+1)%len(list)], primes()[i%3]
		if got, want := mod.Pow(a, e, m), power(a, e, m); got != want {
			t.Fatalf("Pow(%v, %v, %v) = %v, want %v", a, e, m, got, want)
		}
	}
}

// P2.3: a power of a little exponent is that many products.
func TestPowIsProducts(t *testing.T) {
	for _, m := range []api.Num{{9}, {1000}, mod.P25519(), mod.P256(), mod.N256(), top} {
		for _, a := range []api.Num{zero, one, two, {3}, {999}, mod.P256(), top} {
			want := mod.Rem(one, zero, m)
			for e := range 40 {
				if got := mod.Pow(a, api.Num{uint64(e)}, m); got != want {
					t.Fatalf("Pow(%v, %d, %v) = %v, want %v", a, e, m, got, want)
				}
				want = mod.Mul(want, a, m)
			}
		}
	}
}

// checkInv holds an inverse against the library's, and against what makes it one.
func checkInv(t *testing.T, a, m api.Num) {
	t.Helper()
	got, ok := mod.Inv(a, m)
	want := m != zero && new(big.Int).GCD(nil, nil, value(a), value(m)).Cmp(big.NewInt(1)) == 0
	if ok != want {
		t.Fatalf("Inv(%v, %v) = %v, %v, want %v", a, m, got, ok, want)
	}
	if !ok {
		if got != zero {
			t.Fatalf("Inv(%v, %v) = %v beside false", a, m, got)
		}
		return
	}
	if num.Cmp(got, m) >= 0 || mod.Mul(a, got, m) != mod.Rem(one, zero, m) {
		t.Fatalf("Inv(%v, %v) = %v", a, m, got)
	}
}

// P2.4 and P2.6: an inverse is one, is below m, and is there just if a and m have no divisor but 1 in common.
func TestInv(t *testing.T) {
	for m := range uint64(60) {
		for a := range uint64(130) {
			checkInv(t, api.Num{a}, api.Num{m})
		}
	}
	list := samples(150)
	for _, a := range list {
		for _, m := range list {
			checkInv(t, a, m)
		}
	}
}

// P2.4: the chapter's examples, and inverses at the edges, written out.
func TestInvWrittenOut(t *testing.T) {
	less, _ := num.Sub(mod.P256(), one)
	more, _ := num.Add(mod.P256(), two)
	half, _, _, _ := num.Div(mod.P256(), zero, two)
	half, _ = num.Add(half, one)
	for _, c := range []struct {
		name       string
		a, m, want api.Num
		ok         bool
	}{
		{"2 modulo 9", two, api.Num{9}, api.Num{5}, true},
		{"3 modulo 9", api.Num{3}, api.Num{9}, zero, false},
		{"11 modulo 9", api.Num{11}, api.Num{9}, api.Num{5}, true},
		{"9 modulo 9", api.Num{9}, api.Num{9}, zero, false},
		{"0 modulo 9", zero, api.Num{9}, zero, false},
		{"1 modulo 9", one, api.Num{9}, one, true},
		{"8 modulo 9", api.Num{8}, api.Num{9}, api.Num{8}, true},
		{"0 modulo 1", zero, one, zero, true},
		{"5 modulo 1", api.Num{5}, one, zero, true},
		{"1 modulo 0", one, zero, zero, false},
		{"0 modulo 0", zero, zero, zero, false},
		{"1 modulo 2", one, two, one, true},
		{"p less 1 modulo p", less, mod.P256(), less, true},
		{"p modulo p", mod.P256(), mod.P256(), zero, false},
		{"p and 2 modulo p", more, mod.P256(), half, true},
		{"2^256 less 1 modulo 2^255", top, api.Num{0, 0, 0, 1 << 63}, api.Num{all, all, all, 1<<63 - 1}, true},
		{"2 modulo 2^255", two, api.Num{0, 0, 0, 1 << 63}, zero, false},
		{"2 modulo 2^256 less 1", two, top, api.Num{0, 0, 0, 1 << 63}, true},
	} {
		if got, ok := mod.Inv(c.a, c.m); got != c.want || ok != c.ok {
			t.Errorf("Inv of %s = %v, %v, want %v, %v", c.name, got, ok, c.want, c.ok)
		}
	}
}

// P2.4: the rows of Euclid that are the longest, of two of Fibonacci's numbers that follow each other.
func TestInvLongest(t *testing.T) {
	a, b := one, one
	for num.Len(b) < 256 {
		checkInv(t, a, b)
		checkInv(t, b, a)
		sum, carry := num.Add(a, b)
		if carry != 0 {
			break
		}
		a, b = b, sum
	}
	checkInv(t, a, b)
}

// P2.5: numbers modulo m are a ring.
func TestRing(t *testing.T) {
	list := samples(300)
	for i, a := range list {
		b, c := list[(i*5+1)%len(list)], list[(i*17+2)%len(list)]
		for _, m := range append(primes(), list[(i*29+3)%len(list)], api.Num{9}, top) {
			add := func(x, y api.Num) api.Num { return mod.Add(x, y, m) }
			mul := func(x, y api.Num) api.Num { return mod.Mul(x, y, m) }
			for name, ok := range map[string]bool{
				"sums have no order":          add(a, b) == add(b, a),
				"sums have no brackets":       add(add(a, b), c) == add(a, add(b, c)),
				"products have no order":      mul(a, b) == mul(b, a),
				"products have no brackets":   mul(mul(a, b), c) == mul(a, mul(b, c)),
				"products are distributive":   mul(a, add(b, c)) == add(mul(a, b), mul(a, c)),
				"0 is added without effect":   add(a, zero) == mod.Rem(a, zero, m),
				"1 times is without effect":   mul(a, one) == mod.Rem(a, zero, m),
				"a difference undoes a sum":   mod.Sub(add(a, b), b, m) == mod.Rem(a, zero, m),
				"a sum undoes a difference":   add(mod.Sub(a, b, m), b) == mod.Rem(a, zero, m),
				"a number less itself is 0":   mod.Sub(a, a, m) == zero,
				"multiples of m play no part": add(a, m) == mod.Rem(a, zero, m) && mul(m, b) == zero,
			} {
				if !ok {
					t.Fatalf("%s: not at %v, %v, %v modulo %v", name, a, b, c, m)
				}
			}
		}
	}
}

// P2.6: Pow of a sum of exponents is the product of Pows.
func TestPowOfSum(t *testing.T) {
	list := samples(120)
	for i, a := range list {
		d, e := list[(i*5+1)%len(list)], list[(i*17+2)%len(list)]
		sum, carry := num.Add(d, e)
		if carry != 0 {
			continue
		}
		for _, m := range append(primes(), list[(i*29+3)%len(list)]) {
			if got, want := mod.Pow(a, sum, m), mod.Mul(mod.Pow(a, d, m), mod.Pow(a, e, m), m); got != want {
				t.Fatalf("Pow(%v, %v and %v, %v) = %v, want %v", a, d, e, m, got, want)
			}
		}
	}
}

// P2.6: modulo a prime, the inverse is the power by p less 2, of each number that is not 0.
func TestInvIsPow(t *testing.T) {
	for _, p := range primes() {
		less, _ := num.Sub(p, two)
		for _, a := range samples(100) {
			got, ok := mod.Inv(a, p)
			if mod.Rem(a, zero, p) == zero {
				if got != zero || ok {
					t.Fatalf("Inv(%v, %v) = %v, %v", a, p, got, ok)
				}
				continue
			}
			if want := mod.Pow(a, less, p); got != want || !ok {
				t.Fatalf("Inv(%v, %v) = %v, %v, want %v", a, p, got, ok, want)
			}
		}
	}
}

// Rule 0.5: a number that a call is given is as it was.
func TestArgumentsStay(t *testing.T) {
	a, b, m := api.Num{1, 2, 3, 4}, api.Num{5, 6, 7, 8}, api.Num{9, 10, 11, 1}
	mod.Rem(a, b, m)
	mod.Add(a, b, m)
	mod.Sub(a, b, m)
	mod.Mul(a, b, m)
	mod.Pow(a, b, m)
	mod.Inv(a, m)
	if a != (api.Num{1, 2, 3, 4}) || b != (api.Num{5, 6, 7, 8}) || m != (api.Num{9, 10, 11, 1}) {
		t.Errorf("changed: %v, %v, %v", a, b, m)
	}
}

func FuzzMod(f *testing.F) {
	f.Add(num.Big(top), num.Big(top), num.Big(mod.P256()))
	f.Add(num.Big(zero), num.Big(one), num.Big(top))
	f.Add(num.Big(one), num.Big(two), "")
	f.Fuzz(func(t *testing.T, x, y, d string) {
		a, _ := num.FromBig(x)
		b, _ := num.FromBig(y)
		m, _ := num.FromBig(d)
		check(t, a, b, m)
		checkInv(t, a, m)
	})
}

func BenchmarkAdd(b *testing.B) {
	x := api.Num{3, 5, 7, 11}
	for range b.N {
		x = mod.Add(x, api.Num{all, 9, all, 13 << 50}, mod.P256())
	}
}

func BenchmarkMul(b *testing.B) {
	x := api.Num{3, 5, 7, 11}
	for range b.N {
		x = mod.Mul(x, api.Num{all, 9, all, 13 << 50}, mod.P256())
	}
}

func BenchmarkInv(b *testing.B) {
	x := api.Num{3, 5, 7, 11}
	for range b.N {
		x, _ = mod.Inv(x, mod.P256())
	}
}

func BenchmarkPow(b *testing.B) {
	x := api.Num{3, 5, 7, 11}
	less, _ := num.Sub(mod.P256(), two)
	for range b.N {
		x = mod.Pow(x, less, mod.P256())
	}
}
