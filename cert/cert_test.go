package cert_test

import (
	"crypto/ecdh"
	library "crypto/ecdsa"
	"crypto/x509"
	"encoding/hex"
	"math"
	"math/big"
	"math/rand"
	"slices"
	"strings"
	"testing"

	"pendulum/api"
	"pendulum/cert"
	"pendulum/ecdsa"
	"pendulum/sha"
)

// P12.1: a certificate written out byte by byte, as the chapter says it.
func TestWrittenOut(t *testing.T) {
	c := api.Cert{Serial: api.Num{200}, Issuer: "r", Subject: "st", From: 0, To: 951782400, Key: keyOf(t, 1), Ca: true, Names: []string{"*.a", "b"}, Sign: api.Sign{R: api.Num{127}, S: api.Num{128}}}
	tbs := "3081d9" + // 217 bytes: 5, 4, 12, 14, 36, 15, 91 and 40
		"a003020102" + // TagFirst with 2
		"020200c8" +
		"300a06082a8648ce3d040302" +
		"300c310a300806035504030c0172" +
		"3022180f31393730303130313030303030305a180f32303030303232393030303030305a" +
		"300d310b300906035504030c027374" +
		"3059301306072a8648ce3d020106082a8648ce3d030107034200" +
		"046b17d1f2e12c4247f8bce6e563a440f277037d812deb33a0f4a13945d898c2964fe342e2fe1a7f9b8ee7eb4a7c0f9e162bce33576b315ececbb6406837bf51f5" +
		"a3263024" +
		"300f0603551d130101ff040530030101ff" +
		"30110603551d11040a300882032a2e61820162"
	whole := "3081f4" + tbs + "300a06082a8648ce3d040302" + "030a00" + "300702017f02020080" // 244 bytes: 220, 12 and 12
	if got := hex.EncodeToString([]byte(mustTbs(t, c))); got != tbs {
		t.Errorf("Tbs = %s, want %s", got, tbs)
	}
	if got := hex.EncodeToString([]byte(mustWrite(t, c))); got != whole {
		t.Errorf("Write = %s, want %s", got, whole)
	}
}

// P12.1: what is written is as the words say, of the least, the greatest, and many between.
func TestWrite(t *testing.T) {
	r := rand.New(rand.NewSource(1))
	list := []api.Cert{least(t), plain(t), greatest(t)}
	for range 500 {
		list = append(list, drawnCert(t, r))
	}
	for _, c := range list {
		if got, want := mustTbs(t, c), tbsByWords(c); got != want {
			t.Fatalf("Tbs(%+v) = %x, want %x", c, got, want)
		}
		if got, want := mustWrite(t, c), writtenByWords(c); got != want {
			t.Fatalf("Write(%+v) = %x, want %x", c, got, want)
		}
	}
	if n := len(mustWrite(t, greatest(t))); n > api.MaxDer {
		t.Errorf("the greatest has %d bytes", n)
	}
}

// likeLibrary holds what is written against what Go's own library reads of it.
func likeLibrary(t *testing.T, c api.Cert) {
	t.Helper()
	s := mustWrite(t, c)
	x, err := x509.ParseCertificate([]byte(s))
	if err != nil {
		t.Fatalf("the library refuses %+v: %v", c, err)
	}
	key, ok := x.PublicKey.(*library.PublicKey)
	if !ok {
		t.Fatalf("the library reads a key of another kind: %+v", x.PublicKey)
	}
	public, err := key.ECDH()
	if err != nil || public.Curve() != ecdh.P256() || string(public.Bytes()) != pointText(c.Key) {
		t.Errorf("the library reads another key: %v", err)
	}
	if string(x.Raw) != s || string(x.RawTBSCertificate) != mustTbs(t, c) || x.Version != 3 || x.SerialNumber.Cmp(value(c.Serial)) != 0 {
		t.Errorf("the library reads other bytes, or another version %d or number %v of %+v", x.Version, x.SerialNumber, c)
	}
	if x.Issuer.CommonName != c.Issuer || x.Subject.CommonName != c.Subject || len(x.Issuer.Names) != 1 || len(x.Subject.Names) != 1 {
		t.Errorf("the library reads %v and %v of %+v", x.Issuer, x.Subject, c)
	}
	if x.NotBefore.Unix() != c.From || x.NotAfter.Unix() != c.To || !x.BasicConstraintsValid || x.IsCA != c.Ca || !slices.Equal(x.DNSNames, c.Names) {
		t.Errorf("the library reads %v, %v, %v, %v of %+v", x.NotBefore, x.NotAfter, x.IsCA, x.DNSNames, c)
	}
	if x.SignatureAlgorithm != x509.ECDSAWithSHA256 || len(x.UnhandledCriticalExtensions) != 0 {
		t.Errorf("the library reads a signature by %v", x.SignatureAlgorithm)
	}
}

// P12.1: Go's own library reads what is written as it was.
func TestLikeTheLibrary(t *testing.T) {
	r := rand.New(rand.NewSource(2))
	for range 200 {
		c := drawnCert(t, r)
		c.Names = []string{"a.example", "*.b.example", "c"}[:r.Intn(4)] // it asks more of names
		likeLibrary(t, c)
	}
}

// P12.3: Go's own library takes what is signed.
func TestLibraryTakesWhatIsSigned(t *testing.T) {
	root := mustMake(t, api.Cert{Serial: api.Num{1}, Issuer: "r", Subject: "r", To: 4102444800, Key: keyOf(t, 11), Ca: true}, 11, 3)
	leaf := mustMake(t, api.Cert{Serial: api.Num{2}, Issuer: "r", Subject: "s", To: 4102444800, Key: keyOf(t, 12), Names: []string{"*.a.example"}}, 11, 4)
	parent, err := x509.ParseCertificate([]byte(mustWrite(t, root)))
	if err != nil {
		t.Fatal(err)
	}
	child, err := x509.ParseCertificate([]byte(mustWrite(t, leaf)))
	if err != nil {
		t.Fatal(err)
	}
	if err := parent.CheckSignatureFrom(parent); err != nil {
		t.Errorf("the root's own signature: %v", err)
	}
	if err := child.CheckSignatureFrom(parent); err != nil {
		t.Errorf("the leaf's signature: %v", err)
	}
	if err := child.VerifyHostname("x.a.example"); err != nil {
		t.Errorf("the leaf's name: %v", err)
	}
}

// edge is a certificate that is fit but for one thing, or just so.
type edge struct {
	name string
	edit func(*api.Cert)
	fit  bool
}

// labelEdges are lengths and bytes of one of a certificate's texts.
func labelEdges(what string, set func(*api.Cert, string)) []edge {
	var out []edge
	add := func(name, s string, fit bool) {
		out = append(out, edge{what + " " + name, func(c *api.Cert) { set(c, s) }, fit})
	}
	add("of no byte", "", false)
	add("of 1 byte", "x", true)
	add("of 2 bytes", "xy", true)
	add("of 63 bytes", strings.Repeat("x", 63), true)
	add("of 64 bytes", strings.Repeat("x", 64), true)
	add("of 65 bytes", strings.Repeat("x", 65), false)
	add("of 66 bytes", strings.Repeat("x", 66), false)
	add("of 3000 bytes", strings.Repeat("x", 3000), false)
	add("of 70000 bytes", strings.Repeat("x", 70000), false)
	for b := range 256 {
		fit := b >= 32 && b <= 126
		add("of a byte alone", string([]byte{byte(b)}), fit)
		add("with a byte first", string([]byte{byte(b), 'x', 'y'}), fit)
		add("with a byte last", strings.Repeat("x", 63)+string([]byte{byte(b)}), fit)
	}
	add("of runes", "b\u00fccher", false)
	return out
}

func timeEdges() []edge {
	var out []edge
	for _, x := range []struct {
		from, to int64
		fit      bool
	}{
		{api.LeastTime, api.MostTime, true}, {api.LeastTime - 1, 0, false}, {api.LeastTime, api.LeastTime, true}, {api.LeastTime - 1, api.LeastTime - 1, false},
		{api.LeastTime + 1, api.LeastTime, false}, {api.LeastTime, api.LeastTime - 1, false}, {api.LeastTime, api.LeastTime + 1, true},
		{api.MostTime, api.MostTime, true}, {api.MostTime - 1, api.MostTime, true}, {api.MostTime, api.MostTime - 1, false}, {0, api.MostTime + 1, false},
		{api.MostTime, api.MostTime + 1, false}, {api.MostTime + 1, api.MostTime + 1, false}, {api.MostTime + 1, api.MostTime, false}, {api.MostTime - 1, api.MostTime - 1, true},
		{0, 0, true}, {0, -1, false}, {1, 0, false}, {-1, 0, true}, {500, 500, true}, {500, 499, false}, {500, 501, true}, {-5, -5, true}, {-5, -6, false},
		{math.MinInt64, 0, false}, {math.MinInt64, math.MaxInt64, false}, {0, math.MaxInt64, false}, {0, math.MinInt64, false}, {math.MaxInt64, 0, false},
	} {
		out = append(out, edge{"times", func(c *api.Cert) { c.From, c.To = x.from, x.to }, x.fit})
	}
	return out
}

func keyEdges(t testing.TB) []edge {
	q := keyOf(t, 5)
	beside := q
	beside.Y[0] ^= 1
	above := api.Point{Y: q.Y, X: numOf(new(big.Int).Add(value(q.X), big.NewInt(1)))}
	root, _ := new(big.Int).SetString("66485c780e2f83d72433bd5d84a06bb6541c2af31dae871728bf856a174f93f4", 16) // the Y of X 0
	prime, _ := new(big.Int).SetString("ffffffff00000001000000000000000000000000ffffffffffffffffffffffff", 16)
	var out []edge
	for _, x := range []struct {
		name string
		key  api.Point
		fit  bool
	}{
		{"a point", q, true}, {"the base", keyOf(t, 1), true}, {"another Y", beside, false}, {"another X", above, false},
		{"none", api.Point{}, false}, {"Inf", api.Point{Inf: true}, false}, {"Inf with coordinates", api.Point{X: q.X, Y: q.Y, Inf: true}, false},
		{"the greatest numbers", api.Point{X: top(), Y: top()}, false},
		{"X 0", api.Point{Y: numOf(root)}, true}, {"X 0 as the prime", api.Point{X: numOf(prime), Y: numOf(root)}, false},
		{"the other Y", api.Point{X: q.X, Y: numOf(new(big.Int).Sub(prime, value(q.Y)))}, true},
	} {
		out = append(out, edge{"a Key: " + x.name, func(c *api.Cert) { c.Key = x.key }, x.fit})
	}
	return out
}

func edges(t testing.TB) []edge {
	out := labelEdges("an Issuer", func(c *api.Cert, s string) { c.Issuer = s })
	out = append(out, labelEdges("a Subject", func(c *api.Cert, s string) { c.Subject = s })...)
	for _, place := range []int{0, 3, 7} {
		out = append(out, labelEdges("a name", func(c *api.Cert, s string) {
			c.Names = strings.Split("abcdefgh", "")
			c.Names[place] = s
		})...)
	}
	out = append(out, labelEdges("a name alone", func(c *api.Cert, s string) { c.Names = []string{s} })...)
	for _, n := range []int{0, 1, 2, 7, 8, 9, 10, 64, 65, 70, 2000} {
		out = append(out, edge{"many names", func(c *api.Cert) { c.Names = slices.Repeat([]string{"n"}, n) }, n <= 8})
	}
	for _, n := range []api.Num{{}, {1}, {127}, {128}, {255}, {256}, {all}, {0, 1}, {0, 0, 0, 1 << 63}, top()} {
		out = append(out, edge{"a Serial", func(c *api.Cert) { c.Serial = n }, true},
			edge{"an R", func(c *api.Cert) { c.Sign.R = n }, true}, edge{"an S", func(c *api.Cert) { c.Sign.S = n }, true})
	}
	out = append(out, edge{"Ca", func(c *api.Cert) { c.Ca = true }, true}, edge{"not Ca", func(c *api.Cert) { c.Ca = false }, true},
		edge{"an empty list of names", func(c *api.Cert) { c.Names = []string{} }, true}, edge{"nothing", func(c *api.Cert) { *c = api.Cert{} }, false})
	out = append(out, timeEdges()...)
	return append(out, keyEdges(t)...)
}

// P12.1, P12.2, P12.3, P12.6: each edge of what is fit: what is not is neither told, nor written, nor signed, nor read.
func TestFit(t *testing.T) {
	for _, x := range edges(t) {
		c := plain(t)
		x.edit(&c)
		if fitByWords(c) != x.fit {
			t.Fatalf("%s: the test itself is wrong: %+v", x.name, c)
		}
		tbs, e := cert.Tbs(c)
		whole, f := cert.Write(c)
		if x.fit {
			if tbs != tbsByWords(c) || whole != writtenByWords(c) || e != api.OK || f != api.OK {
				t.Errorf("%s: %+v: Tbs %x, %v, Write %x, %v", x.name, c, tbs, e, whole, f)
			}
			mustRead(t, whole, c)
			continue
		}
		made, g := cert.Make(c, api.Num{1}, api.Num{2})
		if tbs != "" || whole != "" || !isNone(made) || e != api.ErrForm || f != api.ErrForm || g != api.ErrForm {
			t.Errorf("%s: %+v: Tbs %x, %v, Write %x, %v, Make %+v, %v", x.name, c, tbs, e, whole, f, made, g)
		}
		if c.From >= api.LeastTime-1 && c.To <= api.MostTime+1 && max(len(c.Issuer), len(c.Subject), len(c.Names)) < 1000 {
			likeWords(t, writtenByWords(c))
		}
	}
}

// P12.1: Sign plays no part in what is signed, and every other field does.
func TestTbsOfWhat(t *testing.T) {
	c := plain(t)
	seen := map[string]int{}
	for i, edit := range fieldEdits(t) {
		other := plain(t)
		edit(&other)
		seen[mustTbs(t, other)]++
		if isSign := other.Sign != c.Sign; isSign != (mustTbs(t, other) == mustTbs(t, c)) {
			t.Errorf("edit %d: Tbs is alike: %v", i, !isSign)
		}
	}
	if len(seen) != len(fieldEdits(t))-2+1 { // R and S
		t.Errorf("%d texts of %d certificates", len(seen), len(fieldEdits(t)))
	}
}

// fieldEdits change one thing each, so that it is fit still.
func fieldEdits(t testing.TB) []func(*api.Cert) {
	return []func(*api.Cert){
		func(c *api.Cert) { c.Serial[0]++ }, func(c *api.Cert) { c.Serial[3]++ },
		func(c *api.Cert) { c.Issuer = "R" }, func(c *api.Cert) { c.Issuer += " " },
		func(c *api.Cert) { c.Subject = "S" }, func(c *api.Cert) { c.Subject += " " },
		func(c *api.Cert) { c.From++ }, func(c *api.Cert) { c.To++ },
		func(c *api.Cert) { c.Key = keyOf(t, 77) }, func(c *api.Cert) { c.Ca = !c.Ca },
		func(c *api.Cert) { c.Names = nil }, func(c *api.Cert) { c.Names = c.Names[:1] }, func(c *api.Cert) { c.Names = c.Names[1:] },
		func(c *api.Cert) { c.Names = []string{"b.c", "*.a"} }, func(c *api.Cert) { c.Names = []string{"*.a", "b.C"} },
		func(c *api.Cert) { c.Names = []string{"*.a", "b.c", "b.c"} }, func(c *api.Cert) { c.Names = []string{"*.ab", ".c"} },
		func(c *api.Cert) { c.Sign.R[0]++ }, func(c *api.Cert) { c.Sign.S[0]++ },
	}
}

// P12.1: Same goes through all fields, of certificates that are fit and of others.
func TestSame(t *testing.T) {
	more := []func(*api.Cert){
		func(c *api.Cert) { c.Key.Inf = true }, func(c *api.Cert) { c.Key.X[2]++ }, func(c *api.Cert) { c.Key.Y[3]++ }, func(c *api.Cert) { c.Serial = top() },
		func(c *api.Cert) { c.Sign.R[3]++ }, func(c *api.Cert) { c.Sign.S[3]++ }, func(c *api.Cert) { c.Sign.R, c.Sign.S = c.Sign.S, c.Sign.R },
		func(c *api.Cert) { c.Issuer, c.Subject = c.Subject, c.Issuer }, func(c *api.Cert) { c.From, c.To = c.To, c.From },
		func(c *api.Cert) { c.Issuer = "" }, func(c *api.Cert) { c.Names = []string{"*.a", ""} }, func(c *api.Cert) { *c = api.Cert{} },
	}
	list := []api.Cert{plain(t)}
	for _, edit := range append(fieldEdits(t), more...) {
		c := plain(t)
		edit(&c)
		list = append(list, c)
	}
	for i, a := range list {
		for j, b := range list {
			b.Names = slices.Clone(b.Names)
			if got := cert.Same(a, b); got != (i == j) {
				t.Errorf("Same(%+v, %+v) = %v", a, b, got)
			}
		}
	}
	a, b := least(t), least(t)
	b.Names = []string{}
	if !cert.Same(a, b) || !cert.Same(b, a) {
		t.Error("an empty list of names is not as none")
	}
}

// P12.3: what is made is the certificate with its Sign, whatever Sign it had.
func TestMake(t *testing.T) {
	r := rand.New(rand.NewSource(3))
	for i := range 40 {
		c := drawnCert(t, r)
		d, k := 1+r.Uint64()%1000, 1+r.Uint64()
		got := mustMake(t, c, d, k)
		want := c
		var e api.Errno
		want.Sign, e = ecdsa.Sign(api.Num{d}, api.Num{k}, sha.Of(tbsByWords(c)))
		if !isSame(got, want) || e != api.OK {
			t.Fatalf("%d: Make(%+v) = %+v, want %+v", i, c, got, want)
		}
		if !holdsByLibrary(keyOf(t, d), tbsByWords(c), got.Sign) {
			t.Fatalf("%d: the library does not take %+v", i, got)
		}
		mustRead(t, mustWrite(t, got), got)
	}
}

// P12.3: which error Make tells: Tbs's ahead of Sign's.
func TestMakeFaults(t *testing.T) {
	n := numOf(order())
	below := numOf(new(big.Int).Sub(order(), big.NewInt(1)))
	c, unfit := plain(t), plain(t)
	unfit.Issuer = ""
	zeroS := noSecret(t, c)
	for _, x := range []struct {
		name string
		c    api.Cert
		d, k api.Num
		want api.Errno
	}{
		{"fit", c, api.Num{1}, api.Num{1}, api.OK}, {"greatest", c, below, below, api.OK},
		{"d 0", c, api.Num{}, api.Num{1}, api.ErrNumber}, {"k 0", c, api.Num{1}, api.Num{}, api.ErrNumber},
		{"d n", c, n, api.Num{1}, api.ErrNumber}, {"k n", c, api.Num{1}, n, api.ErrNumber},
		{"both the greatest", c, top(), top(), api.ErrNumber}, {"S 0", c, zeroS, api.Num{9}, api.ErrNumber},
		{"S not 0", c, zeroS, api.Num{10}, api.OK},
		{"unfit", unfit, api.Num{1}, api.Num{1}, api.ErrForm}, {"unfit, d 0", unfit, api.Num{}, api.Num{1}, api.ErrForm},
		{"unfit, k 0", unfit, api.Num{1}, api.Num{}, api.ErrForm}, {"nothing", api.Cert{}, api.Num{}, api.Num{}, api.ErrForm},
	} {
		got, e := cert.Make(x.c, x.d, x.k)
		if e != x.want || e != api.OK && !isNone(got) {
			t.Errorf("%s: Make = %+v, %v; want %v", x.name, got, e, x.want)
		}
	}
}

// noSecret is the d by which, with a k of 9, the S of a certificate's Sign were 0.
func noSecret(t *testing.T, c api.Cert) api.Num {
	z := new(big.Int).SetBytes([]byte(sha.Of(tbsByWords(c))))
	r := new(big.Int).ModInverse(value(keyOf(t, 9).X), order())
	return numOf(new(big.Int).Mod(new(big.Int).Mul(new(big.Int).Neg(z), r), order()))
}

// Rule 0.5: Make changes nothing that it is given, and shares no list with it.
func TestMakeSharesNothing(t *testing.T) {
	names := []string{"a", "b", "c"}
	c := plain(t)
	c.Names = names[:2]
	got := mustMake(t, c, 1, 2)
	if names[0] != "a" || names[1] != "b" || names[2] != "c" || c.Sign != plain(t).Sign {
		t.Fatal("Make has changed what it was given")
	}
	got.Names[0] = "x"
	_ = append(got.Names, "y")
	if names[0] != "a" || names[2] != "c" {
		t.Error("Make's Names are those it was given")
	}
	c.Names = []string{}
	if got := mustMake(t, c, 1, 2); got.Names != nil {
		t.Error("an empty list is told, not none")
	}
}
