package cert_test

import (
	"crypto/ecdh"
	library "crypto/ecdsa"
	"crypto/elliptic"
	"crypto/sha256"
	"encoding/asn1"
	"encoding/hex"
	"math"
	"math/big"
	"math/rand"
	"strings"
	"testing"
	"time"

	"pendulum/api"
	"pendulum/cert"
	"pendulum/ecdsa"
	"pendulum/num"
)

// What the chapter's words say, made anew by Go's own library: the tests hold the program against it.

const all = math.MaxUint64

func top() api.Num {
	return api.Num{all, all, all, all}
}

func numOf(v *big.Int) api.Num {
	var n api.Num
	for i := range 256 {
		n[i/64] |= uint64(v.Bit(i)) << (i % 64)
	}
	return n
}

func value(n api.Num) *big.Int {
	return new(big.Int).SetBytes([]byte(num.Big(n)))
}

// order is how many points there are.
func order() *big.Int {
	return new(big.Int).Set(elliptic.P256().Params().N)
}

// keyOf is a secret number's point.
func keyOf(t testing.TB, d uint64) api.Point {
	t.Helper()
	key, err := ecdh.P256().NewPrivateKey([]byte(num.Big(api.Num{d})))
	if err != nil {
		t.Fatal(err)
	}
	text := key.PublicKey().Bytes()
	return api.Point{X: numOf(new(big.Int).SetBytes(text[1:33])), Y: numOf(new(big.Int).SetBytes(text[33:]))}
}

// plain is a certificate that is fit, whose Sign is of nobody.
func plain(t testing.TB) api.Cert {
	t.Helper()
	return api.Cert{Serial: api.Num{7}, Issuer: "r", Subject: "s", From: 100, To: 1000, Key: keyOf(t, 2), Names: []string{"*.a", "b.c"}, Sign: api.Sign{R: api.Num{5}, S: api.Num{6}}}
}

// greatest is a fit certificate of which no other one is longer.
func greatest(t testing.TB) api.Cert {
	t.Helper()
	c := api.Cert{Serial: top(), Issuer: strings.Repeat("~", 64), Subject: strings.Repeat(" ", 64), From: api.LeastTime, To: api.MostTime, Key: keyOf(t, 3), Ca: true, Sign: api.Sign{R: top(), S: top()}}
	for i := range 8 {
		c.Names = append(c.Names, strings.Repeat(string(rune('a'+i)), 64))
	}
	return c
}

// least is a fit certificate of which no other one is shorter.
func least(t testing.TB) api.Cert {
	t.Helper()
	return api.Cert{Issuer: "i", Subject: "s", Key: keyOf(t, 1)}
}

// drawnCert is a fit certificate, the same in every run.
func drawnCert(t testing.TB, r *rand.Rand) api.Cert {
	t.Helper()
	text := func() string {
		out := make([]byte, []int{1, 2, 10, 63, 64}[r.Intn(5)])
		for i := range out {
			out[i] = byte(32 + r.Intn(95))
		}
		return string(out)
	}
	number := func() api.Num {
		bits := uint(r.Intn(257))
		return numOf(new(big.Int).Rsh(value(api.Num{r.Uint64(), r.Uint64(), r.Uint64(), r.Uint64()}), 256-bits))
	}
	c := api.Cert{Serial: number(), Issuer: text(), Subject: text(), Key: keyOf(t, 1+uint64(r.Intn(20))), Ca: r.Intn(2) == 0, Sign: api.Sign{R: number(), S: number()}}
	for range r.Intn(9) {
		c.Names = append(c.Names, text())
	}
	c.From = api.LeastTime + r.Int63n(api.MostTime-api.LeastTime+1)
	c.To = c.From + r.Int63n(api.MostTime-c.From+1)
	return c
}

// tagged is a tag with parts, by chapter 11.
func tagged(tag int, parts ...string) string {
	body := strings.Join(parts, "")
	n := len(body)
	switch {
	case n < 128:
		return string([]byte{byte(tag), byte(n)}) + body
	case n < 256:
		return string([]byte{byte(tag), 129, byte(n)}) + body
	default:
		return string([]byte{byte(tag), 130, byte(n >> 8), byte(n)}) + body
	}
}

func marshalled(v any) string {
	out, err := asn1.Marshal(v)
	if err != nil {
		panic(err)
	}
	return string(out)
}

func oidText(numbers ...int) string {
	return marshalled(asn1.ObjectIdentifier(numbers))
}

func intText(n api.Num) string {
	return marshalled(value(n))
}

func timeText(t int64) string {
	return tagged(24, time.Unix(t, 0).UTC().Format("20060102150405Z"))
}

func titleText(s string) string {
	return tagged(48, tagged(49, tagged(48, oidText(2, 5, 4, 3), tagged(12, s))))
}

func pointText(a api.Point) string {
	if a.Inf {
		return ""
	}
	return "\x04" + num.Big(a.X) + num.Big(a.Y)
}

// extensionsText is what tells whether it is Ca, and of which Names.
func extensionsText(c api.Cert) string {
	ca, names := "", ""
	if c.Ca {
		ca = tagged(1, "\xff")
	}
	for _, s := range c.Names {
		names += tagged(130, s)
	}
	out := tagged(48, oidText(2, 5, 29, 19), tagged(1, "\xff"), tagged(4, tagged(48, ca)))
	if len(c.Names) > 0 {
		out += tagged(48, oidText(2, 5, 29, 17), tagged(4, tagged(48, names)))
	}
	return out
}

// tbsByWords is what is signed of a certificate, whether it is fit or not.
func tbsByWords(c api.Cert) string {
	return tagged(48,
		tagged(160, "\x02\x01\x02"),
		intText(c.Serial),
		tagged(48, oidText(1, 2, 840, 10045, 4, 3, 2)),
		titleText(c.Issuer),
		tagged(48, timeText(c.From), timeText(c.To)),
		titleText(c.Subject),
		tagged(48, tagged(48, oidText(1, 2, 840, 10045, 2, 1), oidText(1, 2, 840, 10045, 3, 1, 7)), tagged(3, "\x00", pointText(c.Key))),
		tagged(163, tagged(48, extensionsText(c))))
}

// writtenByWords is a certificate, whether it is fit or not.
func writtenByWords(c api.Cert) string {
	return tagged(48, tbsByWords(c), tagged(48, oidText(1, 2, 840, 10045, 4, 3, 2)), tagged(3, "\x00", tagged(48, intText(c.Sign.R), intText(c.Sign.S))))
}

func isPoint(a api.Point) bool {
	_, err := ecdh.P256().NewPublicKey([]byte(pointText(a)))
	return err == nil
}

// fitByWords is what the chapter calls fit.
func fitByWords(c api.Cert) bool {
	if len(c.Names) > 8 || c.From < api.LeastTime || c.From > c.To || c.To > api.MostTime || c.Key.Inf || !isPoint(c.Key) {
		return false
	}
	for _, s := range append([]string{c.Issuer, c.Subject}, c.Names...) {
		if len(s) < 1 || len(s) > 64 || strings.ContainsFunc(s, func(r rune) bool { return r < 32 || r > 126 }) {
			return false
		}
	}
	return true
}

// taken is a text's parts by Go's own library: the bytes within each of them; none, if it has a fault.
func taken(s string) []string {
	var out []string
	for s != "" {
		var raw asn1.RawValue
		rest, err := asn1.Unmarshal([]byte(s), &raw)
		if err != nil {
			return nil
		}
		out = append(out, string(raw.Bytes))
		s = string(rest)
	}
	return out
}

// at is a part within parts, by places; "", if there is none.
func at(s string, places ...int) string {
	for _, place := range places {
		parts := taken(s)
		if place >= len(parts) {
			return ""
		}
		s = parts[place]
	}
	return s
}

// behind is a text without its first byte, of bits.
func behind(s string) string {
	if s == "" {
		return ""
	}
	return s[1:]
}

// readByWords finds the one certificate that may be written as a text, and tells whether it is.
func readByWords(s string) (api.Cert, bool) {
	number := func(s string) api.Num { return numOf(new(big.Int).SetBytes([]byte(s))) }
	moment := func(s string) int64 {
		when, err := time.Parse("20060102150405Z", s)
		if err != nil {
			return math.MinInt64
		}
		return when.Unix()
	}
	whole := taken(at(s, 0))
	if len(whole) != 3 {
		return api.Cert{}, false
	}
	in := taken(whole[0])
	if len(in) != 8 {
		return api.Cert{}, false
	}
	sign, key, extensions := behind(whole[2]), behind(at(in[6], 1)), at(in[7], 0)
	c := api.Cert{Serial: number(in[1]), Issuer: at(in[3], 0, 0, 1), Subject: at(in[5], 0, 0, 1), From: moment(at(in[4], 0)), To: moment(at(in[4], 1))}
	if len(key) == 65 {
		c.Key = api.Point{X: number(key[1:33]), Y: number(key[33:])}
	}
	c.Ca = at(extensions, 0, 2, 0) != ""
	c.Names = taken(at(extensions, 1, 1, 0))
	c.Sign = api.Sign{R: number(at(sign, 0, 0)), S: number(at(sign, 0, 1))}
	if c.From > c.To || writtenByWords(c) != s || !fitByWords(c) { // first what takes little
		return api.Cert{}, false
	}
	return c, true
}

// holdsByLibrary tells whether a signature is one of a text by a key.
func holdsByLibrary(q api.Point, text string, s api.Sign) bool {
	if q.Inf || !isPoint(q) {
		return false
	}
	digest := sha256.Sum256([]byte(text))
	public := library.PublicKey{Curve: elliptic.P256(), X: value(q.X), Y: value(q.Y)}
	return library.Verify(&public, digest[:], value(s.R), value(s.S))
}

func mustWrite(t testing.TB, c api.Cert) string {
	t.Helper()
	s, e := cert.Write(c)
	if e != api.OK {
		t.Fatalf("Write(%+v) = %v", c, e)
	}
	return s
}

func mustTbs(t testing.TB, c api.Cert) string {
	t.Helper()
	s, e := cert.Tbs(c)
	if e != api.OK {
		t.Fatalf("Tbs(%+v) = %v", c, e)
	}
	return s
}

func mustMake(t testing.TB, c api.Cert, d, k uint64) api.Cert {
	t.Helper()
	out, e := cert.Make(c, api.Num{d}, api.Num{k})
	if e != api.OK {
		t.Fatalf("Make(%+v, %d, %d) = %v", c, d, k, e)
	}
	return out
}

func mustRead(t testing.TB, s string, want api.Cert) {
	t.Helper()
	got, e := cert.Read(s)
	if e != api.OK || !isSame(got, want) {
		t.Fatalf("Read(%s) = %+v, %v; want %+v", hex.EncodeToString([]byte(s)), got, e, want)
	}
}

func mustNotRead(t testing.TB, s string, want api.Errno) {
	t.Helper()
	got, e := cert.Read(s)
	if e != want || !isNone(got) {
		t.Fatalf("Read(%s) = %+v, %v; want nothing, %v", hex.EncodeToString([]byte(s)), got, e, want)
	}
}

// likeWords holds Read of one text against the words, and tells whether it is a certificate.
func likeWords(t testing.TB, s string) bool {
	t.Helper()
	want, ok := readByWords(s)
	switch {
	case len(s) > 2048:
		mustNotRead(t, s, api.ErrLong)
	case ok:
		mustRead(t, s, want)
	default:
		mustNotRead(t, s, api.ErrForm)
	}
	return ok
}

// isSame is Same by the tests' own means.
func isSame(a, b api.Cert) bool {
	if len(a.Names) != len(b.Names) {
		return false
	}
	for i := range a.Names {
		if a.Names[i] != b.Names[i] {
			return false
		}
	}
	return a.Serial == b.Serial && a.Issuer == b.Issuer && a.Subject == b.Subject && a.From == b.From && a.To == b.To && a.Key == b.Key && a.Ca == b.Ca && a.Sign == b.Sign
}

func isNone(c api.Cert) bool {
	return isSame(c, api.Cert{}) && c.Names == nil
}

// The tests' own points are those of the layer below.
func TestKeyOf(t *testing.T) {
	for d := range uint64(20) {
		want, e := ecdsa.Public(api.Num{d + 1})
		if got := keyOf(t, d+1); got != want || e != api.OK {
			t.Errorf("the point of %d is %v, %v; by the library %v", d+1, want, e, got)
		}
	}
}
