package hkdf_test

import (
	"bytes"
	libhkdf "crypto/hkdf"
	"crypto/hmac"
	"crypto/sha256"
	"encoding/binary"
	"encoding/hex"
	"math"
	"math/rand"
	"strings"
	"testing"

	"pendulum/api"
	"pendulum/hkdf"
	"pendulum/sha"
)

// drawn is a text that is the same in every run.
func drawn(seed int64, size int) string {
	out := make([]byte, size)
	rand.New(rand.NewSource(seed)).Read(out)
	return string(out)
}

func unhexed(t testing.TB, digits string) string {
	t.Helper()
	out, err := hex.DecodeString(strings.ReplaceAll(digits, " ", ""))
	if err != nil {
		t.Fatal(err)
	}
	return string(out)
}

func hexed(s string) string {
	return hex.EncodeToString([]byte(s))
}

// mac is a text's digest by a key, by the library.
func mac(key, s string) string {
	m := hmac.New(sha256.New, []byte(key))
	m.Write([]byte(s))
	return string(m.Sum(nil))
}

// extracted is a key of a salt and what is random, by the library.
func extracted(t testing.TB, salt, ikm string) string {
	t.Helper()
	out, err := libhkdf.Extract(sha256.New, []byte(ikm), []byte(salt))
	if err != nil {
		t.Fatal(err)
	}
	return string(out)
}

// expanded is n bytes of a key by the library.
func expanded(t testing.TB, prk, info string, n int) string {
	t.Helper()
	out, err := libhkdf.Expand(sha256.New, []byte(prk), info, n)
	if err != nil {
		t.Fatal(err)
	}
	return string(out)
}

// infoOf is what a label, a context and a length are expanded by, written by the library and RFC 8446's words.
func infoOf(label, context string, n int) string {
	var out bytes.Buffer
	binary.Write(&out, binary.BigEndian, uint16(n))
	out.WriteByte(uint8(len("tls13 ") + len(label)))
	out.WriteString("tls13 ")
	out.WriteString(label)
	out.WriteByte(uint8(len(context)))
	out.WriteString(context)
	return out.String()
}

// texts are keys, salts and infos: none, short ones, and those around a block of a hash.
func texts() []string {
	out := []string{"", "\x00", "\x01", "\xff", strings.Repeat("\x00", 32), strings.Repeat("\x00", 64), strings.Repeat("\xff", 65)}
	for _, size := range []int{1, 2, 22, 31, 32, 33, 55, 56, 63, 64, 65, 127, 128, 129, 1000, 70000} {
		out = append(out, drawn(int64(size), size))
	}
	return out
}

// lengths are how many bytes a key can be expanded to: none, those where blocks end, the most.
func lengths() []int {
	return []int{0, 1, 2, 12, 16, 31, 32, 33, 42, 63, 64, 65, 82, 95, 96, 97, 255, 256, 257, 1000, 8127, 8128, 8129, 8159, 8160}
}

// tooMany are numbers of bytes that a key is not expanded to.
func tooMany() []int {
	return []int{-1, -2, -32, -8160, -65535, math.MinInt32, math.MinInt, 8161, 8162, 8191, 8192, 8193, 65535, 65536, 1 << 20, math.MaxInt32, 1 << 32, 1<<32 + 32, math.MaxInt}
}

type vector struct {
	ikm, salt, info string
	n               int
	prk, okm        string
}

// published are RFC 5869's examples of SHA-256.
func published(t testing.TB) []vector {
	t.Helper()
	return []vector{
		{
			ikm:  strings.Repeat("\x0b", 22),
			salt: unhexed(t, "000102030405060708090a0b0c"),
			info: unhexed(t, "f0f1f2f3f4f5f6f7f8f9"),
			n:    42,
			prk:  unhexed(t, "077709362c2e32df0ddc3f0dc47bba6390b6c73bb50f9c3122ec844ad7c2b3e5"),
			okm:  unhexed(t, "3cb25f25faacd57a90434f64d0362f2a2d2d0a90cf1a5a4c5db02d56ecc4c5bf34007208d5b887185865"),
		},
		{
			ikm:  row(0x00, 0x4f),
			salt: row(0x60, 0xaf),
			info: row(0xb0, 0xff),
			n:    82,
			prk:  unhexed(t, "06a6b88c5853361a06104c9ceb35b45cef760014904671014a193f40c15fc244"),
			okm:  unhexed(t, "b11e398dc80327a1c8e7f78c596a49344f012eda2d4efad8a050cc4c19afa97c59045a99cac7827271cb41c65e590e09da3275600c2f09b8367793a9aca3db71cc30c58179ec3e87c14c01d5c1f3434f1d87"),
		},
		{
			ikm: strings.Repeat("\x0b", 22),
			n:   42,
			prk: unhexed(t, "19ef24a32c717b167f33a91d6f648bdf96596776afdb6377ac434c1c293ccb04"),
			okm: unhexed(t, "8da4e775a563c18f715f802a063c5a31b8a11f5c5ee1879ec3454e5f3c738d2d9d201395faa4b61a96c8"),
		},
	}
}

// row is the bytes from one to another.
func row(from, to int) string {
	var out []byte
	for b := from; b <= to; b++ {
		out = append(out, byte(b))
	}
	return string(out)
}

// P7.1, P7.2: the published examples, the chapter's ahead.
func TestPublishedKeys(t *testing.T) {
	for i, v := range published(t) {
		prk := hkdf.Extract(v.salt, v.ikm)
		if prk != v.prk {
			t.Errorf("example %d: Extract = %s; want %s", i+1, hexed(prk), hexed(v.prk))
		}
		okm, e := hkdf.Expand(prk, v.info, v.n)
		if okm != v.okm || e != api.OK {
			t.Errorf("example %d: Expand = %s, %v; want %s", i+1, hexed(okm), e, hexed(v.okm))
		}
	}
}

// P7.1: what is extracted is a digest by the salt; which of both is the key is heeded.
func TestExtractIsTheLibrarys(t *testing.T) {
	for _, salt := range texts() {
		for _, ikm := range texts() {
			got := hkdf.Extract(salt, ikm)
			if want := mac(salt, ikm); got != want || got != extracted(t, salt, ikm) || got != sha.Mac(salt, ikm) {
				t.Errorf("Extract(%d bytes, %d bytes) = %s; want %s", len(salt), len(ikm), hexed(got), hexed(want))
			}
		}
	}
	if a, b := hkdf.Extract("salt", "key"), hkdf.Extract("key", "salt"); a == b {
		t.Errorf("a salt and a key exchanged make one and the same: %s", hexed(a))
	}
}

// P7.1: an empty salt, an empty key, and both.
func TestExtractOfNothing(t *testing.T) {
	for _, c := range []struct{ salt, ikm, want string }{
		{"", "", "b613679a0814d9ec772f95d778c35fc5ff1697c493715653c6c712144292c5ad"},
		{"", strings.Repeat("\x00", 32), "33ad0a1c607ec03b09e6cd9893680ce210adf300aa1f2660e1b22e10f170f92a"},
		{strings.Repeat("\x00", 32), strings.Repeat("\x00", 32), "33ad0a1c607ec03b09e6cd9893680ce210adf300aa1f2660e1b22e10f170f92a"},
	} {
		if got := hkdf.Extract(c.salt, c.ikm); got != unhexed(t, c.want) {
			t.Errorf("Extract(%x, %x) = %s; want %s", c.salt, c.ikm, hexed(got), c.want)
		}
	}
}

// P7.2: any keys and infos, expanded to as many bytes as the edges name.
func TestExpandIsTheLibrarys(t *testing.T) {
	for _, prk := range texts() {
		for _, info := range texts() {
			for _, n := range []int{0, 1, 31, 32, 33, 64, 65, 100} {
				got, e := hkdf.Expand(prk, info, n)
				if want := expanded(t, prk, info, n); got != want || e != api.OK {
					t.Fatalf("Expand(%d bytes, %d bytes, %d) = %s, %v; want %s", len(prk), len(info), n, hexed(got), e, hexed(want))
				}
			}
		}
	}
}

// P7.2: all numbers of bytes up to some blocks, and those up to the most.
func TestExpandToAllLengths(t *testing.T) {
	ns := lengths()
	for n := range 400 {
		ns = append(ns, n)
	}
	for _, c := range []struct{ prk, info string }{{"", ""}, {drawn(1, 32), ""}, {"", drawn(2, 50)}, {drawn(3, 32), drawn(4, 54)}} {
		for _, n := range ns {
			got, e := hkdf.Expand(c.prk, c.info, n)
			if want := expanded(t, c.prk, c.info, n); got != want || e != api.OK || len(got) != n {
				t.Fatalf("Expand(%x, %x, %d) = %d bytes, %v; want %s", c.prk, c.info, n, len(got), e, hexed(want))
			}
		}
	}
}

// P7.2: each block by the chapter's words, up to the one that is the last, whose byte is 255.
func TestExpandByItsBlocks(t *testing.T) {
	prk, info := drawn(5, 32), drawn(6, 20)
	got, e := hkdf.Expand(prk, info, 8160)
	if e != api.OK || len(got) != 255*32 {
		t.Fatalf("Expand to the most: %d bytes, %v", len(got), e)
	}
	ahead := ""
	for k := 1; k <= 255; k++ {
		ahead = mac(prk, ahead+info+string([]byte{byte(k)}))
		if block := got[32*(k-1) : 32*k]; block != ahead {
			t.Fatalf("block %d = %s; want %s", k, hexed(block), hexed(ahead))
		}
	}
}

// P7.2, rule 0.3: as many bytes as there are not are refused, with nothing beside the error.
func TestExpandRefusesNumbers(t *testing.T) {
	for _, n := range tooMany() {
		for _, s := range []string{"", drawn(7, 32), drawn(8, 5000)} {
			if got, e := hkdf.Expand(s, s, n); got != "" || e != api.ErrNumber {
				t.Errorf("Expand to %d = %d bytes, %v; want none, %v", n, len(got), e, api.ErrNumber)
			}
		}
	}
	if got, e := hkdf.Expand("key", "info", 0); got != "" || e != api.OK {
		t.Errorf("Expand to 0 = %x, %v", got, e)
	}
}

// P7.3: the form, byte by byte.
func TestInfoIsWrittenSo(t *testing.T) {
	for _, c := range []struct {
		label, context string
		n              int
		want           string
	}{
		{"", "", 0, "0000 06 746c73313320 00"},
		{"", "", 1, "0001 06 746c73313320 00"},
		{"", "", 255, "00ff 06 746c73313320 00"},
		{"", "", 256, "0100 06 746c73313320 00"},
		{"", "", 65535, "ffff 06 746c73313320 00"},
		{"key", "", 16, "0010 09 746c73313320 6b6579 00"},
		{"iv", "", 12, "000c 08 746c73313320 6976 00"},
		{"finished", "", 32, "0020 0e 746c73313320 66696e6973686564 00"},
		{"\x00", "\xff", 0x1234, "1234 07 746c73313320 00 01 ff"},
		{"é", "ab\x00", 8161, "1fe1 08 746c73313320 c3a9 03 616200"},
		{"derived", "\xe3\xb0\xc4\x42", 32, "0020 0d 746c73313320 64657269766564 04 e3b0c442"},
	} {
		got, e := hkdf.Info(c.label, c.context, c.n)
		if got != unhexed(t, c.want) || e != api.OK {
			t.Errorf("Info(%q, %x, %d) = %s, %v; want %s", c.label, c.context, c.n, hexed(got), e, c.want)
		}
	}
}

// P7.3: labels of all lengths, contexts of all lengths, all numbers.
func TestInfoOfAllLengths(t *testing.T) {
	check := func(label, context string, n int) {
		t.Helper()
		got, e := hkdf.Info(label, context, n)
		if want := infoOf(label, context, n); got != want || e != api.OK {
			t.Errorf("Info(%d bytes, %d bytes, %d) = %s, %v; want %s", len(label), len(context), n, hexed(got), e, hexed(want))
		}
	}
	for size := range 250 {
		check(drawn(int64(size), size), "", 32)
		check(drawn(int64(size), size), drawn(9, 255), 65535)
	}
	for size := range 256 {
		check("", drawn(int64(size), size), 32)
		check(drawn(9, 249), drawn(int64(size), size), 0)
	}
	for n := range 65536 {
		check("exporter", "context", n)
	}
}

// P7.3, rules 0.2 and 0.3: what is refused, a number ahead of what is too long, and nothing beside the error.
func TestInfoRefuses(t *testing.T) {
	const fine, label, context = 0, 249, 255
	for _, c := range []struct {
		label, context, n int
		want              api.Errno
	}{
		{label, context, 65535, api.OK},
		{fine, fine, -1, api.ErrNumber},
		{fine, fine, 65536, api.ErrNumber},
		{fine, fine, 65537, api.ErrNumber},
		{fine, fine, 1<<16 + 32, api.ErrNumber},
		{fine, fine, 1 << 32, api.ErrNumber},
		{fine, fine, math.MaxInt, api.ErrNumber},
		{fine, fine, math.MinInt, api.ErrNumber},
		{label + 1, fine, 0, api.ErrLong},
		{label + 1, context, 65535, api.ErrLong},
		{label + 2, fine, 32, api.ErrLong},
		{255, fine, 32, api.ErrLong},
		{256, fine, 32, api.ErrLong},
		{label + 256, fine, 32, api.ErrLong},
		{1 << 20, fine, 32, api.ErrLong},
		{fine, context + 1, 0, api.ErrLong},
		{label, context + 1, 65535, api.ErrLong},
		{fine, context + 2, 32, api.ErrLong},
		{fine, 512, 32, api.ErrLong},
		{fine, 1 << 20, 32, api.ErrLong},
		{label + 1, context + 1, 32, api.ErrLong},
		{label + 1, fine, -1, api.ErrNumber},
		{label + 1, fine, 65536, api.ErrNumber},
		{fine, context + 1, -1, api.ErrNumber},
		{fine, context + 1, 65536, api.ErrNumber},
		{label + 1, context + 1, -1, api.ErrNumber},
		{label + 1, context + 1, 65536, api.ErrNumber},
	} {
		got, e := hkdf.Info(drawn(1, c.label), drawn(2, c.context), c.n)
		if e != c.want || (e != api.OK && got != "") {
			t.Errorf("Info(%d bytes, %d bytes, %d) = %x, %v; want %v", c.label, c.context, c.n, got, e, c.want)
		}
	}
}

// P7.4, P7.5: the secrets and keys of RFC 8448's first handshake.
func TestPublishedLabels(t *testing.T) {
	none := sha.Of("")
	early := hkdf.Extract("", strings.Repeat("\x00", 32))
	derived, e := hkdf.Derive(early, "derived", none)
	if want := unhexed(t, "6f2615a108c702c5678f54fc9dbab69716c076189c48250cebeac3576c3611ba"); derived != want || e != api.OK {
		t.Fatalf("Derive of the early secret = %s, %v; want %s", hexed(derived), e, hexed(want))
	}
	shared := unhexed(t, "8bd4054fb55b9d63fdfbacf9f04b9f0d35e6d63f537563efd46272900f89492d")
	secret := hkdf.Extract(derived, shared)
	if want := unhexed(t, "1dc826e93606aa6fdc0aadc12f741b01046aa6b99f691ed221a9f0ca043fbeac"); secret != want {
		t.Fatalf("the handshake secret = %s; want %s", hexed(secret), hexed(want))
	}
	digest := unhexed(t, "860c06edc07858ee8e78f0e7428c58edd6b43f2ca3e6e95f02ed063cf0e1cad8")
	server, e := hkdf.Derive(secret, "s hs traffic", digest)
	if want := unhexed(t, "b67b7d690cc16c4e75e54213cb2d37b4e9c912bcded9105d42befd59d391ad38"); server != want || e != api.OK {
		t.Fatalf("Derive(s hs traffic) = %s, %v; want %s", hexed(server), e, hexed(want))
	}
	client, e := hkdf.Derive(secret, "c hs traffic", digest)
	if want := unhexed(t, "b3eddb126e067f35a780b3abf45e2d8f3b1a950738f52e9600746a0e27a55a21"); client != want || e != api.OK {
		t.Fatalf("Derive(c hs traffic) = %s, %v; want %s", hexed(client), e, hexed(want))
	}
	for _, c := range []struct {
		label, want string
	}{
		{"key", "3fce516009c21727d0f2e4e86ee403bc"},
		{"iv", "5d313eb2671276ee13000b30"},
		{"finished", "008d3b66f816ea559f96b537e885c31fc068bf492c652f01f288a1d8cdc19fc8"},
	} {
		want := unhexed(t, c.want)
		if got, e := hkdf.Label(server, c.label, "", len(want)); got != want || e != api.OK {
			t.Errorf("Label(%s) = %s, %v; want %s", c.label, hexed(got), e, c.want)
		}
	}
}

// P7.4: a label is a key expanded by its Info, to its number of bytes.
func TestLabelExpandsByInfo(t *testing.T) {
	for i, secret := range texts() {
		for j, n := range lengths() {
			label, context := drawn(int64(i), 7*i%250), drawn(int64(j), 29*j%256)
			got, e := hkdf.Label(secret, label, context, n)
			if want := expanded(t, secret, infoOf(label, context, n), n); got != want || e != api.OK {
				t.Errorf("Label(%d bytes, %d, %d, %d) = %s, %v; want %s", len(secret), len(label), len(context), n, hexed(got), e, hexed(want))
			}
		}
	}
	for _, c := range []struct{ label, context string }{{"", ""}, {drawn(1, 249), ""}, {"", drawn(2, 255)}, {drawn(3, 249), drawn(4, 255)}} {
		got, e := hkdf.Label("secret", c.label, c.context, 40)
		if want := expanded(t, "secret", infoOf(c.label, c.context, 40), 40); got != want || e != api.OK {
			t.Errorf("Label(%d bytes, %d bytes) = %s, %v; want %s", len(c.label), len(c.context), hexed(got), e, hexed(want))
		}
	}
}

// P7.4, rules 0.2 and 0.3: Info's errors ahead, and Expand's where Info takes a number that Expand does not.
func TestLabelRefuses(t *testing.T) {
	for _, c := range []struct {
		label, context, n int
		want              api.Errno
	}{
		{5, 32, 8160, api.OK},
		{249, 255, 8160, api.OK},
		{5, 32, 8161, api.ErrNumber},
		{5, 32, 8192, api.ErrNumber},
		{5, 32, 65535, api.ErrNumber},
		{5, 32, 65536, api.ErrNumber},
		{5, 32, 65536 + 32, api.ErrNumber},
		{5, 32, math.MaxInt, api.ErrNumber},
		{5, 32, -1, api.ErrNumber},
		{5, 32, math.MinInt, api.ErrNumber},
		{250, 32, 32, api.ErrLong},
		{5, 256, 32, api.ErrLong},
		{250, 256, 0, api.ErrLong},
		{250, 32, 8161, api.ErrLong},
		{5, 256, 8161, api.ErrLong},
		{250, 32, 65535, api.ErrLong},
		{5, 256, 65535, api.ErrLong},
		{250, 32, 65536, api.ErrNumber},
		{5, 256, 65536, api.ErrNumber},
		{250, 256, -1, api.ErrNumber},
	} {
		got, e := hkdf.Label("secret", drawn(1, c.label), drawn(2, c.context), c.n)
		if e != c.want || (e == api.OK) != (len(got) == c.n && c.n > 0) || (e != api.OK && got != "") {
			t.Errorf("Label(%d bytes, %d bytes, %d) = %d bytes, %v; want %v", c.label, c.context, c.n, len(got), e, c.want)
		}
	}
}

// P7.5: a secret of a secret is a label's 32 bytes, by a digest of any length that a context may have.
func TestDeriveIsALabelOf32(t *testing.T) {
	for _, secret := range texts() {
		for _, size := range []int{0, 1, 31, 32, 33, 254, 255} {
			for _, label := range []string{"", "derived", "exp master", drawn(3, 249)} {
				digest := drawn(int64(size), size)
				got, e := hkdf.Derive(secret, label, digest)
				if want := expanded(t, secret, infoOf(label, digest, 32), 32); got != want || e != api.OK || len(got) != 32 {
					t.Errorf("Derive(%d bytes, %q, %d bytes) = %s, %v; want %s", len(secret), label, size, hexed(got), e, hexed(want))
				}
			}
		}
	}
}

// P7.5, rule 0.3: labels and digests that are too long.
func TestDeriveRefuses(t *testing.T) {
	for _, c := range []struct{ label, digest int }{{7, 256}, {7, 257}, {7, 512}, {7, 1 << 20}, {250, 32}, {256, 32}, {250, 256}, {1 << 20, 0}} {
		if got, e := hkdf.Derive("secret", drawn(1, c.label), drawn(2, c.digest)); got != "" || e != api.ErrLong {
			t.Errorf("Derive(%d bytes, %d bytes) = %x, %v; want %v", c.label, c.digest, got, e, api.ErrLong)
		}
	}
}

// P7.6: fewer bytes are the first of more.
func TestFewerBytesAreTheFirst(t *testing.T) {
	for _, c := range []struct{ prk, info string }{{"", ""}, {drawn(1, 32), drawn(2, 10)}, {drawn(3, 100), drawn(4, 100)}} {
		most, e := hkdf.Expand(c.prk, c.info, 8160)
		if e != api.OK {
			t.Fatal(e)
		}
		for n := 0; n <= 8160; n += 1 + n/7 {
			if got, e := hkdf.Expand(c.prk, c.info, n); e != api.OK || got != most[:n] {
				t.Errorf("Expand to %d bytes = %s, %v; want %s", n, hexed(got), e, hexed(most[:n]))
			}
		}
	}
}

// P7.7: unlike labels, contexts or lengths make unlike Infos, also where what the two texts are made of is alike.
func TestUnlikeInfos(t *testing.T) {
	type given struct {
		label, context string
		n              int
	}
	var all []given
	for _, label := range []string{"", "\x00", "\x01", "\x00\x00", "a", "b", "ab", "a\x01", "a\x01b", "a\x00", "tls13 ", "tls13 a", drawn(1, 248), drawn(1, 249), "\x00" + drawn(1, 248)} {
		for _, context := range []string{"", "\x00", "\x01", "\x00\x00", "a", "b", "ab", "b\x00", "\x01b", "tls13 ", drawn(1, 248), drawn(1, 249), drawn(1, 254), drawn(1, 255)} {
			for _, n := range []int{0, 1, 2, 6, 7, 255, 256, 257, 0x0100, 0x0601, 8160, 8161, 32767, 32768, 65279, 65280, 65534, 65535} {
				all = append(all, given{label, context, n})
			}
		}
	}
	made := map[string]given{}
	for _, g := range all {
		info, e := hkdf.Info(g.label, g.context, g.n)
		if e != api.OK {
			t.Fatalf("Info(%q, %q, %d): %v", g.label, g.context, g.n, e)
		}
		if other, ok := made[info]; ok && other != g {
			t.Errorf("Info(%q, %q, %d) is that of (%q, %q, %d)", g.label, g.context, g.n, other.label, other.context, other.n)
		}
		made[info] = g
	}
	a, _ := hkdf.Label("secret", "ab", "c", 32)
	b, _ := hkdf.Label("secret", "a", "bc", 32)
	if a == b {
		t.Errorf("where a label ends makes no difference: %s", hexed(a))
	}
}

// P7.7: an Info is read back as what it was made of.
func TestInfoIsReadBack(t *testing.T) {
	for i := range int64(500) {
		r := rand.New(rand.NewSource(i))
		label, context, n := drawn(i, r.Intn(250)), drawn(i+1, r.Intn(256)), r.Intn(65536)
		info, e := hkdf.Info(label, context, n)
		if e != api.OK {
			t.Fatal(e)
		}
		size := int(info[2])
		readLabel, behind := info[3:3+size], info[3+size:]
		if readLabel != "tls13 "+label || int(behind[0]) != len(context) || behind[1:] != context || int(info[0])<<8+int(info[1]) != n {
			t.Errorf("Info(%x, %x, %d) = %s", label, context, n, hexed(info))
		}
	}
}

// Rule 0.1: long texts at the most bytes end; calls at the same arguments answer alike.
func TestLongTexts(t *testing.T) {
	long := drawn(1, 1<<16)
	for range 2 {
		got, e := hkdf.Expand(long, long, 8160)
		if want := expanded(t, long, long, 8160); got != want || e != api.OK {
			t.Errorf("Expand of long texts: %d bytes, %v", len(got), e)
		}
	}
	if got := hkdf.Extract(long, long); got != mac(long, long) {
		t.Errorf("Extract of long texts: %s", hexed(got))
	}
}

// FuzzExpand holds Extract and Expand against the library.
func FuzzExpand(f *testing.F) {
	for _, v := range published(f) {
		f.Add(v.salt, v.ikm, v.info, v.n)
	}
	f.Add("", "", "", -1)
	f.Add("", "", "", 8161)
	f.Fuzz(func(t *testing.T, salt, ikm, info string, n int) {
		prk := hkdf.Extract(salt, ikm)
		if prk != extracted(t, salt, ikm) {
			t.Fatalf("Extract(%x, %x) = %x", salt, ikm, prk)
		}
		for _, key := range []string{prk, ikm} {
			got, e := hkdf.Expand(key, info, n)
			if n < 0 || n > 8160 {
				if got != "" || e != api.ErrNumber {
					t.Fatalf("Expand(%x, %x, %d) = %x, %v", key, info, n, got, e)
				}
				continue
			}
			if got != expanded(t, key, info, n) || e != api.OK {
				t.Fatalf("Expand(%x, %x, %d) = %x, %v", key, info, n, got, e)
			}
		}
	})
}

// FuzzLabel holds Info, Label and Derive against the form that RFC 8446 writes.
func FuzzLabel(f *testing.F) {
	f.Add("secret", "derived", "digest", 32)
	f.Add("", "", "", 8161)
	f.Add("", drawn(1, 250), "", 32)
	f.Add("", "", drawn(2, 256), -1)
	f.Fuzz(func(t *testing.T, secret, label, context string, n int) {
		want, wantLabel := api.OK, api.OK
		switch {
		case n < 0 || n > 65535:
			want, wantLabel = api.ErrNumber, api.ErrNumber
		case len(label) > 249 || len(context) > 255:
			want, wantLabel = api.ErrLong, api.ErrLong
		case n > 8160:
			wantLabel = api.ErrNumber
		}
		info, key := "", ""
		if want == api.OK {
			info = infoOf(label, context, n)
		}
		if wantLabel == api.OK {
			key = expanded(t, secret, info, n)
		}
		if got, e := hkdf.Info(label, context, n); got != info || e != want {
			t.Fatalf("Info(%x, %x, %d) = %x, %v", label, context, n, got, e)
		}
		if got, e := hkdf.Label(secret, label, context, n); got != key || e != wantLabel {
			t.Fatalf("Label(%x, %x, %x, %d) = %x, %v", secret, label, context, n, got, e)
		}
		again, e := hkdf.Label(secret, label, context, 32)
		if got, f := hkdf.Derive(secret, label, context); got != again || f != e {
			t.Fatalf("Derive(%x, %x, %x) = %x, %v", secret, label, context, got, f)
		}
	})
}

func BenchmarkDerive(b *testing.B) {
	secret, digest := drawn(1, 32), drawn(2, 32)
	for range b.N {
		hkdf.Derive(secret, "s hs traffic", digest)
	}
}

func BenchmarkExpandToTheMost(b *testing.B) {
	prk, info := drawn(1, 32), drawn(2, 32)
	for range b.N {
		hkdf.Expand(prk, info, 8160)
	}
}
