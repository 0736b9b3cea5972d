package siv_test

import (
	libaes "crypto/aes"
	"crypto/cipher"
	"encoding/hex"
	"math/big"
	"math/rand"
	"slices"
	"strings"
	"sync"
	"testing"

	"pendulum/api"
	"pendulum/siv"
)

const (
	mostPlain  = 65536
	mostSealed = 65552
	mostRow    = 127
	mostAD     = 126
)

// drawn is a text that is the same in every run.
func drawn(seed int64, size int) string {
	out := make([]byte, size)
	rand.New(rand.NewSource(seed)).Read(out)
	return string(out)
}

// drawnRow is a row of texts of all small lengths, none among them.
func drawnRow(seed int64, n int) []string {
	var out []string
	for i := range n {
		out = append(out, drawn(seed+int64(i), (i*7+int(seed))%37))
	}
	return out
}

func unhexed(t testing.TB, digits string) string {
	t.Helper()
	out, err := hex.DecodeString(strings.ReplaceAll(digits, " ", ""))
	if err != nil {
		t.Fatal(err)
	}
	return string(out)
}

func hexed(s string) string {
	return hex.EncodeToString([]byte(s))
}

func zeros(n int) string {
	return strings.Repeat("\x00", n)
}

// xored is two texts of one length, xor.
func xored(a, b string) string {
	out := []byte(a)
	for i := range out {
		out[i] ^= b[i]
	}
	return string(out)
}

// changed is a text with its byte i xor what is told.
func changed(s string, i int, by byte) string {
	out := []byte(s)
	out[i] ^= by
	return string(out)
}

// doubled is a block doubled by the chapter's words, as a number of 128 bits.
func doubled(b string) string {
	n := new(big.Int).SetBytes([]byte(b))
	first := n.Bit(127)
	n.Lsh(n, 1)
	n.SetBit(n, 128, 0)
	if first == 1 {
		n.Xor(n, big.NewInt(0x87))
	}
	return string(n.FillBytes(make([]byte, 16)))
}

// encrypted is a block turned by the library.
func encrypted(t testing.TB, key, block string) string {
	t.Helper()
	c, err := libaes.NewCipher([]byte(key))
	if err != nil {
		t.Fatal(err)
	}
	out := make([]byte, 16)
	c.Encrypt(out, []byte(block))
	return string(out)
}

// tagged is a text's tag by the chapter's words; the chain of blocks is the library's.
func tagged(t testing.TB, key, s string) string {
	t.Helper()
	k1 := doubled(encrypted(t, key, zeros(16)))
	k2 := doubled(k1)
	start := 0
	if len(s) > 0 {
		start = (len(s) - 1) / 16 * 16
	}
	last := s[start:]
	if len(last) == 16 {
		last = xored(last, k1)
	} else {
		last += "\x80"
		last = xored(last+zeros(16-len(last)), k2)
	}
	c, err := libaes.NewCipher([]byte(key))
	if err != nil {
		t.Fatal(err)
	}
	out := []byte(s[:start] + last)
	cipher.NewCBCEncrypter(c, make([]byte, 16)).CryptBlocks(out, out)
	return string(out[len(out)-16:])
}

// rowTagged is the tag of a row by the chapter's words.
func rowTagged(t testing.TB, key string, l []string) string {
	t.Helper()
	if len(l) == 0 {
		return tagged(t, key, zeros(15)+"\x01")
	}
	d := tagged(t, key, zeros(16))
	for _, s := range l[:len(l)-1] {
		d = xored(doubled(d), tagged(t, key, s))
	}
	s := l[len(l)-1]
	if len(s) >= 16 {
		return tagged(t, key, s[:len(s)-16]+xored(s[len(s)-16:], d))
	}
	s += "\x80"
	return tagged(t, key, xored(doubled(d), s+zeros(16-len(s))))
}

// crossed is a text xor the stream from v on, by the chapter's words and the library's stream.
func crossed(t testing.TB, key, v, text string) string {
	t.Helper()
	c, err := libaes.NewCipher([]byte(key))
	if err != nil {
		t.Fatal(err)
	}
	first := []byte(v)
	first[8] &^= 0x80
	first[12] &^= 0x80
	out := []byte(text)
	cipher.NewCTR(c, first).XORKeyStream(out, out)
	return string(out)
}

// sealed is what is sealed by the chapter's words.
func sealed(t testing.TB, key string, ad []string, plain string) string {
	t.Helper()
	half := len(key) / 2
	v := rowTagged(t, key[:half], append(slices.Clone(ad), plain))
	return v + crossed(t, key[half:], v, plain)
}

// blocks are blocks: plain ones, each bit by itself, and drawn ones.
func blocks() []string {
	out := []string{zeros(16), strings.Repeat("\xff", 16), strings.Repeat("\x80", 16), strings.Repeat("\x01", 16), "\x7f" + strings.Repeat("\xff", 15)}
	for i := range 128 {
		out = append(out, changed(zeros(16), i/8, 0x80>>(i%8)))
	}
	for seed := range int64(100) {
		out = append(out, drawn(seed, 16))
	}
	return out
}

// sizes are lengths of texts: none, all small ones, and those about multiples of 16.
func sizes() []int {
	var out []int
	for size := range 70 {
		out = append(out, size)
	}
	return append(out, 127, 128, 129, 255, 256, 257, 1023, 1024, 1025)
}

// keys are keys of the lengths that are told.
func keys(sizes ...int) []string {
	var out []string
	for _, size := range sizes {
		out = append(out, zeros(size), strings.Repeat("\xff", size))
		for seed := range int64(4) {
			out = append(out, drawn(seed, size))
		}
	}
	return out
}

// textsUnlike are texts whose length is none of those that are told, none among them.
func textsUnlike(right ...int) []string {
	var out []string
	for _, size := range []int{0, 1, 8, 15, 16, 17, 23, 24, 25, 31, 32, 33, 47, 48, 49, 63, 64, 65, 96, 128, 256 + 16, 256 + 32, 256 + 64, 65536, 65536 + 16, 65536 + 32, 65536 + 64} {
		if !slices.Contains(right, size) {
			out = append(out, drawn(int64(size), size))
		}
	}
	return out
}

func mustTwice(t testing.TB, b string) string {
	t.Helper()
	out, e := siv.Twice(b)
	if e != api.OK || len(out) != 16 {
		t.Fatalf("Twice(%s) = %s, %v", hexed(b), hexed(out), e)
	}
	return out
}

func mustCmac(t testing.TB, key, s string) string {
	t.Helper()
	out, e := siv.Cmac(key, s)
	if e != api.OK || len(out) != 16 {
		t.Fatalf("Cmac(%s, %d bytes) = %s, %v", hexed(key), len(s), hexed(out), e)
	}
	return out
}

func mustS2v(t testing.TB, key string, l ...string) string {
	t.Helper()
	out, e := siv.S2v(key, l)
	if e != api.OK || len(out) != 16 {
		t.Fatalf("S2v(%s, %d texts) = %s, %v", hexed(key), len(l), hexed(out), e)
	}
	return out
}

func mustSeal(t testing.TB, key string, ad []string, plain string) string {
	t.Helper()
	out, e := siv.Seal(key, ad, plain)
	if e != api.OK || len(out) != len(plain)+16 {
		t.Fatalf("Seal(%s, %d texts, %d bytes) = %d bytes, %v", hexed(key), len(ad), len(plain), len(out), e)
	}
	return out
}

// mustOpen says that a sealed text is to be opened to just that.
func mustOpen(t testing.TB, key string, ad []string, text, want string) {
	t.Helper()
	if got, e := siv.Open(key, ad, text); got != want || e != api.OK {
		t.Errorf("Open by %s with %d texts of %d bytes = %d bytes, %v; want %d", hexed(key), len(ad), len(text), len(got), e, len(want))
	}
}

// mustRefuse says that a sealed text is to be refused, and nothing told of it.
func mustRefuse(t testing.TB, key string, ad []string, text string, want api.Errno) {
	t.Helper()
	if got, e := siv.Open(key, ad, text); got != "" || e != want {
		t.Errorf("Open by %d bytes with %d texts of %d bytes = %d bytes, %v; want %v", len(key), len(ad), len(text), len(got), e, want)
	}
}

// P10.1: blocks are doubled by the chapter's words, those whose first bit is 1 and those whose is 0.
func TestTwiceByTheChaptersWords(t *testing.T) {
	var firsts [2]int
	for _, b := range blocks() {
		firsts[b[0]>>7]++
		if got, want := mustTwice(t, b), doubled(b); got != want {
			t.Errorf("Twice(%s) = %s; want %s", hexed(b), hexed(got), hexed(want))
		}
	}
	if firsts[0] == 0 || firsts[1] == 0 {
		t.Error("all blocks have one first bit")
	}
}

// P10.1: blocks written out, RFC 4493's and RFC 5297's among them.
func TestPublishedTwice(t *testing.T) {
	for _, c := range []struct{ b, want string }{
		{"00000000000000000000000000000000", "00000000000000000000000000000000"},
		{"00000000000000000000000000000001", "00000000000000000000000000000002"},
		{"00000000000000000000000000000080", "00000000000000000000000000000100"},
		{"40000000000000000000000000000000", "80000000000000000000000000000000"},
		{"80000000000000000000000000000000", "00000000000000000000000000000087"},
		{"ffffffffffffffffffffffffffffffff", "ffffffffffffffffffffffffffffff79"},
		{"7df76b0c1ab899b33e42f047b91b546f", "fbeed618357133667c85e08f7236a8de"},
		{"fbeed618357133667c85e08f7236a8de", "f7ddac306ae266ccf90bc11ee46d513b"},
		{"0e04dfafc1efbf040140582859bf073a", "1c09bf5f83df7e080280b050b37e0e74"},
		{"edf09de876c642ee4d78bce4ceedfc4f", "dbe13bd0ed8c85dc9af179c99ddbf819"},
		{"c8b43b5974960e7ce6a5dd85231e591a", "916876b2e92c1cf9cd4bbb0a463cb2b3"},
		{"adf31e285d3d1e1d4ddefc1e5bec63e9", "5be63c50ba7a3c3a9bbdf83cb7d8c755"},
		{"826aa75b5e568eed3125bfb266c61d4e", "04d54eb6bcad1dda624b7f64cd8c3a1b"},
		{"e568f68194cf76d6174d4cc04310a854", "cad1ed03299eedac2e9a99808621502f"},
		{"cad1ed03299eedac2e9a99808621502f", "95a3da06533ddb585d3533010c42a0d9"},
	} {
		if got := mustTwice(t, unhexed(t, c.b)); hexed(got) != c.want {
			t.Errorf("Twice(%s) = %s; want %s", c.b, hexed(got), c.want)
		}
	}
}

// P10.1, T9: doubling is a product: of a sum it is the sum's, no two blocks have one, and from 1 on it does not come back within a row's length.
func TestTwiceIsAProduct(t *testing.T) {
	all := blocks()
	seen := make(map[string]string)
	for i, a := range all {
		b := all[(7*i+3)%len(all)]
		if mustTwice(t, xored(a, b)) != xored(mustTwice(t, a), mustTwice(t, b)) {
			t.Errorf("%s and %s: their sum doubled is not the sum of both doubled", hexed(a), hexed(b))
		}
		twice := mustTwice(t, a)
		if before, had := seen[twice]; had && before != a {
			t.Errorf("%s and %s doubled are one", hexed(before), hexed(a))
		}
		seen[twice] = a
	}
	one := zeros(15) + "\x01"
	for i, b := 1, mustTwice(t, one); i < 1000; i, b = i+1, mustTwice(t, b) {
		if b == one || b == zeros(16) {
			t.Fatalf("1 doubled %d times = %s", i, hexed(b))
		}
	}
}

// P10.1, rule 0.3: blocks of fewer and of more than 16 bytes are refused.
func TestTwiceRefuses(t *testing.T) {
	for _, b := range textsUnlike(16) {
		if got, e := siv.Twice(b); got != "" || e != api.ErrForm {
			t.Errorf("Twice of %d bytes = %s, %v; want %v", len(b), hexed(got), e, api.ErrForm)
		}
	}
	for size := range 40 {
		if got, e := siv.Twice(zeros(size)); size != 16 && (got != "" || e != api.ErrForm) {
			t.Errorf("Twice of %d bytes = %s, %v; want %v", size, hexed(got), e, api.ErrForm)
		}
	}
}

// P10.2: the tags of RFC 4493, and those of SP 800-38B by a key of 32 bytes.
func TestPublishedCmac(t *testing.T) {
	const (
		short = "2b7e151628aed2a6abf7158809cf4f3c"
		long  = "603deb1015ca71be2b73aef0857d77811f352c073b6108d72d9810a30914dff4"
		text  = "6bc1bee22e409f96e93d7e117393172aae2d8a571e03ac9c9eb76fac45af8e5130c81c46a35ce411e5fbc1191a0a52eff69f2445df4f9b17ad2b417be66c3710"
	)
	for _, c := range []struct {
		key  string
		size int
		want string
	}{
		{short, 0, "bb1d6929e95937287fa37d129b756746"},
		{short, 16, "070a16b46b4d4144f79bdd9dd04a287c"},
		{short, 20, "7d85449ea6ea19c823a7bf78837dfade"},
		{short, 40, "dfa66747de9ae63030ca32611497c827"},
		{short, 64, "51f0bebf7e3b9d92fc49741779363cfe"},
		{long, 0, "028962f61b7bf89efc6b551f4667d983"},
		{long, 16, "28a7023f452e8f82bd4bf28d8c37c35c"},
		{long, 20, "156727dc0878944a023c1fe03bad6d93"},
		{long, 40, "aaf3d8f1de5640c232f5b169b9c911e6"},
		{long, 64, "e1992190549f6ed5696a2c056c315410"},
	} {
		if got := mustCmac(t, unhexed(t, c.key), unhexed(t, text[:2*c.size])); hexed(got) != c.want {
			t.Errorf("Cmac(%s, %d bytes) = %s; want %s", c.key, c.size, hexed(got), c.want)
		}
	}
}

// P10.2: the tags on the way to RFC 5297's examples.
func TestPublishedTagsOnTheWay(t *testing.T) {
	const (
		first  = "fffefdfcfbfaf9f8f7f6f5f4f3f2f1f0"
		second = "7f7e7d7c7b7a79787776757473727170"
	)
	for _, c := range []struct{ key, text, want string }{
		{first, "00000000000000000000000000000000", "0e04dfafc1efbf040140582859bf073a"},
		{first, "101112131415161718191a1b1c1d1e1f2021222324252627", "f1f922b7f5193ce64ff80cb47d93f23b"},
		{first, "cac30894b8eaf254035bc20540357819", "85632d07c6e8f37f950acd320a2ecc93"},
		{second, "00000000000000000000000000000000", "c8b43b5974960e7ce6a5dd85231e591a"},
		{second, "00112233445566778899aabbccddeeffdeaddadadeaddadaffeeddccbbaa99887766554433221100", "3c9b689ab41102e4809547141dd0d15a"},
		{second, "102030405060708090a0", "d98c9b0be42cb2d7aa98478ed11eda1b"},
		{second, "09f911029d74e35bd84156c5635688c0", "128c62a1ce3747a8372c1c05a538b96d"},
		{second, "7468697320697320736f6d6520706c61696e7465787420746f20656e637279662d0c6201f3341575342a3745f5c625", "7bdb6e3b432667eb06f4d14bff2fbd0f"},
	} {
		if got := mustCmac(t, unhexed(t, c.key), unhexed(t, c.text)); hexed(got) != c.want {
			t.Errorf("Cmac(%s, %s) = %s; want %s", c.key, c.text, hexed(got), c.want)
		}
	}
}

// P10.2: tags by the chapter's words, of texts of no bytes, of multiples of 16, and of one byte more and less, long ones among them.
func TestCmacByTheChaptersWords(t *testing.T) {
	for i, key := range keys(16, 32) {
		for _, size := range sizes() {
			for _, s := range []string{drawn(int64(i+size), size), zeros(size), strings.Repeat("\xff", size)} {
				if got, want := mustCmac(t, key, s), tagged(t, key, s); got != want {
					t.Errorf("Cmac(%s, %s) = %s; want %s", hexed(key), hexed(s), hexed(got), hexed(want))
				}
			}
		}
	}
	for _, size := range []int{65535, 65536, 65537, 65552, 65553, 1 << 18} {
		s, key := drawn(1, size), drawn(2, 32)
		if got, want := mustCmac(t, key, s), tagged(t, key, s); got != want {
			t.Errorf("Cmac(%s, %d bytes) = %s; want %s", hexed(key), size, hexed(got), hexed(want))
		}
	}
}

// P10.2: a text that is filled up as a short one would be is another one, and has another tag.
func TestFilledTextsAreOthers(t *testing.T) {
	key := drawn(1, 16)
	for size := range 33 {
		s := drawn(2, size)
		own := mustCmac(t, key, s)
		filled := s + "\x80" + zeros(15-size%16)
		for _, other := range []string{filled, s + "\x80", s + "\x00", "\x00" + s, filled + filled} {
			if mustCmac(t, key, other) == own {
				t.Errorf("%s and %s have one tag", hexed(s), hexed(other))
			}
		}
	}
}

// P10.2, rules 0.2 and 0.3: keys of neither 16 nor 32 bytes are refused, ahead of a row that is too long; rows of more than 127 texts are.
func TestTagsRefuse(t *testing.T) {
	for _, key := range textsUnlike(16, 32) {
		for _, s := range []string{"", "text", drawn(1, 16), drawn(1, 70000)} {
			if got, e := siv.Cmac(key, s); got != "" || e != api.ErrNumber {
				t.Errorf("Cmac by %d bytes = %s, %v; want %v", len(key), hexed(got), e, api.ErrNumber)
			}
		}
		for _, n := range []int{0, 1, 2, mostRow, mostRow + 1, 1000} {
			if got, e := siv.S2v(key, drawnRow(1, n)); got != "" || e != api.ErrNumber {
				t.Errorf("S2v by %d bytes of %d texts = %s, %v; want %v", len(key), n, hexed(got), e, api.ErrNumber)
			}
		}
	}
	for _, key := range []string{drawn(1, 16), drawn(1, 32)} {
		for _, n := range []int{mostRow + 1, mostRow + 2, 255, 256, 1000} {
			if got, e := siv.S2v(key, drawnRow(1, n)); got != "" || e != api.ErrMany {
				t.Errorf("S2v of %d texts = %s, %v; want %v", n, hexed(got), e, api.ErrMany)
			}
			if got, e := siv.S2v(key, make([]string, n)); got != "" || e != api.ErrMany {
				t.Errorf("S2v of %d texts without bytes = %s, %v; want %v", n, hexed(got), e, api.ErrMany)
			}
		}
	}
}

// P10.2: tags of rows by the chapter's words: of none, of one, of as many as may be, with last texts of all lengths about 16.
func TestS2vByTheChaptersWords(t *testing.T) {
	for i, key := range keys(16, 32) {
		for _, n := range []int{0, 1, 2, 3, 7, 16, mostRow - 1, mostRow} {
			l := drawnRow(int64(i), n)
			if got, want := mustS2v(t, key, l...), rowTagged(t, key, l); got != want {
				t.Errorf("S2v(%s, %d texts) = %s; want %s", hexed(key), n, hexed(got), hexed(want))
			}
			if l = make([]string, n); mustS2v(t, key, l...) != rowTagged(t, key, l) {
				t.Errorf("S2v(%s, %d texts without bytes) = %s", hexed(key), n, hexed(mustS2v(t, key, l...)))
			}
		}
		for _, size := range sizes() {
			for _, n := range []int{0, 1, 3} {
				for _, last := range []string{drawn(int64(i+size), size), zeros(size)} {
					l := append(drawnRow(int64(size), n), last)
					if got, want := mustS2v(t, key, l...), rowTagged(t, key, l); got != want {
						t.Errorf("S2v(%s, %d texts, the last of %d bytes) = %s; want %s", hexed(key), n+1, size, hexed(got), hexed(want))
					}
				}
			}
		}
	}
}

// P10.2: no row is a row of one text without bytes, nor one of the text that it is told by.
func TestNoRowIsItsOwn(t *testing.T) {
	for _, key := range keys(16, 32) {
		none := mustS2v(t, key)
		if none != mustCmac(t, key, zeros(15)+"\x01") {
			t.Errorf("S2v(%s) of none = %s", hexed(key), hexed(none))
		}
		if got, e := siv.S2v(key, []string{}); got != none || e != api.OK {
			t.Errorf("S2v(%s) of an empty list = %s, %v", hexed(key), hexed(got), e)
		}
		if none == mustS2v(t, key, "") || none == mustS2v(t, key, zeros(15)+"\x01") {
			t.Errorf("S2v(%s) of none is that of a text", hexed(key))
		}
	}
}

// P10.2: a text's place, where it ends, and how many there are, all count.
func TestRowsUnlike(t *testing.T) {
	key := drawn(1, 16)
	a, b, c := drawn(1, 20), drawn(2, 16), drawn(3, 5)
	seen := make(map[string]int)
	for i, l := range [][]string{
		nil, {""}, {"", ""}, {"", "", ""}, {a}, {b}, {c}, {a, b}, {b, a}, {a + b}, {a, c}, {c, a}, {b, c}, {c, b}, {a, b, c}, {b, a, c}, {c, a, b}, {a, b + c}, {a + b, c}, {a + b + c},
		{"", a}, {a, ""}, {"", b}, {b, ""}, {a, a}, {b, b}, {c, c}, {c + "\x80" + zeros(10)}, {c + "\x80"}, {b[:15], b[15:] + a}, {b[:15] + "\x80"}, {b[:15]},
	} {
		tag := mustS2v(t, key, l...)
		if before, had := seen[tag]; had {
			t.Errorf("the rows %d and %d have one tag", before, i)
		}
		seen[tag] = i
	}
}

// example is a published one: what is sealed, by which key, with what along.
type example struct {
	key    string
	ad     []string
	plain  string
	sealed string
}

// examples are the two of RFC 5297, and one by a key of 64 bytes.
func examples() []example {
	return []example{
		{
			"fffefdfcfbfaf9f8f7f6f5f4f3f2f1f0f0f1f2f3f4f5f6f7f8f9fafbfcfdfeff",
			[]string{"101112131415161718191a1b1c1d1e1f2021222324252627"},
			"112233445566778899aabbccddee",
			"85632d07c6e8f37f950acd320a2ecc93 40c02b9690c4dc04daef7f6afe5c",
		},
		{
			"7f7e7d7c7b7a79787776757473727170404142434445464748494a4b4c4d4e4f",
			[]string{
				"00112233445566778899aabbccddeeffdeaddadadeaddadaffeeddccbbaa99887766554433221100",
				"102030405060708090a0",
				"09f911029d74e35bd84156c5635688c0",
			},
			"7468697320697320736f6d6520706c61696e7465787420746f20656e6372797074207573696e67205349562d414553",
			"7bdb6e3b432667eb06f4d14bff2fbd0f cb900f2fddbe404326601965c889bf17dba77ceb094fa663b7a3f748ba8af829ea64ad544a272e9c485b62a3fd5c0d",
		},
		{
			"fffefdfcfbfaf9f8f7f6f5f4f3f2f1f06f6e6d6c6b6a69686766656463626160f0f1f2f3f4f5f6f7f8f9fafbfcfdfeff000102030405060708090a0b0c0d0e0f",
			[]string{"101112131415161718191a1b1c1d1e1f2021222324252627"},
			"112233445566778899aabbccddee",
			"f125274c598065cfc26b0e7157502908 8b035217e380cac8919ee800c126",
		},
	}
}

// P10.3, P10.4: the chapter's example, RFC 5297's second, and one by a key of 64 bytes.
func TestPublishedSealed(t *testing.T) {
	for _, c := range examples() {
		var ad []string
		for _, a := range c.ad {
			ad = append(ad, unhexed(t, a))
		}
		key, plain, want := unhexed(t, c.key), unhexed(t, c.plain), unhexed(t, c.sealed)
		if got := mustSeal(t, key, ad, plain); got != want {
			t.Errorf("Seal(%s, .., %s) = %s; want %s", c.key, c.plain, hexed(got), c.sealed)
		}
		if got := mustS2v(t, key[:len(key)/2], append(slices.Clone(ad), plain)...); got != want[:16] {
			t.Errorf("S2v(%s, .., %s) = %s; want %s", c.key, c.plain, hexed(got), hexed(want[:16]))
		}
		mustOpen(t, key, ad, want, plain)
	}
}

// P10.3 to P10.5: keys of both lengths, texts of all small lengths and about multiples of 16, ad of none, of some and of as many as may be: sealed by the chapter's words, and opened again.
func TestSealedByTheChaptersWords(t *testing.T) {
	for i, key := range keys(32, 64) {
		for j, size := range sizes() {
			plain := drawn(int64(i+j), size)
			for _, ad := range [][]string{nil, {""}, {drawn(int64(j), size)}, drawnRow(int64(j), 3)} {
				got := mustSeal(t, key, ad, plain)
				if want := sealed(t, key, ad, plain); got != want {
					t.Fatalf("Seal(%s, %d texts, %s) = %s; want %s", hexed(key), len(ad), hexed(plain), hexed(got), hexed(want))
				}
				mustOpen(t, key, ad, got, plain)
			}
		}
		for _, n := range []int{mostAD - 1, mostAD} {
			ad, plain := drawnRow(int64(i), n), drawn(int64(i), 20)
			got := mustSeal(t, key, ad, plain)
			if want := sealed(t, key, ad, plain); got != want {
				t.Errorf("Seal(%s, %d texts) = %s; want %s", hexed(key), n, hexed(got), hexed(want))
			}
			mustOpen(t, key, ad, got, plain)
		}
	}
}

// P10.3 to P10.5: the longest texts; texts that go along may be longer still.
func TestLongestTexts(t *testing.T) {
	for _, key := range []string{drawn(1, 32), drawn(1, 64)} {
		for _, size := range []int{4096, 65519, 65520, 65521, 65535, 65536} {
			ad, plain := []string{drawn(2, 65553)}, drawn(int64(size), size)
			got := mustSeal(t, key, ad, plain)
			if got != sealed(t, key, ad, plain) {
				t.Errorf("Seal of %d bytes is not as the chapter says", size)
			}
			mustOpen(t, key, ad, got, plain)
		}
	}
}

// P10.3, P10.4: of v the highest bits of the bytes 8 and 12 are taken away for the stream, and of no other byte; all four ways of how they are.
func TestBitsTakenAway(t *testing.T) {
	var ways [4]int
	for i := range int64(200) {
		key, plain := drawn(i, 32+32*int(i%2)), drawn(i, 40)
		got := mustSeal(t, key, nil, plain)
		ways[got[8]>>7<<1|got[12]>>7]++
		if want := sealed(t, key, nil, plain); got != want {
			t.Errorf("Seal(%s, none, %s) = %s; want %s", hexed(key), hexed(plain), hexed(got), hexed(want))
		}
		mustOpen(t, key, nil, got, plain)
		mustRefuse(t, key, nil, changed(got, 8, 0x80), api.ErrSeal)
		mustRefuse(t, key, nil, changed(got, 12, 0x80), api.ErrSeal)
		mustRefuse(t, key, nil, changed(changed(got, 8, 0x80), 12, 0x80), api.ErrSeal)
	}
	if slices.Contains(ways[:], 0) {
		t.Errorf("some way does not come: %v", ways)
	}
}

// P10.3, rules 0.2 and 0.3: what Seal refuses, the key ahead of ad and ad ahead of the text, with nothing beside the error.
func TestSealRefuses(t *testing.T) {
	refused := func(key string, ad []string, plain string, want api.Errno) {
		t.Helper()
		if got, e := siv.Seal(key, ad, plain); got != "" || e != want {
			t.Errorf("Seal of %d bytes with %d texts by %d bytes = %d bytes, %v; want %v", len(plain), len(ad), len(key), len(got), e, want)
		}
	}
	long := drawn(1, mostPlain+1)
	for _, key := range textsUnlike(32, 64) {
		for _, n := range []int{0, 1, mostAD, mostAD + 1, 1000} {
			refused(key, make([]string, n), "", api.ErrNumber)
			refused(key, make([]string, n), "text", api.ErrNumber)
			refused(key, make([]string, n), long, api.ErrNumber)
		}
	}
	for _, size := range []int{32, 64} {
		key := drawn(1, size)
		for _, n := range []int{mostAD + 1, mostAD + 2, 256, 1000} {
			refused(key, drawnRow(1, n), "", api.ErrMany)
			refused(key, make([]string, n), "text", api.ErrMany)
			refused(key, make([]string, n), long, api.ErrMany)
		}
		for _, n := range []int{0, 1, mostAD} {
			refused(key, make([]string, n), long, api.ErrLong)
			refused(key, make([]string, n), long+long, api.ErrLong)
			mustSeal(t, key, make([]string, n), "")
			mustSeal(t, key, make([]string, n), long[:mostPlain])
		}
	}
}

// P10.4, rules 0.2 and 0.3: what Open refuses, the key ahead of ad, ad ahead of the text's length, and its length ahead of its tag.
func TestOpenRefuses(t *testing.T) {
	long := drawn(1, mostSealed+1)
	texts := []string{"", long[:15], long[:16], long[:100], long[:mostSealed], long}
	for _, key := range textsUnlike(32, 64) {
		for _, n := range []int{0, 1, mostAD, mostAD + 1, 1000} {
			for _, text := range texts {
				mustRefuse(t, key, make([]string, n), text, api.ErrNumber)
			}
		}
	}
	for _, size := range []int{32, 64} {
		key := drawn(1, size)
		for _, n := range []int{mostAD + 1, mostAD + 2, 256, 1000} {
			for _, text := range texts {
				mustRefuse(t, key, make([]string, n), text, api.ErrMany)
			}
		}
		for _, n := range []int{0, 1, mostAD} {
			ad := make([]string, n)
			for size := range 16 {
				mustRefuse(t, key, ad, long[:size], api.ErrShort)
			}
			mustRefuse(t, key, ad, long[:16], api.ErrSeal)
			mustRefuse(t, key, ad, long[:17], api.ErrSeal)
			mustRefuse(t, key, ad, long[:mostSealed], api.ErrSeal)
			mustRefuse(t, key, ad, long, api.ErrLong)
			mustRefuse(t, key, ad, long+long, api.ErrLong)
		}
	}
}

// P10.4: lengths and how many go along are asked ahead of tags: what is sealed rightly, but too long or with too many texts, is refused as that.
func TestRightTagsOfTooMuch(t *testing.T) {
	for _, key := range []string{drawn(1, 32), drawn(1, 64)} {
		plain := drawn(3, mostPlain+1)
		mustRefuse(t, key, nil, sealed(t, key, nil, plain), api.ErrLong)
		mustOpen(t, key, nil, sealed(t, key, nil, plain[:mostPlain]), plain[:mostPlain])
		ad := drawnRow(4, mostAD+1)
		mustRefuse(t, key, ad, sealed(t, key, ad, "text"), api.ErrMany)
		mustOpen(t, key, ad[:mostAD], sealed(t, key, ad[:mostAD], "text"), "text")
	}
}

// P10.4: no bit can be changed of v, of c, of a text that goes along, or of the key, and no byte taken off or put to one.
func TestChangesAreNotOpened(t *testing.T) {
	for _, keySize := range []int{32, 64} {
		for _, size := range []int{0, 1, 15, 16, 17, 40} {
			key, ad := drawn(1, keySize), []string{drawn(3, size/2+1), drawn(4, 16)}
			text := mustSeal(t, key, ad, drawn(5, size))
			for i := range 8 * len(text) {
				mustRefuse(t, key, ad, changed(text, i/8, 1<<(i%8)), api.ErrSeal)
			}
			for k, a := range ad {
				for i := range 8 * len(a) {
					other := slices.Clone(ad)
					other[k] = changed(a, i/8, 1<<(i%8))
					mustRefuse(t, key, other, text, api.ErrSeal)
				}
			}
			for i := range 8 * keySize {
				if size == 0 && i/8 >= keySize/2 { // the stream's half hides nothing of a text without bytes
					mustOpen(t, changed(key, i/8, 1<<(i%8)), ad, text, "")
					continue
				}
				mustRefuse(t, changed(key, i/8, 1<<(i%8)), ad, text, api.ErrSeal)
			}
			for _, other := range []string{text + "\x00", "\x00" + text, text[:16] + "\x00" + text[16:], text + text} {
				mustRefuse(t, key, ad, other, api.ErrSeal)
			}
			if size > 0 {
				mustRefuse(t, key, ad, text[1:], api.ErrSeal)
				mustRefuse(t, key, ad, text[:len(text)-1], api.ErrSeal)
				mustRefuse(t, key, ad, text[:16]+text[17:], api.ErrSeal)
			}
		}
	}
}

// P10.4: whole bytes of v may be wrong in any way, all of them too; two that are wrong alike do not make up for one another.
func TestWrongTags(t *testing.T) {
	key, ad := drawn(1, 32), []string{"ad"}
	for _, plain := range []string{"", "a text"} {
		text := mustSeal(t, key, ad, plain)
		v, c := text[:16], text[16:]
		for i := range 16 {
			for by := 1; by < 256; by++ {
				mustRefuse(t, key, ad, changed(v, i, byte(by))+c, api.ErrSeal)
			}
			for j := range i {
				mustRefuse(t, key, ad, changed(changed(v, i, 0x55), j, 0x55)+c, api.ErrSeal)
			}
		}
		for _, wrong := range []string{zeros(16), xored(v, strings.Repeat("\xff", 16)), v[8:] + v[:8], v[15:] + v[:15]} {
			mustRefuse(t, key, ad, wrong+c, api.ErrSeal)
		}
	}
}

// P10.4: which texts go along, where each one ends, and in which order they stand, is sealed.
func TestWhatGoesAlongIsSealed(t *testing.T) {
	key, ad, plain := drawn(1, 32), []string{drawn(1, 20), drawn(2, 16), drawn(3, 5)}, drawn(4, 30)
	text := mustSeal(t, key, ad, plain)
	for _, other := range [][]string{
		nil, {}, {""}, ad[:1], ad[:2], ad[1:], {ad[1], ad[0], ad[2]}, {ad[0], ad[2], ad[1]}, {ad[2], ad[1], ad[0]},
		{ad[0], ad[1], ad[2], ""}, {"", ad[0], ad[1], ad[2]}, {ad[0] + ad[1], ad[2]}, {ad[0], ad[1] + ad[2]}, {ad[0] + ad[1] + ad[2]},
		{ad[0], ad[1], ad[2], plain}, {ad[0], ad[1], ad[2] + "\x00"}, {ad[0], ad[1], ad[2] + "\x80"}, {ad[0][1:], ad[1], ad[2]}, {ad[0], ad[1], ad[2], ad[2]},
	} {
		mustRefuse(t, key, other, text, api.ErrSeal)
	}
	bare := mustSeal(t, key, nil, plain)
	mustOpen(t, key, []string{}, bare, plain)
	mustRefuse(t, key, []string{""}, bare, api.ErrSeal)
}

// P10.6: of many texts, right ones and ones that were changed or drawn, each that is opened is what Seal makes of what it is opened to.
func TestWhatOpensIsWhatSealMakes(t *testing.T) {
	opened := 0
	for i := range int64(2000) {
		key, ad := drawn(i%7, 32+32*int(i%2)), drawnRow(i, int(i)%5)
		text := sealed(t, key, ad, drawn(i, int(i)%50))
		switch i % 4 {
		case 1:
			text = changed(text, int(i)%len(text), byte(1<<(i%8)))
		case 2:
			text = changed(text, 8+4*int(i/4%2), 0x80)
		case 3:
			text = drawn(i, int(i)%50)
		}
		plain, e := siv.Open(key, ad, text)
		if right := i%4 == 0; right != (e == api.OK) {
			t.Fatalf("Open(%s, .., %s) = %s, %v", hexed(key), hexed(text), hexed(plain), e)
		}
		if e != api.OK {
			continue
		}
		opened++
		if again := mustSeal(t, key, ad, plain); again != text {
			t.Errorf("Seal of what %s is opened to = %s", hexed(text), hexed(again))
		}
	}
	if opened != 500 {
		t.Errorf("%d texts were opened", opened)
	}
}

// P10.6: one key, ad and text make one sealed text, always, whatever was sealed in between and wherever their bytes stand.
func TestOneSealedTextAlways(t *testing.T) {
	first := make(map[int64]string)
	for range 3 {
		for i := range int64(100) {
			key, ad, plain := drawn(i, 32+32*int(i%2)), drawnRow(i, int(i)%6), drawn(i, int(i))
			text := mustSeal(t, strings.Clone(key), slices.Clone(ad), strings.Clone(plain))
			if before, had := first[i]; had && before != text {
				t.Errorf("Seal(%s, .., %s) = %s, and once more %s", hexed(key), hexed(plain), hexed(before), hexed(text))
			}
			first[i] = text
			siv.Open(key, ad, changed(text, 0, 1))
		}
	}
	if mustSeal(t, drawn(1, 32), nil, "text") != mustSeal(t, drawn(1, 32), []string{}, "text") {
		t.Error("Seal with an empty list is not that with none")
	}
}

// Rule 0.5: what goes along is not changed, nor what stands behind it in the same memory.
func TestListsAreNotChanged(t *testing.T) {
	all := drawnRow(1, 10)
	for n := range 8 {
		mine := slices.Clone(all)
		text := mustSeal(t, drawn(1, 32), mine[:n], drawn(2, 40))
		mustOpen(t, drawn(1, 32), mine[:n], text, drawn(2, 40))
		mustRefuse(t, drawn(1, 32), mine[:n], changed(text, 0, 1), api.ErrSeal)
		mustS2v(t, drawn(1, 16), mine[:n]...)
		if !slices.Equal(mine, all) {
			t.Errorf("with %d texts the list has become another", n)
		}
	}
}

// Rule 0.1: no call panics, whatever it is given.
func TestAnyArguments(t *testing.T) {
	var texts []string
	for _, size := range []int{0, 1, 15, 16, 17, 24, 31, 32, 33, 48, 63, 64, 65, mostPlain + 1, mostSealed + 1} {
		texts = append(texts, zeros(size), drawn(int64(size), size))
	}
	rows := [][]string{nil, {}, {""}, texts[:20], make([]string, 126), make([]string, 127), make([]string, 128), make([]string, 10000)}
	for _, a := range texts {
		siv.Twice(a)
		for _, b := range texts {
			siv.Cmac(a, b[:min(len(b), 100)])
			for _, l := range rows {
				siv.S2v(a, l)
				siv.Seal(a, l, b[:min(len(b), 100)])
				siv.Open(a, l, b[:min(len(b), 100)])
			}
		}
		for _, key := range []string{drawn(1, 32), drawn(1, 64)} {
			siv.Seal(key, nil, a)
			siv.Open(key, nil, a)
		}
	}
}

// LANGUAGE.md's rule 8: nothing is kept from call to call, also where many call at once.
func TestManyAtOnce(t *testing.T) {
	var all sync.WaitGroup
	along := drawnRow(1, 5)
	for i := range int64(8) {
		all.Go(func() {
			key := drawn(i, 32+32*int(i%2))
			for size := range 60 {
				ad, plain := along[:size%5], drawn(i, size)
				got, e := siv.Seal(key, ad, plain)
				if want := sealed(t, key, ad, plain); got != want || e != api.OK {
					t.Errorf("Seal of %d bytes, among others, = %s, %v; want %s", size, hexed(got), e, hexed(want))
				}
				if back, e := siv.Open(key, ad, got); back != plain || e != api.OK {
					t.Errorf("Open of %d bytes, among others, = %s, %v", size, hexed(back), e)
				}
			}
		})
	}
	all.Wait()
}

// cut is a text cut into pieces of the length that is told, a fuzzer's way of giving a row; a length of 0 makes none.
func cut(s string, size uint8) []string {
	var out []string
	for size > 0 && s != "" {
		n := min(int(size), len(s))
		out = append(out, s[:n])
		s = s[n:]
	}
	return out
}

// FuzzCmac looks for tags of texts and of rows that are not those of the chapter's words.
func FuzzCmac(f *testing.F) {
	f.Add(zeros(16), "", uint8(0))
	f.Add(drawn(1, 32), drawn(2, 40), uint8(16))
	f.Add(drawn(1, 16), drawn(2, 130), uint8(1))
	f.Add(drawn(1, 24), drawn(2, 16), uint8(5))
	f.Fuzz(func(t *testing.T, key, s string, size uint8) {
		l := cut(s, size)
		tag, e := siv.Cmac(key, s)
		row, g := siv.S2v(key, l)
		wantTag, wantRow, wantE, wantG := "", "", api.OK, api.OK
		switch {
		case len(key) != 16 && len(key) != 32:
			wantE, wantG = api.ErrNumber, api.ErrNumber
		case len(l) > mostRow:
			wantTag, wantG = tagged(t, key, s), api.ErrMany
		default:
			wantTag, wantRow = tagged(t, key, s), rowTagged(t, key, l)
		}
		if tag != wantTag || e != wantE {
			t.Fatalf("Cmac(%s, %s) = %s, %v; want %s, %v", hexed(key), hexed(s), hexed(tag), e, hexed(wantTag), wantE)
		}
		if row != wantRow || g != wantG {
			t.Fatalf("S2v(%s, %s cut by %d) = %s, %v; want %s, %v", hexed(key), hexed(s), size, hexed(row), g, hexed(wantRow), wantG)
		}
	})
}

// FuzzSeal looks for sealed texts that are not those of the chapter's words, or that are not opened again.
func FuzzSeal(f *testing.F) {
	f.Add(zeros(32), "", uint8(0), "")
	f.Add(drawn(1, 64), drawn(3, 20), uint8(7), drawn(4, 60))
	f.Add(drawn(1, 32), drawn(3, 127), uint8(1), "text")
	f.Add(drawn(1, 48), "", uint8(0), "")
	f.Fuzz(func(t *testing.T, key, along string, size uint8, plain string) {
		ad := cut(along, size)
		got, e := siv.Seal(key, ad, plain)
		want, text := api.OK, ""
		switch {
		case len(key) != 32 && len(key) != 64:
			want = api.ErrNumber
		case len(ad) > mostAD:
			want = api.ErrMany
		case len(plain) > mostPlain:
			want = api.ErrLong
		default:
			text = sealed(t, key, ad, plain)
		}
		if got != text || e != want {
			t.Fatalf("Seal(%s, %s cut by %d, %s) = %s, %v; want %s, %v", hexed(key), hexed(along), size, hexed(plain), hexed(got), e, hexed(text), want)
		}
		if e != api.OK {
			return
		}
		if back, e := siv.Open(key, ad, got); back != plain || e != api.OK {
			t.Fatalf("Open(%s, %s cut by %d, %s) = %s, %v; want %s", hexed(key), hexed(along), size, hexed(got), hexed(back), e, hexed(plain))
		}
	})
}

// FuzzOpen looks for texts that are opened and are not what Seal makes, and for others that are refused otherwise than by their seal.
func FuzzOpen(f *testing.F) {
	f.Add(drawn(1, 32), "", uint8(0), drawn(3, 16))
	f.Add(drawn(1, 64), "ad", uint8(1), drawn(3, 40))
	f.Add(drawn(1, 32), drawn(2, 127), uint8(1), drawn(3, 40))
	f.Add(drawn(1, 32), "", uint8(0), drawn(3, 15))
	f.Add(drawn(1, 32), "", uint8(0), sealed(f, drawn(1, 32), nil, ""))
	f.Add(drawn(1, 64), "ad", uint8(1), sealed(f, drawn(1, 64), []string{"a", "d"}, "a text"))
	f.Fuzz(func(t *testing.T, key, along string, size uint8, text string) {
		ad := cut(along, size)
		got, e := siv.Open(key, ad, text)
		want, plain := api.OK, ""
		switch {
		case len(key) != 32 && len(key) != 64:
			want = api.ErrNumber
		case len(ad) > mostAD:
			want = api.ErrMany
		case len(text) < 16:
			want = api.ErrShort
		case len(text) > mostSealed:
			want = api.ErrLong
		default:
			plain = crossed(t, key[len(key)/2:], text[:16], text[16:])
			if sealed(t, key, ad, plain) != text {
				want, plain = api.ErrSeal, ""
			}
		}
		if got != plain || e != want {
			t.Fatalf("Open(%s, %s cut by %d, %s) = %s, %v; want %s, %v", hexed(key), hexed(along), size, hexed(text), hexed(got), e, hexed(plain), want)
		}
	})
}

func BenchmarkSeal(b *testing.B) {
	key, plain := drawn(1, 32), drawn(3, mostPlain)
	b.SetBytes(mostPlain)
	for b.Loop() {
		siv.Seal(key, nil, plain)
	}
}

func BenchmarkSealOfACookie(b *testing.B) {
	key, ad, plain := drawn(1, 32), []string{drawn(2, 48)}, drawn(3, 68)
	for b.Loop() {
		siv.Seal(key, ad, plain)
	}
}

func BenchmarkCmac(b *testing.B) {
	key, text := drawn(1, 16), drawn(3, mostPlain)
	b.SetBytes(mostPlain)
	for b.Loop() {
		siv.Cmac(key, text)
	}
}
