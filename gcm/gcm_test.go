package gcm_test

import (
	libaes "crypto/aes"
	"crypto/cipher"
	"encoding/binary"
	"encoding/hex"
	"math/rand"
	"strings"
	"sync"
	"testing"

	"pendulum/aes"
	"pendulum/api"
	"pendulum/gcm"
)

const (
	mostPlain  = 65536
	mostSealed = 65552
)

// drawn is a text that is the same in every run.
func drawn(seed int64, size int) string {
	out := make([]byte, size)
	rand.New(rand.NewSource(seed)).Read(out)
	return string(out)
}

func unhexed(t testing.TB, digits string) string {
	t.Helper()
	out, err := hex.DecodeString(strings.ReplaceAll(digits, " ", ""))
	if err != nil {
		t.Fatal(err)
	}
	return string(out)
}

func hexed(s string) string {
	return hex.EncodeToString([]byte(s))
}

func zeros(n int) string {
	return strings.Repeat("\x00", n)
}

// xored is two texts of one length, xor.
func xored(a, b string) string {
	out := []byte(a)
	for i := range out {
		out[i] ^= b[i]
	}
	return string(out)
}

// changed is a text with its byte i xor what is told.
func changed(s string, i int, by byte) string {
	out := []byte(s)
	out[i] ^= by
	return string(out)
}

// power is the block that stands for x^i.
func power(i int) string {
	return changed(zeros(16), i/8, 0x80>>(i%8))
}

// library is the library's way of sealing by a key.
func library(t testing.TB, key string) cipher.AEAD {
	t.Helper()
	c, err := libaes.NewCipher([]byte(key))
	if err != nil {
		t.Fatal(err)
	}
	out, err := cipher.NewGCM(c)
	if err != nil {
		t.Fatal(err)
	}
	return out
}

// sealed is a text sealed by the library.
func sealed(t testing.TB, key, nonce, ad, plain string) string {
	t.Helper()
	return string(library(t, key).Seal(nil, []byte(nonce), []byte(plain), []byte(ad)))
}

// forged is a hidden text with the tag that is right for it, made by the test's own product.
func forged(t testing.TB, key, nonce, ad, c string) string {
	t.Helper()
	h, e := aes.Encrypt(key, zeros(16))
	mask, f := aes.Encrypt(key, nonce+"\x00\x00\x00\x01")
	if e != api.OK || f != api.OK {
		t.Fatal(e, f)
	}
	return c + xored(hashed(h, ad, c), mask)
}

// product is a product by the chapter's words: of polynomials as they are, and what is left of it by x^128 + x^7 + x^2 + x + 1.
func product(a, b string) string {
	var whole [255]byte
	for i := range 128 {
		if a[i/8]>>(7-i%8)&1 == 0 {
			continue
		}
		for j := range 128 {
			whole[i+j] ^= b[j/8] >> (7 - j%8) & 1
		}
	}
	for i := 254; i >= 128; i-- {
		for _, k := range []int{7, 2, 1, 0} {
			whole[i-128+k] ^= whole[i]
		}
	}
	out := make([]byte, 16)
	for i, bit := range whole[:128] {
		out[i/8] |= bit << (7 - i%8)
	}
	return string(out)
}

// hashed is a hash by the chapter's words.
func hashed(h, ad, s string) string {
	all := ad + zeros(-len(ad)&15) + s + zeros(-len(s)&15)
	all = string(binary.BigEndian.AppendUint64([]byte(all), 8*uint64(len(ad))))
	all = string(binary.BigEndian.AppendUint64([]byte(all), 8*uint64(len(s))))
	out := zeros(16)
	for ; all != ""; all = all[16:] {
		out = product(xored(out, all[:16]), h)
	}
	return out
}

// blocks are blocks: plain ones, the powers of x, and drawn ones.
func blocks() []string {
	out := []string{zeros(16), strings.Repeat("\xff", 16), strings.Repeat("\x80", 16), strings.Repeat("\x01", 16)}
	for i := range 128 {
		out = append(out, power(i))
	}
	for seed := range int64(50) {
		out = append(out, drawn(seed, 16))
	}
	return out
}

// sizes are lengths of texts: none, all small ones, and those about multiples of 16.
func sizes() []int {
	var out []int
	for size := range 70 {
		out = append(out, size)
	}
	return append(out, 127, 128, 129, 255, 256, 257, 1023, 1024, 1025)
}

// keys are keys of both lengths.
func keys() []string {
	var out []string
	for _, size := range []int{16, 32} {
		out = append(out, zeros(size), strings.Repeat("\xff", size))
		for seed := range int64(4) {
			out = append(out, drawn(seed, size))
		}
	}
	return out
}

// textsUnlike are texts whose length is none of those that are told.
func textsUnlike(right ...int) []string {
	var out []string
	for _, size := range []int{0, 1, 8, 11, 12, 13, 15, 16, 17, 23, 24, 25, 31, 32, 33, 48, 64, 128, 256 + 12, 256 + 16, 256 + 32, 65536, 65536 + 12, 65536 + 16} {
		fits := true
		for _, r := range right {
			fits = fits && size != r
		}
		if fits {
			out = append(out, drawn(int64(size), size))
		}
	}
	return out
}

func mustTimes(t testing.TB, a, b string) string {
	t.Helper()
	out, e := gcm.Times(a, b)
	if e != api.OK || len(out) != 16 {
		t.Fatalf("Times(%s, %s) = %s, %v", hexed(a), hexed(b), hexed(out), e)
	}
	return out
}

func mustSeal(t testing.TB, key, nonce, ad, plain string) string {
	t.Helper()
	out, e := gcm.Seal(key, nonce, ad, plain)
	if e != api.OK || len(out) != len(plain)+16 {
		t.Fatalf("Seal(%s, %s, %d bytes, %d bytes) = %d bytes, %v", hexed(key), hexed(nonce), len(ad), len(plain), len(out), e)
	}
	return out
}

// mustRefuse says that a sealed text is to be refused, and nothing told of it.
func mustRefuse(t testing.TB, key, nonce, ad, sealed string, want api.Errno) {
	t.Helper()
	if got, e := gcm.Open(key, nonce, ad, sealed); got != "" || e != want {
		t.Errorf("Open by %d bytes, %d, %d of %d = %d bytes, %v; want %v", len(key), len(nonce), len(ad), len(sealed), len(got), e, want)
	}
}

// P9.1: products are those of the chapter's words; with 0 it is 0, with the block of x^0 the other one.
func TestTimesIsThePolynomials(t *testing.T) {
	one := "\x80" + zeros(15)
	for i, a := range blocks() {
		for j, b := range blocks() {
			if i%5 != 0 && j%5 != 0 && (i+j)%3 != 0 {
				continue
			}
			if got, want := mustTimes(t, a, b), product(a, b); got != want {
				t.Fatalf("Times(%s, %s) = %s; want %s", hexed(a), hexed(b), hexed(got), hexed(want))
			}
		}
		if mustTimes(t, a, zeros(16)) != zeros(16) || mustTimes(t, zeros(16), a) != zeros(16) {
			t.Errorf("%s times 0 is not 0", hexed(a))
		}
		if mustTimes(t, a, one) != a || mustTimes(t, one, a) != a {
			t.Errorf("%s times 1 is not what it was", hexed(a))
		}
	}
}

// P9.1: x^i times x^j is x^(i+j), and behind x^127 the rest of the polynomial.
func TestPowersOfX(t *testing.T) {
	for i := range 128 {
		for j := range 128 {
			want := ""
			switch k := i + j; {
			case k < 128:
				want = power(k)
			case k-128+7 < 128: // the rest, 1 + x + x^2 + x^7, times x^(k-128)
				want = xored(xored(power(k-128), power(k-127)), xored(power(k-126), power(k-121)))
			default: // that rest is too high itself
				want = product(power(i), power(j))
			}
			if got := mustTimes(t, power(i), power(j)); got != want {
				t.Fatalf("x^%d times x^%d = %s; want %s", i, j, hexed(got), hexed(want))
			}
		}
	}
	if got := mustTimes(t, power(127), power(1)); got != "\xe1"+zeros(15) {
		t.Errorf("x^127 times x = %s", hexed(got))
	}
}

// P9.1: products that are published with the examples of GCM: the first hidden block times h, and what the lengths' block makes of it.
func TestPublishedProducts(t *testing.T) {
	for _, c := range []struct{ a, b, want string }{
		{"0388dace60b6a392f328c2b971b2fe78", "66e94bd4ef8a2c3b884cfa59ca342b2e", "5e2ec746917062882c85b0685353deb7"},
		{"5e2ec746917062882c85b0685353de37", "66e94bd4ef8a2c3b884cfa59ca342b2e", "f38cbb1ad69223dcc3457ae5b6b0f885"},
		{"cea7403d4d606b6e074ec5d3baf39d18", "dc95c078a2408989ad48a21492842087", "fd6ab7586e556dba06d69cfe6223b262"},
		{"fd6ab7586e556dba06d69cfe6223b2e2", "dc95c078a2408989ad48a21492842087", "83de425c5edc5d498f382c441041ca92"},
	} {
		if got := mustTimes(t, unhexed(t, c.a), unhexed(t, c.b)); hexed(got) != c.want {
			t.Errorf("Times(%s, %s) = %s; want %s", c.a, c.b, hexed(got), c.want)
		}
	}
}

// T9: blocks are a field: products may be made in any order, are those of sums' parts, and each block but 0 has an inverse.
func TestBlocksAreAField(t *testing.T) {
	all := blocks()
	for i, a := range all {
		b, c := all[(7*i+3)%len(all)], all[(11*i+5)%len(all)]
		ab := mustTimes(t, a, b)
		if ab != mustTimes(t, b, a) {
			t.Errorf("%s and %s: which is first matters", hexed(a), hexed(b))
		}
		if mustTimes(t, ab, c) != mustTimes(t, a, mustTimes(t, b, c)) {
			t.Errorf("%s, %s and %s: which two are first matters", hexed(a), hexed(b), hexed(c))
		}
		if mustTimes(t, xored(a, b), c) != xored(mustTimes(t, a, c), mustTimes(t, b, c)) {
			t.Errorf("%s and %s: their sum times %s is not that of the products", hexed(a), hexed(b), hexed(c))
		}
		if a != zeros(16) && b != zeros(16) && ab == zeros(16) {
			t.Errorf("%s times %s is 0", hexed(a), hexed(b))
		}
		if a == zeros(16) {
			continue
		}
		square, inverse := a, power(0)
		for range 127 { // the inverse is the power 2^128 - 2
			square = mustTimes(t, square, square)
			inverse = mustTimes(t, inverse, square)
		}
		if mustTimes(t, a, inverse) != power(0) {
			t.Errorf("%s has no inverse", hexed(a))
		}
	}
}

// P9.1, rule 0.3: blocks of fewer and of more than 16 bytes, either of the two or both.
func TestTimesRefuses(t *testing.T) {
	refused := func(a, b string) {
		t.Helper()
		if got, e := gcm.Times(a, b); got != "" || e != api.ErrForm {
			t.Errorf("Times of %d bytes and %d = %s, %v; want %v", len(a), len(b), hexed(got), e, api.ErrForm)
		}
	}
	for i, a := range textsUnlike(16) {
		refused(a, drawn(1, 16))
		refused(drawn(1, 16), a)
		refused(a, a)
		refused(a, textsUnlike(16)[(i+1)%len(textsUnlike(16))])
	}
	refused(drawn(1, 15), drawn(1, 17))
	refused(drawn(1, 17), drawn(1, 15))
}

// P9.2: hashes are those of the chapter's words, of ad and s of no bytes, of multiples of 16, and of one byte more and less.
func TestHashByTheChaptersWords(t *testing.T) {
	for i, h := range blocks() {
		for _, sizes := range [][2]int{
			{0, 0}, {0, 1}, {1, 0}, {0, 15}, {0, 16}, {0, 17}, {15, 0}, {16, 0}, {17, 0}, {15, 15}, {15, 17}, {17, 15},
			{16, 16}, {31, 32}, {32, 33}, {33, 31}, {20, 60}, {48, 47}, {64, 64}, {i, 2 * i},
		} {
			ad, s := drawn(int64(i), sizes[0]), drawn(int64(i+1), sizes[1])
			got, e := gcm.Hash(h, ad, s)
			if want := hashed(h, ad, s); got != want || e != api.OK {
				t.Errorf("Hash(%s, %d bytes, %d bytes) = %s, %v; want %s", hexed(h), len(ad), len(s), hexed(got), e, hexed(want))
			}
		}
	}
	for _, size := range sizes() {
		ad, s, h := drawn(1, size), drawn(2, size/2), drawn(int64(size), 16)
		for _, c := range [][2]string{{ad, s}, {s, ad}, {ad, ""}, {"", ad}} {
			if got, e := gcm.Hash(h, c[0], c[1]); got != hashed(h, c[0], c[1]) || e != api.OK {
				t.Errorf("Hash(%s, %d bytes, %d bytes) = %s, %v", hexed(h), len(c[0]), len(c[1]), hexed(got), e)
			}
		}
	}
}

// P9.2: published hashes; the hash of nothing is 0, whatever h is.
func TestPublishedHashes(t *testing.T) {
	const (
		ad    = "feedfacedeadbeeffeedfacedeadbeefabaddad2"
		short = "42831ec2217774244b7221b784d0d49ce3aa212f2c02a4e035c17e2329aca12e21d514b25466931c7d8f6a5aac84aa051ba30b396a0aac973d58e091473f5985"
		long  = "522dc1f099567d07f47f37a32a84427d643a8cdcbfe5c0c97598a2bd2555d1aa8cb08e48590dbb3da7b08b1056828838c5f61e6393ba7a0abcc9f662898015ad"
	)
	for _, c := range []struct{ h, ad, s, want string }{
		{"66e94bd4ef8a2c3b884cfa59ca342b2e", "", "", "00000000000000000000000000000000"},
		{"66e94bd4ef8a2c3b884cfa59ca342b2e", "", "0388dace60b6a392f328c2b971b2fe78", "f38cbb1ad69223dcc3457ae5b6b0f885"},
		{"b83b533708bf535d0aa6e52980d53b78", "", short, "7f1b32b81b820d02614f8895ac1d4eac"},
		{"b83b533708bf535d0aa6e52980d53b78", ad, short[:120], "698e57f70e6ecc7fd9463b7260a9ae5f"},
		{"dc95c078a2408989ad48a21492842087", "", "cea7403d4d606b6e074ec5d3baf39d18", "83de425c5edc5d498f382c441041ca92"},
		{"acbef20579b4b8ebce889bac8732dad7", "", long, "4db870d37cb75fcb46097c36230d1612"},
		{"acbef20579b4b8ebce889bac8732dad7", ad, long[:120], "8bd0c4d8aacd391e67cca447e8c38f65"},
	} {
		got, e := gcm.Hash(unhexed(t, c.h), unhexed(t, c.ad), unhexed(t, c.s))
		if hexed(got) != c.want || e != api.OK {
			t.Errorf("Hash(%s, %s, %s) = %s, %v; want %s", c.h, c.ad, c.s, hexed(got), e, c.want)
		}
	}
	for _, h := range blocks() {
		if got, e := gcm.Hash(h, "", ""); got != zeros(16) || e != api.OK {
			t.Errorf("Hash(%s) of nothing = %s, %v", hexed(h), hexed(got), e)
		}
	}
}

// P9.2: by a power of x the blocks stay what they were, moved: each stands where the chapter says. By x^0 the hash is the sum of all blocks.
func TestHashByOneIsTheSum(t *testing.T) {
	ad, s := drawn(1, 32), drawn(2, 48)
	want := zeros(16)
	for _, b := range []string{ad[:16], ad[16:], s[:16], s[16:32], s[32:], "\x00\x00\x00\x00\x00\x00\x01\x00\x00\x00\x00\x00\x00\x00\x01\x80"} {
		want = xored(want, b)
	}
	if got, e := gcm.Hash(power(0), ad, s); got != want || e != api.OK {
		t.Errorf("Hash by 1 = %s, %v; want %s", hexed(got), e, hexed(want))
	}
}

// P9.2: a text longer than any that is sealed is hashed too; its number of bits has more than 16 bits.
func TestHashOfALongText(t *testing.T) {
	for _, size := range []int{65535, 65536, 65537, 65553, 1 << 18} {
		long, h := drawn(3, size), power(0)
		want := zeros(16)
		padded := long + zeros(-size&15)
		for i := 0; i < len(padded); i += 16 {
			want = xored(want, padded[i:i+16])
		}
		bits := string(binary.BigEndian.AppendUint64(nil, 8*uint64(size)))
		if got, e := gcm.Hash(h, long, ""); got != xored(want, bits+zeros(8)) || e != api.OK {
			t.Errorf("Hash of %d bytes ahead = %s, %v", size, hexed(got), e)
		}
		if got, e := gcm.Hash(h, "", long); got != xored(want, zeros(8)+bits) || e != api.OK {
			t.Errorf("Hash of %d bytes = %s, %v", size, hexed(got), e)
		}
	}
}

// P9.2, rule 0.3: an h of fewer or more than 16 bytes is refused, whatever is to be hashed.
func TestHashRefuses(t *testing.T) {
	for _, h := range textsUnlike(16) {
		for _, s := range []string{"", drawn(1, 16), drawn(1, 17)} {
			if got, e := gcm.Hash(h, s, s); got != "" || e != api.ErrForm {
				t.Errorf("Hash by %d bytes = %s, %v; want %v", len(h), hexed(got), e, api.ErrForm)
			}
		}
	}
}

// P9.3, P9.4: the chapter's example, and the published ones of both lengths of keys with nonces of 12 bytes.
func TestPublishedSealed(t *testing.T) {
	const (
		key   = "feffe9928665731c6d6a8f9467308308"
		nonce = "cafebabefacedbaddecaf888"
		ad    = "feedfacedeadbeeffeedfacedeadbeefabaddad2"
		plain = "d9313225f88406e5a55909c5aff5269a86a7a9531534f7da2e4c303d8a318a721c3c0c95956809532fcf0e2449a6b525b16aedf5aa0de657ba637b391aafd255"
		short = "42831ec2217774244b7221b784d0d49ce3aa212f2c02a4e035c17e2329aca12e21d514b25466931c7d8f6a5aac84aa051ba30b396a0aac973d58e091473f5985"
		long  = "522dc1f099567d07f47f37a32a84427d643a8cdcbfe5c0c97598a2bd2555d1aa8cb08e48590dbb3da7b08b1056828838c5f61e6393ba7a0abcc9f662898015ad"
	)
	none := strings.Repeat("00", 12)
	for _, c := range []struct{ key, nonce, ad, plain, want string }{
		{strings.Repeat("00", 16), none, "", "", "58e2fccefa7e3061367f1d57a4e7455a"},
		{strings.Repeat("00", 16), none, "", strings.Repeat("00", 16), "0388dace60b6a392f328c2b971b2fe78ab6e47d42cec13bdf53a67b21257bddf"},
		{key, nonce, "", plain, short + "4d5c2af327cd64a62cf35abd2ba6fab4"},
		{key, nonce, ad, plain[:120], short[:120] + "5bc94fbc3221a5db94fae95ae7121a47"},
		{strings.Repeat("00", 32), none, "", "", "530f8afbc74536b9a963b4f1c4cb738b"},
		{strings.Repeat("00", 32), none, "", strings.Repeat("00", 16), "cea7403d4d606b6e074ec5d3baf39d18d0d1c8a799996bf0265b98b5d48ab919"},
		{key + key, nonce, "", plain, long + "b094dac5d93471bdec1a502270e3cc6c"},
		{key + key, nonce, ad, plain[:120], long[:120] + "76fc6ece0f4e1768cddf8853bb2d551b"},
		{ // IEEE 802.1AE's, of 54 bytes that are authenticated, and of a text that is sealed, by both lengths of keys
			"ad7a2bd03eac835a6f620fdcb506b345", "12153524c0895e81b2c28465",
			"d609b1f056637a0d46df998d88e5222ab2c2846512153524c0895e8108000f101112131415161718191a1b1c1d1e1f202122232425262728292a2b2c2d2e2f30313233340001", "",
			"f09478a9b09007d06f46e9b6a1da25dd",
		},
		{
			"e3c08a8f06c6e3ad95a70557b23f75483ce33021a9c72b7025666204c69c0b72", "12153524c0895e81b2c28465",
			"d609b1f056637a0d46df998d88e5222ab2c2846512153524c0895e8108000f101112131415161718191a1b1c1d1e1f202122232425262728292a2b2c2d2e2f30313233340001", "",
			"2f0bc5af409e06d609ea8b7d0fa5ea50",
		},
	} {
		key, nonce, ad, plain, want := unhexed(t, c.key), unhexed(t, c.nonce), unhexed(t, c.ad), unhexed(t, c.plain), unhexed(t, c.want)
		if got := mustSeal(t, key, nonce, ad, plain); got != want {
			t.Errorf("Seal(%s, %s, %s, %s) = %s; want %s", c.key, c.nonce, c.ad, c.plain, hexed(got), c.want)
		}
		if got, e := gcm.Open(key, nonce, ad, want); got != plain || e != api.OK {
			t.Errorf("Open(%s, %s, %s, %s) = %s, %v; want %s", c.key, c.nonce, c.ad, c.want, hexed(got), e, c.plain)
		}
	}
}

// P9.3 to P9.5: keys of both lengths, texts of all small lengths and about multiples of 16: sealed as by the library, and opened again.
func TestSealedIsTheLibrarys(t *testing.T) {
	for i, key := range keys() {
		for j, size := range sizes() {
			nonce := drawn(int64(i+j), 12)
			for _, c := range [][2]string{
				{"", drawn(int64(j), size)}, {drawn(int64(j), size), ""}, {drawn(1, size), drawn(2, 78-j)}, {drawn(3, 13), drawn(4, size)},
			} {
				ad, plain := c[0], c[1]
				got := mustSeal(t, key, nonce, ad, plain)
				if want := sealed(t, key, nonce, ad, plain); got != want {
					t.Fatalf("Seal(%s, %s, %s, %s) = %s; want %s", hexed(key), hexed(nonce), hexed(ad), hexed(plain), hexed(got), hexed(want))
				}
				if back, e := gcm.Open(key, nonce, ad, got); back != plain || e != api.OK {
					t.Fatalf("Open(%s, %s, %s, %s) = %s, %v; want %s", hexed(key), hexed(nonce), hexed(ad), hexed(got), hexed(back), e, hexed(plain))
				}
			}
		}
	}
}

// P9.3 to P9.5: the longest texts, nonces whose bytes are all ones among them, so that what is counted would run over into them.
func TestLongestTexts(t *testing.T) {
	for _, key := range []string{drawn(1, 16), drawn(1, 32)} {
		for _, nonce := range []string{zeros(12), strings.Repeat("\xff", 12), drawn(1, 12)} {
			for _, size := range []int{4096, 65519, 65520, 65521, 65535, 65536} {
				plain, ad := drawn(int64(size), size), drawn(2, 65553)
				got := mustSeal(t, key, nonce, ad, plain)
				if got != sealed(t, key, nonce, ad, plain) {
					t.Errorf("Seal of %d bytes is not the library's", size)
				}
				if back, e := gcm.Open(key, nonce, ad, got); back != plain || e != api.OK {
					t.Errorf("Open of %d bytes = %d bytes, %v", len(got), len(back), e)
				}
			}
		}
	}
}

// P9.3, rules 0.2 and 0.3: what Seal refuses, the key ahead of the nonce and the nonce ahead of the text, with nothing beside the error.
func TestSealRefuses(t *testing.T) {
	refused := func(key, nonce, plain string, want api.Errno) {
		t.Helper()
		for _, ad := range []string{"", drawn(1, 70000)} {
			if got, e := gcm.Seal(key, nonce, ad, plain); got != "" || e != want {
				t.Errorf("Seal of %d bytes by %d and %d = %d bytes, %v; want %v", len(plain), len(key), len(nonce), len(got), e, want)
			}
		}
	}
	long := drawn(1, mostPlain+1)
	for _, key := range textsUnlike(16, 32) {
		for _, nonce := range append(textsUnlike(12), drawn(1, 12)) {
			refused(key, nonce, "", api.ErrNumber)
			refused(key, nonce, long, api.ErrNumber)
		}
	}
	for _, size := range []int{16, 32} {
		key := drawn(1, size)
		for _, nonce := range textsUnlike(12) {
			refused(key, nonce, "", api.ErrForm)
			refused(key, nonce, "text", api.ErrForm)
			refused(key, nonce, long, api.ErrForm)
		}
		refused(key, drawn(1, 12), long, api.ErrLong)
		refused(key, drawn(1, 12), long+long, api.ErrLong)
		mustSeal(t, key, drawn(1, 12), "", long[:mostPlain])
	}
}

// P9.4, rules 0.2 and 0.3: what Open refuses, the key ahead of the nonce, the nonce ahead of the text's length, and its length ahead of its tag.
func TestOpenRefuses(t *testing.T) {
	long := drawn(1, mostSealed+1)
	for _, key := range textsUnlike(16, 32) {
		for _, nonce := range append(textsUnlike(12), drawn(1, 12)) {
			for _, text := range []string{"", long[:15], long[:16], long} {
				mustRefuse(t, key, nonce, "", text, api.ErrNumber)
			}
		}
	}
	for _, size := range []int{16, 32} {
		key := drawn(1, size)
		for _, nonce := range textsUnlike(12) {
			for _, text := range []string{"", long[:15], long[:16], long} {
				mustRefuse(t, key, nonce, "", text, api.ErrForm)
			}
		}
		nonce := drawn(1, 12)
		for n := range 16 {
			mustRefuse(t, key, nonce, "", long[:n], api.ErrShort)
		}
		mustRefuse(t, key, nonce, "ad", long[:16], api.ErrSeal)
		mustRefuse(t, key, nonce, "ad", long[:17], api.ErrSeal)
		mustRefuse(t, key, nonce, "ad", long[:mostSealed], api.ErrSeal)
		mustRefuse(t, key, nonce, "ad", long, api.ErrLong)
		mustRefuse(t, key, nonce, "ad", long+long, api.ErrLong)
	}
}

// P9.4: lengths are asked ahead of tags: what the library sealed of a text that is too long is refused as long, and of the longest one opened.
func TestOpenOfTheLongest(t *testing.T) {
	key, nonce := drawn(1, 16), drawn(2, 12)
	plain := drawn(3, mostPlain+1)
	mustRefuse(t, key, nonce, "", sealed(t, key, nonce, "", plain), api.ErrLong)
	if got, e := gcm.Open(key, nonce, "", sealed(t, key, nonce, "", plain[:mostPlain])); got != plain[:mostPlain] || e != api.OK {
		t.Errorf("Open of %d bytes = %d bytes, %v", mostSealed, len(got), e)
	}
}

// P9.4, P9.6: no bit can be changed of a sealed text, its tag, ad, the nonce or the key, and no byte taken off or put to one.
func TestChangesAreNotOpened(t *testing.T) {
	for _, keySize := range []int{16, 32} {
		for _, size := range []int{0, 1, 15, 16, 17, 40} {
			key, nonce, ad := drawn(1, keySize), drawn(2, 12), drawn(3, size/2+1)
			text := mustSeal(t, key, nonce, ad, drawn(4, size))
			for i := range 8 * len(text) {
				mustRefuse(t, key, nonce, ad, changed(text, i/8, 1<<(i%8)), api.ErrSeal)
			}
			for i := range 8 * len(ad) {
				mustRefuse(t, key, nonce, changed(ad, i/8, 1<<(i%8)), text, api.ErrSeal)
			}
			for i := range 8 * len(nonce) {
				mustRefuse(t, key, changed(nonce, i/8, 1<<(i%8)), ad, text, api.ErrSeal)
			}
			for i := range 8 * len(key) {
				mustRefuse(t, changed(key, i/8, 1<<(i%8)), nonce, ad, text, api.ErrSeal)
			}
			for _, other := range []string{"", ad[1:], ad[:len(ad)-1], ad + "\x00", "\x00" + ad, ad + ad} {
				mustRefuse(t, key, nonce, other, text, api.ErrSeal)
			}
			for _, other := range []string{text + "\x00", "\x00" + text, text[:size] + "\x00" + text[size:], text + text[size:]} {
				mustRefuse(t, key, nonce, ad, other, api.ErrSeal)
			}
			if size > 0 {
				mustRefuse(t, key, nonce, ad, text[1:], api.ErrSeal)
				mustRefuse(t, key, nonce, ad, text[:len(text)-1], api.ErrSeal)
				mustRefuse(t, key, nonce, ad, text[:size-1]+text[size:], api.ErrSeal)
			}
		}
	}
}

// P9.4: whole bytes of the tag may be wrong in any way, all of them too; two that are wrong alike do not make up for one another.
func TestWrongTags(t *testing.T) {
	key, nonce := drawn(1, 16), drawn(2, 12)
	text := mustSeal(t, key, nonce, "ad", "a text")
	c, tag := text[:6], text[6:]
	for i := range 16 {
		for by := 1; by < 256; by++ {
			mustRefuse(t, key, nonce, "ad", c+changed(tag, i, byte(by)), api.ErrSeal)
		}
		for j := range i {
			mustRefuse(t, key, nonce, "ad", c+changed(changed(tag, i, 0x55), j, 0x55), api.ErrSeal)
		}
	}
	for _, wrong := range []string{zeros(16), xored(tag, strings.Repeat("\xff", 16)), tag[8:] + tag[:8], tag[15:] + tag[:15]} {
		mustRefuse(t, key, nonce, "ad", c+wrong, api.ErrSeal)
	}
}

// P9.4: bytes that go from ad to the text, or that fill up a block, are seen.
func TestWhereADEndsIsSealed(t *testing.T) {
	key, nonce := drawn(1, 16), drawn(2, 12)
	for _, size := range []int{0, 1, 15, 16, 32} {
		ad := drawn(3, 16)
		text := mustSeal(t, key, nonce, ad, zeros(size))
		c, tag := text[:size], text[size:]
		mustRefuse(t, key, nonce, "", ad+c+tag, api.ErrSeal)
		if size > 0 {
			mustRefuse(t, key, nonce, ad+c, tag, api.ErrSeal)
		}
		mustRefuse(t, key, nonce, ad+zeros(16), text, api.ErrSeal)
		mustRefuse(t, key, nonce, ad[:15], text, api.ErrSeal)
	}
	filled := mustSeal(t, key, nonce, "ad"+zeros(14), "")
	mustRefuse(t, key, nonce, "ad", filled, api.ErrSeal)
}

// P9.6: whatever text has its right tag is opened, and what Open tells of it Seal makes it of again; texts that are opened to one are one.
func TestWhatOpensIsWhatSealMakes(t *testing.T) {
	seen := make(map[string]string)
	key, nonce, ad := drawn(1, 16), drawn(2, 12), drawn(3, 21)
	for i := range int64(300) {
		text := forged(t, key, nonce, ad, drawn(i, int(i)/5))
		plain, e := gcm.Open(key, nonce, ad, text)
		if e != api.OK || len(plain) != int(i)/5 {
			t.Fatalf("Open(%s) = %s, %v", hexed(text), hexed(plain), e)
		}
		if again := mustSeal(t, key, nonce, ad, plain); again != text {
			t.Errorf("Seal of what %s is opened to = %s", hexed(text), hexed(again))
		}
		if before, had := seen[plain]; had && before != text {
			t.Errorf("%s and %s are opened to one text", hexed(before), hexed(text))
		}
		seen[plain] = text
	}
}

// P9.6: one byte changed with the tag that is right for it is opened, to the text with that byte changed.
func TestRightTagsAreOpened(t *testing.T) {
	key, nonce, ad, plain := drawn(1, 32), drawn(2, 12), drawn(3, 5), drawn(4, 35)
	text := mustSeal(t, key, nonce, ad, plain)
	for i := range plain {
		other := forged(t, key, nonce, ad, changed(text[:35], i, 0x5a))
		if got, e := gcm.Open(key, nonce, ad, other); got != changed(plain, i, 0x5a) || e != api.OK {
			t.Errorf("Open with the byte %d changed and its right tag = %s, %v", i, hexed(got), e)
		}
	}
}

// Chapter 9's head: what is sealed is c, of the stream from 0, 0, 0, 2 on, and behind it the tag.
func TestSealedByTheChaptersWords(t *testing.T) {
	for i, key := range keys() {
		for _, size := range []int{0, 1, 16, 33, 600} {
			nonce, ad, plain := drawn(int64(i), 12), drawn(int64(size), size/3), drawn(int64(i+size), size)
			stream, e := aes.Stream(key, nonce+"\x00\x00\x00\x02", size)
			if e != api.OK {
				t.Fatal(e)
			}
			if got, want := mustSeal(t, key, nonce, ad, plain), forged(t, key, nonce, ad, xored(plain, stream)); got != want {
				t.Errorf("Seal(%s, %s, %s, %s) = %s; want %s", hexed(key), hexed(nonce), hexed(ad), hexed(plain), hexed(got), hexed(want))
			}
		}
	}
}

// Rule 0.1: no call panics, whatever it is given.
func TestAnyArguments(t *testing.T) {
	var texts []string
	for _, size := range []int{0, 1, 11, 12, 13, 15, 16, 17, 24, 31, 32, 33, mostPlain + 1, mostSealed + 1} {
		texts = append(texts, zeros(size), drawn(int64(size), size))
	}
	for _, a := range texts {
		for _, b := range texts {
			gcm.Times(a, b)
			for _, c := range []string{"", texts[12], texts[3]} {
				gcm.Hash(a, c, b[:min(len(b), 100)])
				gcm.Seal(a, b, c, c)
				gcm.Open(a, b, c, c)
				gcm.Seal(c, b, c, a[:min(len(a), 100)])
				gcm.Open(c, b, c, a[:min(len(a), 100)])
			}
		}
	}
}

// LANGUAGE.md's rule 8: nothing is kept from call to call, also where many call at once.
func TestManyAtOnce(t *testing.T) {
	var all sync.WaitGroup
	for i := range int64(8) {
		all.Go(func() {
			key, nonce := drawn(i, 16+16*int(i%2)), drawn(i, 12)
			for size := range 60 {
				ad, plain := drawn(i, 60-size), drawn(i, size)
				got, e := gcm.Seal(key, nonce, ad, plain)
				if want := sealed(t, key, nonce, ad, plain); got != want || e != api.OK {
					t.Errorf("Seal of %d bytes, among others, = %s, %v; want %s", size, hexed(got), e, hexed(want))
				}
				if back, e := gcm.Open(key, nonce, ad, got); back != plain || e != api.OK {
					t.Errorf("Open of %d bytes, among others, = %s, %v", size, hexed(back), e)
				}
			}
		})
	}
	all.Wait()
}

// FuzzTimes looks for products that are not those of the chapter's words.
func FuzzTimes(f *testing.F) {
	f.Add(zeros(16), zeros(16))
	f.Add(power(0), drawn(1, 16))
	f.Add(power(127), power(127))
	f.Add(drawn(1, 15), drawn(1, 17))
	f.Fuzz(func(t *testing.T, a, b string) {
		got, e := gcm.Times(a, b)
		if len(a) != 16 || len(b) != 16 {
			if got != "" || e != api.ErrForm {
				t.Fatalf("Times(%s, %s) = %s, %v", hexed(a), hexed(b), hexed(got), e)
			}
			return
		}
		if want := product(a, b); got != want || e != api.OK {
			t.Fatalf("Times(%s, %s) = %s, %v; want %s", hexed(a), hexed(b), hexed(got), e, hexed(want))
		}
	})
}

// FuzzSeal looks for sealed texts that are not the library's, or that are not opened again.
func FuzzSeal(f *testing.F) {
	f.Add(zeros(16), zeros(12), "", "")
	f.Add(drawn(1, 32), drawn(2, 12), drawn(3, 20), drawn(4, 60))
	f.Add(drawn(1, 24), drawn(2, 12), "", "")
	f.Add(drawn(1, 16), drawn(2, 13), "", "")
	f.Fuzz(func(t *testing.T, key, nonce, ad, plain string) {
		got, e := gcm.Seal(key, nonce, ad, plain)
		want, text := api.OK, ""
		switch {
		case len(key) != 16 && len(key) != 32:
			want = api.ErrNumber
		case len(nonce) != 12:
			want = api.ErrForm
		case len(plain) > mostPlain:
			want = api.ErrLong
		default:
			text = sealed(t, key, nonce, ad, plain)
		}
		if got != text || e != want {
			t.Fatalf("Seal(%s, %s, %s, %s) = %s, %v; want %s, %v", hexed(key), hexed(nonce), hexed(ad), hexed(plain), hexed(got), e, hexed(text), want)
		}
		if e != api.OK {
			return
		}
		if back, e := gcm.Open(key, nonce, ad, got); back != plain || e != api.OK {
			t.Fatalf("Open(%s, %s, %s, %s) = %s, %v; want %s", hexed(key), hexed(nonce), hexed(ad), hexed(got), hexed(back), e, hexed(plain))
		}
	})
}

// FuzzOpen looks for texts that are opened otherwise than by the library, as they are and with the tag that is right for them.
func FuzzOpen(f *testing.F) {
	f.Add(drawn(1, 16), drawn(2, 12), "", drawn(3, 16), false)
	f.Add(drawn(1, 32), drawn(2, 12), "ad", drawn(3, 40), true)
	f.Add(drawn(1, 16), drawn(2, 12), "", drawn(3, 15), false)
	f.Fuzz(func(t *testing.T, key, nonce, ad, text string, right bool) {
		fit := (len(key) == 16 || len(key) == 32) && len(nonce) == 12
		if fit && right {
			text = forged(t, key, nonce, ad, text)
		}
		got, e := gcm.Open(key, nonce, ad, text)
		if !fit || len(text) < 16 || len(text) > mostSealed {
			if got != "" || e == api.OK || e == api.ErrSeal {
				t.Fatalf("Open(%s, %s, %s, %s) = %s, %v", hexed(key), hexed(nonce), hexed(ad), hexed(text), hexed(got), e)
			}
			return
		}
		plain, err := library(t, key).Open(nil, []byte(nonce), []byte(text), []byte(ad))
		if err != nil && (got != "" || e != api.ErrSeal) || err == nil && (got != string(plain) || e != api.OK) {
			t.Fatalf("Open(%s, %s, %s, %s) = %s, %v; the library: %x, %v", hexed(key), hexed(nonce), hexed(ad), hexed(text), hexed(got), e, plain, err)
		}
		if e == api.OK && mustSeal(t, key, nonce, ad, got) != text {
			t.Fatalf("Seal of what %s is opened to is another text", hexed(text))
		}
	})
}

func BenchmarkSeal(b *testing.B) {
	key, nonce, plain := drawn(1, 16), drawn(2, 12), drawn(3, mostPlain)
	b.SetBytes(mostPlain)
	for b.Loop() {
		gcm.Seal(key, nonce, "", plain)
	}
}

func BenchmarkHash(b *testing.B) {
	h, text := drawn(1, 16), drawn(3, mostPlain)
	b.SetBytes(mostPlain)
	for b.Loop() {
		gcm.Hash(h, "", text)
	}
}

func BenchmarkTimes(b *testing.B) {
	x, y := drawn(1, 16), drawn(2, 16)
	for b.Loop() {
		gcm.Times(x, y)
	}
}
