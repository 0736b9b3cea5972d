package aes_test

import (
	libaes "crypto/aes"
	"crypto/cipher"
	"encoding/hex"
	"math"
	"math/big"
	"math/rand"
	"strings"
	"sync"
	"testing"

	"pendulum/aes"
	"pendulum/api"
)

// drawn is a text that is the same in every run.
func drawn(seed int64, size int) string {
	out := make([]byte, size)
	rand.New(rand.NewSource(seed)).Read(out)
	return string(out)
}

func unhexed(t testing.TB, digits string) string {
	t.Helper()
	out, err := hex.DecodeString(strings.ReplaceAll(digits, " ", ""))
	if err != nil {
		t.Fatal(err)
	}
	return string(out)
}

func hexed(s string) string {
	return hex.EncodeToString([]byte(s))
}

// library is the library's cipher of a key.
func library(t testing.TB, key string) cipher.Block {
	t.Helper()
	c, err := libaes.NewCipher([]byte(key))
	if err != nil {
		t.Fatal(err)
	}
	return c
}

// encrypted is a block by the library.
func encrypted(t testing.TB, key, block string) string {
	t.Helper()
	out := make([]byte, 16)
	library(t, key).Encrypt(out, []byte(block))
	return string(out)
}

// decrypted is a block turned back by the library.
func decrypted(t testing.TB, key, block string) string {
	t.Helper()
	out := make([]byte, 16)
	library(t, key).Decrypt(out, []byte(block))
	return string(out)
}

// streamed is n bytes by the library.
func streamed(t testing.TB, key, first string, n int) string {
	t.Helper()
	out := make([]byte, n)
	cipher.NewCTR(library(t, key), []byte(first)).XORKeyStream(out, out)
	return string(out)
}

// keys are keys of both lengths: plain ones, those of one bit, and drawn ones.
func keys() []string {
	var out []string
	for _, size := range []int{16, 32} {
		out = append(out, strings.Repeat("\x00", size), strings.Repeat("\xff", size), strings.Repeat("\x80", size))
		for bit := range 8 * size {
			key := make([]byte, size)
			key[bit/8] = 0x80 >> (bit % 8)
			out = append(out, string(key))
		}
		for seed := range int64(50) {
			out = append(out, drawn(seed, size))
		}
	}
	return out
}

// blocks are blocks: plain ones, those of one bit, and drawn ones.
func blocks() []string {
	out := []string{strings.Repeat("\x00", 16), strings.Repeat("\xff", 16), strings.Repeat("\x80", 16)}
	for bit := range 128 {
		block := make([]byte, 16)
		block[bit/8] = 0x80 >> (bit % 8)
		out = append(out, string(block))
	}
	for seed := range int64(50) {
		out = append(out, drawn(seed, 16))
	}
	return out
}

// noKeys are texts that are no keys: of no bytes, of 24, and of a few more or fewer than a key's.
func noKeys() []string {
	var out []string
	for _, size := range []int{0, 1, 8, 15, 17, 23, 24, 25, 31, 33, 48, 64, 128, 16 + 256, 32 + 256, 65536, 65536 + 16} {
		out = append(out, drawn(int64(size), size))
	}
	return out
}

// noBlocks are texts that are no blocks.
func noBlocks() []string {
	var out []string
	for _, size := range []int{0, 1, 4, 12, 15, 17, 24, 31, 32, 33, 64, 128, 256 + 16, 65536, 65536 + 16} {
		out = append(out, drawn(int64(size), size))
	}
	return out
}

// product is a product by the chapter's words: of polynomials as they are, and what is left of it by x^8 + x^4 + x^3 + x + 1.
func product(a, b byte) byte {
	whole := 0
	for i := range 8 {
		for j := range 8 {
			whole ^= int(a) >> i & 1 * (int(b) >> j & 1) << (i + j)
		}
	}
	for i := 15; i >= 8; i-- {
		if whole>>i&1 == 1 {
			whole ^= 0x11b << (i - 8)
		}
	}
	return byte(whole)
}

// becomes is what a byte becomes, bit by bit by the chapter's words.
func becomes(b byte) byte {
	inverse := byte(0)
	for c := range 256 {
		if product(b, byte(c)) == 1 {
			inverse = byte(c)
		}
	}
	out := 0
	for i := range 8 {
		bit := 0x63 >> i & 1
		for _, k := range []int{0, 4, 5, 6, 7} {
			bit ^= int(inverse) >> ((i + k) % 8) & 1
		}
		out |= bit << i
	}
	return byte(out)
}

// box is FIPS 197's table of what bytes become.
const box = "637c777bf26b6fc53001672bfed7ab76" +
	"ca82c97dfa5947f0add4a2af9ca472c0" +
	"b7fd9326363ff7cc34a5e5f171d83115" +
	"04c723c31896059a071280e2eb27b275" +
	"09832c1a1b6e5aa0523bd6b329e32f84" +
	"53d100ed20fcb15b6acbbe394a4c58cf" +
	"d0efaafb434d338545f9027f503c9fa8" +
	"51a3408f929d38f5bcb6da2110fff3d2" +
	"cd0c13ec5f974417c4a77e3d645d1973" +
	"60814fdc222a908846eeb814de5e0bdb" +
	"e0323a0a4906245cc2d3ac629195e479" +
	"e7c8376d8dd54ea96c56f4ea657aae08" +
	"ba78252e1ca6b4c6e8dd741f4bbd8b8a" +
	"703eb5664803f60e613557b986c11d9e" +
	"e1f8981169d98e949b1e87e9ce5528df" +
	"8ca1890dbfe6426841992d0fb054bb16"

// P8.1: all products are those of the chapter's words; a product with 0 is 0, one with 1 the other byte.
func TestTimesIsThePolynomials(t *testing.T) {
	for a := range 256 {
		for b := range 256 {
			a, b := byte(a), byte(b)
			if got, want := aes.Times(a, b), product(a, b); got != want {
				t.Fatalf("Times(%#x, %#x) = %#x; want %#x", a, b, got, want)
			}
		}
		b := byte(a)
		if aes.Times(b, 0) != 0 || aes.Times(0, b) != 0 || aes.Times(b, 1) != b || aes.Times(1, b) != b {
			t.Errorf("%#x times 0 and 1 = %#x, %#x, %#x, %#x", b, aes.Times(b, 0), aes.Times(0, b), aes.Times(b, 1), aes.Times(1, b))
		}
	}
}

// P8.1: products that FIPS 197 tells.
func TestPublishedProducts(t *testing.T) {
	for _, c := range []struct{ a, b, want byte }{
		{0x57, 0x83, 0xc1}, {0x57, 0x13, 0xfe}, {0x57, 0x02, 0xae}, {0x57, 0x04, 0x47}, {0x57, 0x08, 0x8e}, {0x57, 0x10, 0x07},
		{0x02, 0x80, 0x1b}, {0x80, 0x02, 0x1b}, {0x53, 0xca, 0x01}, {0xff, 0xff, 0x13}, {0x02, 0x8d, 0x01},
	} {
		if got := aes.Times(c.a, c.b); got != c.want {
			t.Errorf("Times(%#x, %#x) = %#x; want %#x", c.a, c.b, got, c.want)
		}
	}
}

// P8.1: each byte becomes what FIPS 197's table says, and what the chapter's words make of it, 0 without an inverse among them.
func TestSubIsThePublishedTable(t *testing.T) {
	for b := range 256 {
		got := aes.Sub(byte(b))
		if want := unhexed(t, box)[b]; got != want {
			t.Errorf("Sub(%#x) = %#x; the table says %#x", b, got, want)
		}
		if want := becomes(byte(b)); got != want {
			t.Errorf("Sub(%#x) = %#x; the chapter's words make %#x", b, got, want)
		}
	}
}

// P8.2: FIPS 197's round keys, of both lengths of keys.
func TestPublishedKeys(t *testing.T) {
	for _, c := range []struct{ key, want string }{
		{
			"2b7e151628aed2a6abf7158809cf4f3c",
			"2b7e1516 28aed2a6 abf71588 09cf4f3c" +
				"a0fafe17 88542cb1 23a33939 2a6c7605" +
				"f2c295f2 7a96b943 5935807a 7359f67f" +
				"3d80477d 4716fe3e 1e237e44 6d7a883b" +
				"ef44a541 a8525b7f b671253b db0bad00" +
				"d4d1c6f8 7c839d87 caf2b8bc 11f915bc" +
				"6d88a37a 110b3efd dbf98641 ca0093fd" +
				"4e54f70e 5f5fc9f3 84a64fb2 4ea6dc4f" +
				"ead27321 b58dbad2 312bf560 7f8d292f" +
				"ac7766f3 19fadc21 28d12941 575c006e" +
				"d014f9a8 c9ee2589 e13f0cc8 b6630ca6",
		},
		{
			"603deb1015ca71be2b73aef0857d77811f352c073b6108d72d9810a30914dff4",
			"603deb10 15ca71be 2b73aef0 857d7781" +
				"1f352c07 3b6108d7 2d9810a3 0914dff4" +
				"9ba35411 8e6925af a51a8b5f 2067fcde" +
				"a8b09c1a 93d194cd be49846e b75d5b9a" +
				"d59aecb8 5bf3c917 fee94248 de8ebe96" +
				"b5a9328a 2678a647 98312229 2f6c79b3" +
				"812c81ad dadf48ba 24360af2 fab8b464" +
				"98c5bfc9 bebd198e 268c3ba7 09e04214" +
				"68007bac b2df3316 96e939e4 6c518d80" +
				"c814e204 76a9fb8a 5025c02d 59c58239" +
				"de136967 6ccc5a71 fa256395 9674ee15" +
				"5886ca5d 2e2f31d7 7e0af1fa 27cf73c3" +
				"749c47ab 18501dda e2757e4f 7401905a" +
				"cafaaae3 e4d59b34 9adf6ace bd10190d" +
				"fe4890d1 e6188d0b 046df344 706c631e",
		},
	} {
		key := unhexed(t, c.key)
		got, e := aes.Keys(key)
		if e != api.OK || len(got) != len(key)/4+7 || strings.Join(got, "") != unhexed(t, c.want) {
			t.Errorf("Keys(%s) = %s, %v; want %s", c.key, hexed(strings.Join(got, " ")), e, c.want)
		}
	}
}

// expanded is a key's words by the chapter's words, four bytes each.
func expanded(key string) []string {
	var words []string
	size := len(key) / 4
	power := byte(1)
	for i := range 4 * (size + 7) {
		if i < size {
			words = append(words, key[4*i:4*i+4])
			continue
		}
		ahead := []byte(words[i-1])
		become := func() {
			for k, b := range ahead {
				ahead[k] = becomes(b)
			}
		}
		if i%size == 0 {
			ahead = []byte{ahead[1], ahead[2], ahead[3], ahead[0]}
			become()
			ahead[0] ^= power
			power = product(power, 2)
		} else if size == 8 && i%8 == 4 {
			become()
		}
		for k := range ahead {
			ahead[k] ^= words[i-size][k]
		}
		words = append(words, string(ahead))
	}
	return words
}

// P8.2: round keys of 16 bytes each, by the chapter's words; the first ones are the key.
func TestKeysByTheChaptersWords(t *testing.T) {
	for i, key := range keys() {
		if i%5 != 0 {
			continue
		}
		got, e := aes.Keys(key)
		if e != api.OK || len(got) != len(key)/4+7 || strings.Join(got, "") != strings.Join(expanded(key), "") {
			t.Errorf("Keys(%s) = %s, %v", hexed(key), hexed(strings.Join(got, " ")), e)
		}
		for k, round := range got {
			if len(round) != 16 {
				t.Errorf("Keys(%s): the round key %d has %d bytes", hexed(key), k, len(round))
			}
		}
		if !strings.HasPrefix(strings.Join(got, ""), key) {
			t.Errorf("Keys(%s) does not begin with the key", hexed(key))
		}
	}
}

// P8.2, rule 0.3: what is no key is refused, and no round keys stand beside the error.
func TestKeysRefuses(t *testing.T) {
	for _, key := range noKeys() {
		if got, e := aes.Keys(key); got != nil || e != api.ErrNumber {
			t.Errorf("Keys of %d bytes = %d round keys, %v; want %v", len(key), len(got), e, api.ErrNumber)
		}
	}
	for size := range 300 {
		want := api.ErrNumber
		if size == 16 || size == 32 {
			want = api.OK
		}
		if _, e := aes.Keys(drawn(1, size)); e != want {
			t.Errorf("Keys of %d bytes: %v; want %v", size, e, want)
		}
	}
}

// Rule 0.5: round keys that were told share nothing with those told later.
func TestKeysAreNew(t *testing.T) {
	key := drawn(1, 32)
	first, _ := aes.Keys(key)
	want := strings.Join(first, "")
	for i := range first {
		first[i] = ""
	}
	if again, _ := aes.Keys(key); strings.Join(again, "") != want {
		t.Errorf("Keys, told again, = %s; want %s", hexed(strings.Join(again, "")), hexed(want))
	}
}

// P8.3: the chapter's example, and those of FIPS 197 and SP 800-38A.
func TestPublishedBlocks(t *testing.T) {
	const (
		row     = "000102030405060708090a0b0c0d0e0f"
		longRow = row + "101112131415161718191a1b1c1d1e1f"
		short   = "2b7e151628aed2a6abf7158809cf4f3c"
		long    = "603deb1015ca71be2b73aef0857d77811f352c073b6108d72d9810a30914dff4"
	)
	for _, c := range []struct{ key, block, want string }{
		{row, "00112233445566778899aabbccddeeff", "69c4e0d86a7b0430d8cdb78070b4c55a"},
		{longRow, "00112233445566778899aabbccddeeff", "8ea2b7ca516745bfeafc49904b496089"},
		{short, "3243f6a8885a308d313198a2e0370734", "3925841d02dc09fbdc118597196a0b32"},
		{short, "6bc1bee22e409f96e93d7e117393172a", "3ad77bb40d7a3660a89ecaf32466ef97"},
		{short, "ae2d8a571e03ac9c9eb76fac45af8e51", "f5d3d58503b9699de785895a96fdbaaf"},
		{short, "30c81c46a35ce411e5fbc1191a0a52ef", "43b1cd7f598ece23881b00e3ed030688"},
		{short, "f69f2445df4f9b17ad2b417be66c3710", "7b0c785e27e8ad3f8223207104725dd4"},
		{long, "6bc1bee22e409f96e93d7e117393172a", "f3eed1bdb5d2a03c064b5a7e3db181f8"},
		{long, "ae2d8a571e03ac9c9eb76fac45af8e51", "591ccb10d410ed26dc5ba74a31362870"},
		{long, "30c81c46a35ce411e5fbc1191a0a52ef", "b6ed21b99ca6f4f9f153e7b1beafed1d"},
		{long, "f69f2445df4f9b17ad2b417be66c3710", "23304b7a39f9f3ff067d8d8f9e24ecc7"},
		{strings.Repeat("00", 16), strings.Repeat("00", 16), "66e94bd4ef8a2c3b884cfa59ca342b2e"},
		{strings.Repeat("00", 32), strings.Repeat("00", 16), "dc95c078a2408989ad48a21492842087"},
	} {
		key, block, want := unhexed(t, c.key), unhexed(t, c.block), unhexed(t, c.want)
		if got, e := aes.Encrypt(key, block); got != want || e != api.OK {
			t.Errorf("Encrypt(%s, %s) = %s, %v; want %s", c.key, c.block, hexed(got), e, c.want)
		}
		if got, e := aes.Decrypt(key, want); got != block || e != api.OK {
			t.Errorf("Decrypt(%s, %s) = %s, %v; want %s", c.key, c.want, hexed(got), e, c.block)
		}
	}
}

// P8.3: keys and blocks of one bit, plain and drawn ones are turned as by the library, there and back.
func TestBlocksAreTheLibrarys(t *testing.T) {
	for i, key := range keys() {
		for j, block := range blocks() {
			if i%7 != 0 && j%7 != 0 {
				continue
			}
			if got, e := aes.Encrypt(key, block); got != encrypted(t, key, block) || e != api.OK {
				t.Fatalf("Encrypt(%s, %s) = %s, %v; want %s", hexed(key), hexed(block), hexed(got), e, hexed(encrypted(t, key, block)))
			}
			if got, e := aes.Decrypt(key, block); got != decrypted(t, key, block) || e != api.OK {
				t.Fatalf("Decrypt(%s, %s) = %s, %v; want %s", hexed(key), hexed(block), hexed(got), e, hexed(decrypted(t, key, block)))
			}
		}
	}
}

// P8.3, rules 0.2 and 0.3: what is refused, the key ahead of the block, with nothing beside the error.
func TestBlocksAreRefused(t *testing.T) {
	turns := []func(key, block string) (string, api.Errno){aes.Encrypt, aes.Decrypt}
	check := func(key, block string, want api.Errno) {
		t.Helper()
		for i, turn := range turns {
			if got, e := turn(key, block); e != want || got != "" {
				t.Errorf("turn %d of %d bytes by %d = %s, %v; want %v", i, len(block), len(key), hexed(got), e, want)
			}
		}
	}
	for _, key := range noKeys() {
		check(key, drawn(1, 16), api.ErrNumber)
		for _, block := range noBlocks() {
			check(key, block, api.ErrNumber)
		}
	}
	for _, block := range noBlocks() {
		check(drawn(1, 16), block, api.ErrForm)
		check(drawn(1, 32), block, api.ErrForm)
	}
}

// P8.4: SP 800-38A's streams.
func TestPublishedStreams(t *testing.T) {
	plain := unhexed(t, "6bc1bee22e409f96e93d7e117393172aae2d8a571e03ac9c9eb76fac45af8e51"+
		"30c81c46a35ce411e5fbc1191a0a52eff69f2445df4f9b17ad2b417be66c3710")
	first := unhexed(t, "f0f1f2f3f4f5f6f7f8f9fafbfcfdfeff")
	for _, c := range []struct{ key, want string }{
		{
			"2b7e151628aed2a6abf7158809cf4f3c",
			"874d6191b620e3261bef6864990db6ce9806f66b7970fdff8617187bb9fffdff" +
				"5ae4df3edbd5d35e5b4f09020db03eab1e031dda2fbe03d1792170a0f3009cee",
		},
		{
			"603deb1015ca71be2b73aef0857d77811f352c073b6108d72d9810a30914dff4",
			"601ec313775789a5b7a7f504bbf3d228f443e3ca4d62b59aca84e990cacaf5c5" +
				"2b0930daa23de94ce87017ba2d84988ddfc9c58db67aada613c2dd08457941a6",
		},
	} {
		got, e := aes.Stream(unhexed(t, c.key), first, len(plain))
		if e != api.OK || len(got) != len(plain) {
			t.Fatalf("Stream(%s) = %d bytes, %v", c.key, len(got), e)
		}
		sealed := make([]byte, len(plain))
		for i := range sealed {
			sealed[i] = plain[i] ^ got[i]
		}
		if string(sealed) != unhexed(t, c.want) {
			t.Errorf("the text by the stream of %s = %x; want %s", c.key, sealed, c.want)
		}
	}
}

// P8.4: as many bytes as are asked for, whether whole blocks or not, as by the library.
func TestStreamOfAllLengths(t *testing.T) {
	ns := []int{255, 256, 257, 1000, 4095, 4096, 4097, 65519, 65520, 65521, 65535, 65536}
	for n := range 70 {
		ns = append(ns, n)
	}
	for _, key := range []string{drawn(1, 16), drawn(2, 32)} {
		for _, n := range ns {
			first := drawn(int64(n), 16)
			got, e := aes.Stream(key, first, n)
			if got != streamed(t, key, first, n) || e != api.OK {
				t.Errorf("Stream(%s, %s, %d) = %d bytes, %v", hexed(key), hexed(first), n, len(got), e)
			}
		}
	}
}

// P8.4: blocks whose number carries from byte to byte, and goes round modulo 2^128.
func TestStreamCarries(t *testing.T) {
	round := new(big.Int).Lsh(big.NewInt(1), 128)
	for _, key := range []string{drawn(1, 16), drawn(2, 32)} {
		for ones := range 129 {
			for _, back := range []int64{0, 1, 2, 3} {
				number := new(big.Int).Lsh(big.NewInt(1), uint(ones))
				number.Sub(number, big.NewInt(1+back)).Mod(number, round)
				first := string(number.FillBytes(make([]byte, 16)))
				got, e := aes.Stream(key, first, 80)
				if got != streamed(t, key, first, 80) || e != api.OK {
					t.Errorf("Stream(%s, %s, 80) = %s, %v", hexed(key), hexed(first), hexed(got), e)
				}
				want := ""
				for range 5 {
					want += encrypted(t, key, string(number.FillBytes(make([]byte, 16))))
					number.Add(number, big.NewInt(1)).Mod(number, round)
				}
				if got != want {
					t.Errorf("Stream(%s, %s, 80) = %s; want %s", hexed(key), hexed(first), hexed(got), hexed(want))
				}
			}
		}
	}
}

// P8.4: behind the highest number stands 0, and what is carried in the midst of many blocks is carried.
func TestStreamGoesRound(t *testing.T) {
	key := drawn(3, 32)
	got, e := aes.Stream(key, strings.Repeat("\xff", 16), 48)
	highest, _ := aes.Encrypt(key, strings.Repeat("\xff", 16))
	none, _ := aes.Encrypt(key, strings.Repeat("\x00", 16))
	one, _ := aes.Encrypt(key, strings.Repeat("\x00", 15)+"\x01")
	if got != highest+none+one || e != api.OK {
		t.Errorf("Stream from the highest number = %s, %v; want %s", hexed(got), e, hexed(highest+none+one))
	}
	first := strings.Repeat("\xff", 14) + "\xf0\x0f"
	if got, e := aes.Stream(key, first, 65536); got != streamed(t, key, first, 65536) || e != api.OK {
		t.Errorf("Stream of the most bytes: %d bytes, %v", len(got), e)
	}
}

// P8.4, rules 0.2 and 0.3: what is refused, numbers ahead of the block, with nothing beside the error.
func TestStreamRefuses(t *testing.T) {
	key, first := drawn(1, 16), drawn(2, 16)
	check := func(key, first string, n int, want api.Errno) {
		t.Helper()
		if got, e := aes.Stream(key, first, n); e != want || got != "" {
			t.Errorf("Stream(%d bytes, %d bytes, %d) = %d bytes, %v; want %v", len(key), len(first), n, len(got), e, want)
		}
	}
	for _, n := range []int{-1, -2, -16, -65536, math.MinInt32, math.MinInt, 65537, 65552, 1 << 17, math.MaxInt32, 1 << 32, 1<<32 + 16, math.MaxInt - 15, math.MaxInt} {
		check(key, first, n, api.ErrNumber)
		for _, other := range noBlocks() {
			check(key, other, n, api.ErrNumber)
		}
		check(drawn(1, 24), first, n, api.ErrNumber)
		check("", "", n, api.ErrNumber)
	}
	for _, other := range noKeys() {
		check(other, first, 0, api.ErrNumber)
		check(other, first, 16, api.ErrNumber)
		check(other, "", 16, api.ErrNumber)
		check(other, first+"\x00", 65536, api.ErrNumber)
	}
	for _, other := range noBlocks() {
		check(key, other, 0, api.ErrForm)
		check(drawn(1, 32), other, 16, api.ErrForm)
		check(key, other, 65536, api.ErrForm)
	}
	check(key, first, 0, api.OK)
}

// P8.4: fewer bytes are the first of more.
func TestFewerBytesAreTheFirst(t *testing.T) {
	key, first := drawn(1, 32), drawn(2, 16)
	most, e := aes.Stream(key, first, 65536)
	if e != api.OK {
		t.Fatal(e)
	}
	for n := 0; n <= 65536; n += 1 + n/3 {
		if got, e := aes.Stream(key, first, n); got != most[:n] || e != api.OK {
			t.Errorf("Stream of %d bytes = %d bytes, %v", n, len(got), e)
		}
	}
}

// P8.5: each of both undoes the other.
func TestThereAndBack(t *testing.T) {
	for seed := range int64(400) {
		for _, size := range []int{16, 32} {
			key, block := drawn(seed, size), drawn(seed+1000, 16)
			there, e := aes.Encrypt(key, block)
			if e != api.OK || there == block {
				t.Fatalf("Encrypt(%s, %s) = %s, %v", hexed(key), hexed(block), hexed(there), e)
			}
			if back, e := aes.Decrypt(key, there); back != block || e != api.OK {
				t.Errorf("Decrypt of Encrypt(%s, %s) = %s, %v", hexed(key), hexed(block), hexed(back), e)
			}
			before, e := aes.Decrypt(key, block)
			if e != api.OK {
				t.Fatal(e)
			}
			if again, e := aes.Encrypt(key, before); again != block || e != api.OK {
				t.Errorf("Encrypt of Decrypt(%s, %s) = %s, %v", hexed(key), hexed(block), hexed(again), e)
			}
		}
	}
}

// P8.6: the laws of a field, at all bytes.
func TestBytesAreAField(t *testing.T) {
	var times [256][256]byte
	for a := range 256 {
		for b := range 256 {
			times[a][b] = aes.Times(byte(a), byte(b))
		}
	}
	for a := range 256 {
		inverses := 0
		for b := range 256 {
			ab := times[a][b]
			if ab == 1 {
				inverses++
			}
			if ab != times[b][a] {
				t.Fatalf("%#x and %#x are not to be exchanged", a, b)
			}
			if a != 0 && b != 0 && ab == 0 {
				t.Fatalf("%#x times %#x is 0", a, b)
			}
			for c := range 256 {
				if times[ab][c] != times[a][times[b][c]] {
					t.Fatalf("%#x, %#x, %#x: the order of products makes a difference", a, b, c)
				}
				if times[a][b^c] != ab^times[a][c] {
					t.Fatalf("%#x times the sum of %#x and %#x is not the sum of products", a, b, c)
				}
			}
		}
		if times[a][1] != byte(a) {
			t.Errorf("%#x times 1 = %#x", a, times[a][1])
		}
		if want := min(a, 1); inverses != want {
			t.Errorf("%#x has %d inverses; want %d", a, inverses, want)
		}
	}
}

// P8.6: no two bytes become one, and none stays as it is or becomes its contrary.
func TestSubIsAPermutation(t *testing.T) {
	from := map[byte]int{}
	for b := range 256 {
		to := aes.Sub(byte(b))
		if other, ok := from[to]; ok {
			t.Errorf("%#x and %#x both become %#x", other, b, to)
		}
		from[to] = b
		if to == byte(b) || to == ^byte(b) {
			t.Errorf("%#x becomes %#x", b, to)
		}
	}
	if len(from) != 256 {
		t.Errorf("bytes become %d bytes", len(from))
	}
}

// Rules 0.1 and 0.5: calls side by side answer as they do one after the other, and change nothing that they are given.
func TestCallsSideBySide(t *testing.T) {
	key, block := drawn(1, 32), drawn(2, 16)
	want, _ := aes.Stream(key, block, 5000)
	turned, _ := aes.Encrypt(key, block)
	var all sync.WaitGroup
	for range 16 {
		all.Go(func() {
			if got, e := aes.Stream(key, block, 5000); got != want || e != api.OK {
				t.Errorf("Stream side by side: %d bytes, %v", len(got), e)
			}
			if got, e := aes.Encrypt(key, block); got != turned || e != api.OK {
				t.Errorf("Encrypt side by side: %s, %v", hexed(got), e)
			}
		})
	}
	all.Wait()
	if key != drawn(1, 32) || block != drawn(2, 16) {
		t.Error("a key or a block was changed")
	}
}

// FuzzTurn holds Encrypt, Decrypt and Keys against the library, at any texts.
func FuzzTurn(f *testing.F) {
	f.Add(drawn(1, 16), drawn(2, 16))
	f.Add(drawn(1, 32), drawn(2, 16))
	f.Add(drawn(1, 24), drawn(2, 16))
	f.Add(drawn(1, 16), drawn(2, 15))
	f.Add("", "")
	f.Fuzz(func(t *testing.T, key, block string) {
		want, there, back := api.OK, "", ""
		switch {
		case len(key) != 16 && len(key) != 32:
			want = api.ErrNumber
		case len(block) != 16:
			want = api.ErrForm
		default:
			there, back = encrypted(t, key, block), decrypted(t, key, block)
		}
		if got, e := aes.Encrypt(key, block); got != there || e != want {
			t.Fatalf("Encrypt(%x, %x) = %x, %v", key, block, got, e)
		}
		if got, e := aes.Decrypt(key, block); got != back || e != want {
			t.Fatalf("Decrypt(%x, %x) = %x, %v", key, block, got, e)
		}
		if got, e := aes.Keys(key); (e == api.ErrNumber) != (want == api.ErrNumber) || (e == api.OK && len(got) != len(key)/4+7) {
			t.Fatalf("Keys(%x) = %x, %v", key, got, e)
		}
	})
}

// FuzzStream holds Stream against the library, at any texts and numbers.
func FuzzStream(f *testing.F) {
	f.Add(drawn(1, 16), drawn(2, 16), 33)
	f.Add(drawn(1, 32), strings.Repeat("\xff", 16), 65536)
	f.Add(drawn(1, 32), drawn(2, 16), 65537)
	f.Add("", "", -1)
	f.Fuzz(func(t *testing.T, key, first string, n int) {
		want, bytes := api.OK, ""
		switch {
		case len(key) != 16 && len(key) != 32, n < 0, n > 65536:
			want = api.ErrNumber
		case len(first) != 16:
			want = api.ErrForm
		default:
			bytes = streamed(t, key, first, n)
		}
		if got, e := aes.Stream(key, first, n); got != bytes || e != want {
			t.Fatalf("Stream(%x, %x, %d) = %x, %v", key, first, n, got, e)
		}
	})
}

func BenchmarkEncrypt(b *testing.B) {
	key, block := drawn(1, 32), drawn(2, 16)
	for range b.N {
		aes.Encrypt(key, block)
	}
}

func BenchmarkDecrypt(b *testing.B) {
	key, block := drawn(1, 32), drawn(2, 16)
	for range b.N {
		aes.Decrypt(key, block)
	}
}

func BenchmarkStreamOfTheMost(b *testing.B) {
	key, first := drawn(1, 32), drawn(2, 16)
	b.SetBytes(65536)
	for range b.N {
		aes.Stream(key, first, 65536)
	}
}
