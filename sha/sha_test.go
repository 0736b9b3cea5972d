package sha_test

import (
	"crypto/hmac"
	"crypto/sha256"
	"encoding"
	"encoding/binary"
	"encoding/hex"
	"hash"
	"math"
	"math/big"
	"math/rand"
	"strings"
	"testing"
	"unsafe"

	"pendulum/api"
	"pendulum/sha"
)

// magic is what the library's own states begin with.
const magic = "sha\x03"

// sizes are lengths of texts ahead of, at and behind the places where a digest's end gets a block more, and where blocks end.
func sizes() []int {
	return []int{0, 1, 2, 3, 8, 54, 55, 56, 57, 62, 63, 64, 65, 66, 118, 119, 120, 121, 127, 128, 129, 183, 184, 191, 192, 193, 1000, 4096, 65537}
}

// drawn is a text that is the same in every run.
func drawn(seed int64, size int) string {
	out := make([]byte, size)
	rand.New(rand.NewSource(seed)).Read(out)
	return string(out)
}

func unhexed(t testing.TB, digits string) string {
	t.Helper()
	out, err := hex.DecodeString(strings.ReplaceAll(digits, " ", ""))
	if err != nil {
		t.Fatal(err)
	}
	return string(out)
}

func hexed(s string) string {
	return hex.EncodeToString([]byte(s))
}

// digest is a text's digest by the library, which the tests hold the program's against.
func digest(s string) string {
	out := sha256.Sum256([]byte(s))
	return string(out[:])
}

// mac is a text's digest by a key, by the library.
func mac(key, s string) string {
	m := hmac.New(sha256.New, []byte(key))
	m.Write([]byte(s))
	return string(m.Sum(nil))
}

// loaded is the library's state that is as a fit hash.
func loaded(t testing.TB, h api.Hash) hash.Hash {
	t.Helper()
	state := []byte(magic)
	for _, w := range h.H {
		state = binary.BigEndian.AppendUint32(state, w)
	}
	state = append(state, h.Left...)
	state = append(state, make([]byte, 64-len(h.Left))...)
	state = binary.BigEndian.AppendUint64(state, h.N)
	out := sha256.New()
	if err := out.(encoding.BinaryUnmarshaler).UnmarshalBinary(state); err != nil {
		t.Fatal(err)
	}
	return out
}

// told is the hash that is as the library's state.
func told(t testing.TB, state hash.Hash) api.Hash {
	t.Helper()
	b, err := state.(encoding.BinaryMarshaler).MarshalBinary()
	if err != nil {
		t.Fatal(err)
	}
	var h api.Hash
	b = b[len(magic):]
	for i := range h.H {
		h.H[i] = binary.BigEndian.Uint32(b[4*i:])
	}
	h.N = binary.BigEndian.Uint64(b[32+64:])
	h.Left = string(b[32 : 32+h.N%64])
	return h
}

// written is a hash with a piece more by the library.
func written(t testing.TB, h api.Hash, s string) api.Hash {
	t.Helper()
	state := loaded(t, h)
	state.Write([]byte(s))
	return told(t, state)
}

// summed is a hash's digest by the library.
func summed(t testing.TB, h api.Hash) string {
	t.Helper()
	return string(loaded(t, h).Sum(nil))
}

// words are eight of a text of 32 bytes.
func words(s string) [8]uint32 {
	var out [8]uint32
	for i := range out {
		out[i] = binary.BigEndian.Uint32([]byte(s[4*i:]))
	}
	return out
}

// hashes are fit ones: Left of all lengths, numbers small and near 2^61 and 2^64, where bits and bytes begin anew.
func hashes() []api.Hash {
	var out []api.Hash
	for i := range uint64(64) {
		for j, base := range []uint64{0, 64, 1 << 32, 1<<61 - 64, 1 << 61, 1 << 62, 1<<63 - 64, 1 << 63, math.MaxUint64 - 63} {
			seed := int64(100*i) + int64(j)
			out = append(out, api.Hash{H: words(drawn(seed, 32)), Left: drawn(seed+7, int(i)), N: base + i})
		}
	}
	return out
}

// P6.1: what a block makes of eight words is what it makes of the library's.
func TestBlockIsTheLibrarys(t *testing.T) {
	starts := [][8]uint32{{}, sha.New().H, words(strings.Repeat("\xff", 32))}
	texts := []string{strings.Repeat("\x00", 64), strings.Repeat("\xff", 64), strings.Repeat("\x80\x00\x00\x01", 16)}
	for i := range int64(200) {
		starts = append(starts, words(drawn(i, 32)))
		texts = append(texts, drawn(1000+i, 64))
	}
	for i, start := range starts {
		for _, s := range []string{texts[i], texts[0], texts[1], texts[2]} {
			got, e := sha.Block(start, s)
			want := written(t, api.Hash{H: start}, s).H
			if e != api.OK || got != want {
				t.Fatalf("Block(%x, %x) = %x, %v; want %x", start, s, got, e, want)
			}
		}
	}
}

// P6.1: each bit of a block and of the eight words is heeded.
func TestBlockHeedsEveryBit(t *testing.T) {
	start, text := words(drawn(1, 32)), drawn(2, 64)
	plain, _ := sha.Block(start, text)
	for bit := range 8 * 64 {
		other := []byte(text)
		other[bit/8] ^= 1 << (bit % 8)
		got, e := sha.Block(start, string(other))
		if want := written(t, api.Hash{H: start}, string(other)).H; e != api.OK || got != want || got == plain {
			t.Errorf("bit %d of the block: %x, %v; want %x", bit, got, e, want)
		}
	}
	for bit := range 8 * 32 {
		other := start
		other[bit/32] ^= 1 << (bit % 32)
		got, e := sha.Block(other, text)
		if want := written(t, api.Hash{H: other}, text).H; e != api.OK || got != want || got == plain {
			t.Errorf("bit %d of the words: %x, %v; want %x", bit, got, e, want)
		}
	}
}

// P6.1: the one block of "abc" and its end makes the published digest of the beginning.
func TestBlockOfAPublishedText(t *testing.T) {
	block := "abc\x80" + strings.Repeat("\x00", 64-4-1) + "\x18"
	got, e := sha.Block(sha.New().H, block)
	want := [8]uint32{0xba7816bf, 0x8f01cfea, 0x414140de, 0x5dae2223, 0xb00361a3, 0x96177a9c, 0xb410ff61, 0xf20015ad}
	if e != api.OK || got != want {
		t.Errorf("Block = %x, %v; want %x", got, e, want)
	}
}

// P6.1, rule 0.3: a text that has not 64 bytes is none, and the words beside the error are 0.
func TestBlockRefusesOtherLengths(t *testing.T) {
	for size := range 300 {
		got, e := sha.Block(sha.New().H, drawn(int64(size), size))
		switch {
		case size == 64 && (e != api.OK || got == [8]uint32{}):
			t.Errorf("Block of 64 bytes: %x, %v", got, e)
		case size != 64 && (e != api.ErrForm || got != [8]uint32{}):
			t.Errorf("Block of %d bytes: %x, %v; want 0, %v", size, got, e, api.ErrForm)
		}
	}
	if got, e := sha.Block(sha.New().H, drawn(1, 1<<20)); e != api.ErrForm || got != [8]uint32{} {
		t.Errorf("Block of many blocks: %x, %v", got, e)
	}
}

// P6.2: published digests, the chapter's example ahead.
func TestOfPublishedTexts(t *testing.T) {
	for _, c := range []struct{ text, want string }{
		{"abc", "ba7816bf 8f01cfea 414140de 5dae2223 b00361a3 96177a9c b410ff61 f20015ad"},
		{"", "e3b0c442 98fc1c14 9afbf4c8 996fb924 27ae41e4 649b934c a495991b 7852b855"},
		{"abcdbcdecdefdefgefghfghighijhijkijkljklmklmnlmnomnopnopq", "248d6a61 d20638b8 e5c02693 0c3e6039 a33ce459 64ff2167 f6ecedd4 19db06c1"},
		{"abcdefghbcdefghicdefghijdefghijkefghijklfghijklmghijklmnhijklmnoijklmnopjklmnopqklmnopqrlmnopqrsmnopqrstnopqrstu", "cf5b16a7 78af8380 036ce59e 7b049237 0b249b11 e8f07a51 afac4503 7afee9d1"},
		{strings.Repeat("a", 1000000), "cdc76e5c 9914fb92 81a1c7e2 84d73e67 f1809a48 a497200e 046d39cc c7112cd0"},
		{"\xbd", "68325720 aabd7c82 f30f554b 313d0570 c95accbb 7dc4b5aa e11204c0 8ffe732b"},
		{"\xc9\x8c\x8e\x55", "7abc22c0 ae5af26c e93dbb94 433a0e0b 2e119d01 4f8e7f65 bd56c61c cccd9504"},
		{strings.Repeat("\x00", 55), "02779466 cdec1638 11d07881 5c633f21 90141308 1449002f 24aa3e80 f0b88ef7"},
		{strings.Repeat("\x00", 56), "d4817aa5 497628e7 c77e6b60 6107042b bba31308 88c5f47a 375e6179 be789fbb"},
		{strings.Repeat("\x00", 57), "65a16cb7 861335d5 ace3c607 18b5052e 44660726 da4cd13b b745381b 235a1785"},
		{strings.Repeat("\x00", 64), "f5a5fd42 d16a2030 2798ef6e d309979b 43003d23 20d9f0e8 ea9831a9 2759fb4b"},
	} {
		if got := sha.Of(c.text); got != unhexed(t, c.want) {
			t.Errorf("Of(%.80q) = %s; want %s", c.text, hexed(got), c.want)
		}
	}
}

// P6.2: texts of all lengths up to some blocks, of greater ones, and of one byte only.
func TestOfIsTheLibrarys(t *testing.T) {
	check := func(s string) {
		t.Helper()
		if got := sha.Of(s); got != digest(s) {
			t.Errorf("Of(%d bytes) = %s; want %s", len(s), hexed(got), hexed(digest(s)))
		}
	}
	for size := range 400 {
		check(drawn(int64(size), size))
		check(strings.Repeat("\x00", size))
		check(strings.Repeat("\x80", size))
		check(strings.Repeat("\xff", size))
	}
	for _, size := range append(sizes(), 1<<20-1, 1<<20, 1<<20+1) {
		check(drawn(int64(-size), size))
	}
	for b := range 256 {
		check(string([]byte{byte(b)}))
	}
	check("näher an der Zeit")
}

// P6.2: how many bits a text has is told by more than one byte, the highest first.
func TestOfTextsWhoseBitsNeedMoreBytes(t *testing.T) {
	for _, size := range []int{31, 32, 33, 8191, 8192, 8193, 1<<21 - 1, 1 << 21, 1<<21 + 1} {
		s := strings.Repeat("t", size)
		if got := sha.Of(s); got != digest(s) {
			t.Errorf("Of(%d bytes) = %s; want %s", size, hexed(got), hexed(digest(s)))
		}
	}
}

// P6.3: the beginning is what stands behind the point of the first primes' square roots.
func TestNewIsOfSquareRoots(t *testing.T) {
	var want [8]uint32
	for i, p := range []int64{2, 3, 5, 7, 11, 13, 17, 19} {
		root := new(big.Int).Sqrt(new(big.Int).Lsh(big.NewInt(p), 64))
		want[i] = uint32(root.Uint64())
	}
	if got := (sha.New()); got != (api.Hash{H: want}) {
		t.Errorf("New() = %x; want H %x, nothing left, and 0", got, want)
	}
	if first, last := sha.New().H[0], sha.New().H[7]; first != 0x6a09e667 || last != 0x5be0cd19 {
		t.Errorf("New() begins with %x and ends with %x", first, last)
	}
	if !sha.Fit(sha.New()) {
		t.Error("New() is not fit")
	}
}

// P6.3: fit is a hash that has as many bytes left as its number says, and less than 64.
func TestFit(t *testing.T) {
	for _, c := range []struct {
		left int
		n    uint64
		want bool
	}{
		{0, 0, true}, {0, 64, true}, {0, 128, true}, {0, 1 << 63, true}, {0, math.MaxUint64 - 63, true},
		{0, 1, false}, {0, 63, false}, {0, 65, false}, {0, math.MaxUint64, false},
		{1, 1, true}, {1, 65, true}, {1, 0, false}, {1, 2, false}, {1, 64, false},
		{62, 62, true}, {62, 63, false}, {62, 61, false},
		{63, 63, true}, {63, 127, true}, {63, math.MaxUint64, true}, {63, 0, false}, {63, 64, false}, {63, 62, false},
		{64, 64, false}, {64, 0, false}, {64, 128, false}, {64, 63, false},
		{65, 65, false}, {65, 1, false}, {65, 129, false}, {127, 127, false}, {127, 63, false},
		{128, 128, false}, {128, 0, false}, {1000, 1000, false}, {1000, 1000 % 64, false}, {1 << 16, 0, false}, {1 << 16, 1 << 16, false},
	} {
		for _, h := range [][8]uint32{{}, sha.New().H} {
			if got := sha.Fit(api.Hash{H: h, Left: drawn(1, c.left), N: c.n}); got != c.want {
				t.Errorf("Fit with %d bytes left of %d = %v; want %v", c.left, c.n, got, c.want)
			}
		}
	}
}

// P6.3: of all lengths below some blocks and all numbers below as many, those are fit that go together.
func TestFitOfAllLengths(t *testing.T) {
	for size := range 200 {
		for n := range uint64(200) {
			want := size < 64 && uint64(size) == n%64
			if got := sha.Fit(api.Hash{Left: strings.Repeat("x", size), N: n}); got != want {
				t.Fatalf("Fit with %d bytes left of %d = %v; want %v", size, n, got, want)
			}
		}
	}
}

// P6.3: a piece more makes whole blocks, and leaves what is none; numbers begin anew at 2^64.
func TestWriteIsTheLibrarys(t *testing.T) {
	for i, h := range hashes() {
		short := 64 - len(h.Left)
		for _, size := range []int{0, 1, short - 1, short, short + 1, short + 63, short + 64, short + 65, 63, 64, 65, 200} {
			s := drawn(int64(i+size), size)
			got, want := sha.Write(h, s), written(t, h, s)
			if got != want {
				t.Fatalf("Write(%d of %d, %d bytes) = %x; want %x", len(h.Left), h.N, size, got, want)
			}
			if got.N != h.N+uint64(size) || !sha.Fit(got) {
				t.Fatalf("Write(%d of %d, %d bytes): N %d, fit %v", len(h.Left), h.N, size, got.N, sha.Fit(got))
			}
		}
	}
}

// P6.3: what a piece of known length leaves, said in plain numbers.
func TestWriteLeavesWhatIsNoBlock(t *testing.T) {
	for _, c := range []struct{ first, second, left int }{
		{0, 0, 0}, {0, 1, 1}, {0, 63, 63}, {0, 64, 0}, {0, 65, 1}, {0, 128, 0}, {0, 200, 8},
		{1, 0, 1}, {1, 62, 63}, {1, 63, 0}, {1, 64, 1}, {1, 127, 0}, {1, 128, 1},
		{63, 0, 63}, {63, 1, 0}, {63, 2, 1}, {63, 64, 63}, {63, 65, 0}, {64, 0, 0}, {64, 64, 0}, {65, 62, 63}, {65, 63, 0},
	} {
		text := drawn(5, c.first+c.second)
		h := sha.Write(sha.Write(sha.New(), text[:c.first]), text[c.first:])
		if h.Left != text[len(text)-c.left:] || h.N != uint64(len(text)) {
			t.Errorf("%d and %d bytes: left %x of %d; want the last %d", c.first, c.second, h.Left, h.N, c.left)
		}
		if whole := c.first+c.second >= 64; whole == (h.H == sha.New().H) {
			t.Errorf("%d and %d bytes: a block is made: %v", c.first, c.second, !whole)
		}
	}
}

// P6.3: nothing more alters nothing.
func TestWriteOfNothing(t *testing.T) {
	for _, h := range hashes() {
		if got := sha.Write(h, ""); got != h {
			t.Errorf("Write(%x, nothing) = %x", h, got)
		}
	}
}

// P6.3: the end is made of N, whatever was written, its bits modulo 2^64.
func TestSumIsTheLibrarys(t *testing.T) {
	for _, h := range hashes() {
		if got, want := sha.Sum(h), summed(t, h); got != want {
			t.Errorf("Sum(%d left of %d) = %s; want %s", len(h.Left), h.N, hexed(got), hexed(want))
		}
	}
}

// P6.3: the end by the chapter's words: a byte 80, zeros, and bits; one block, or two from 56 bytes on.
func TestSumByItsBlocks(t *testing.T) {
	for _, h := range hashes() {
		text := h.Left + "\x80"
		for len(text)%64 != 56 {
			text += "\x00"
		}
		count := new(big.Int).Lsh(new(big.Int).SetUint64(h.N), 3)
		count.Mod(count, new(big.Int).Lsh(big.NewInt(1), 64))
		text += string(count.FillBytes(make([]byte, 8)))
		if blocks := len(text) / 64; (blocks == 2) != (len(h.Left) >= 56) {
			t.Fatalf("%d bytes left make %d blocks", len(h.Left), blocks)
		}
		made := h.H
		for ; text != ""; text = text[64:] {
			made, _ = sha.Block(made, text[:64])
		}
		if got := words(sha.Sum(h)); got != made || len(sha.Sum(h)) != 32 {
			t.Errorf("Sum(%d left of %d) = %x; want %x", len(h.Left), h.N, got, made)
		}
	}
}

// P6.3: numbers whose bits are alike modulo 2^64 make one digest, all others another one.
func TestSumTakesBitsModulo(t *testing.T) {
	for _, left := range []int{0, 1, 55, 56, 63} {
		h := api.Hash{H: sha.New().H, Left: drawn(3, left), N: 64 + uint64(left)}
		first := sha.Sum(h)
		for k := uint64(1); k < 8; k++ {
			h.N = 64 + uint64(left) + k<<61
			if sha.Sum(h) != first {
				t.Errorf("%d left: %d times 2^61 more makes another digest", left, k)
			}
		}
		for bit := 6; bit < 61; bit++ {
			h.N = (64 + uint64(left)) ^ 1<<bit
			if sha.Sum(h) == first {
				t.Errorf("%d left: bit %d of N makes no difference", left, bit)
			}
		}
	}
}

// P6.3: a hash can be summed, and written on as if it had not been.
func TestSumEndsNothing(t *testing.T) {
	h := sha.New()
	text := drawn(11, 300)
	for i := range len(text) {
		if got := sha.Sum(h); got != digest(text[:i]) || got != sha.Sum(h) {
			t.Fatalf("behind %d bytes: %s; want %s", i, hexed(got), hexed(digest(text[:i])))
		}
		h = sha.Write(h, text[i:i+1])
	}
}

// P6.4: the published keys and texts of RFC 4231, and the one that all the world has.
func TestMacPublished(t *testing.T) {
	for _, c := range []struct{ key, text, want string }{
		{"key", "The quick brown fox jumps over the lazy dog", "f7bc83f430538424b13298e6aa6fb143ef4d59a14946175997479dbc2d1a3cd8"},
		{"", "", "b613679a0814d9ec772f95d778c35fc5ff1697c493715653c6c712144292c5ad"},
		{strings.Repeat("\x0b", 20), "Hi There", "b0344c61d8db38535ca8afceaf0bf12b881dc200c9833da726e9376c2e32cff7"},
		{"Jefe", "what do ya want for nothing?", "5bdcc146bf60754e6a042426089575c75a003f089d2739839dec58b964ec3843"},
		{strings.Repeat("\xaa", 20), strings.Repeat("\xdd", 50), "773ea91e36800e46854db8ebd09181a72959098b3ef8c122d9635514ced565fe"},
		{unhexed(t, "0102030405060708090a0b0c0d0e0f10111213141516171819"), strings.Repeat("\xcd", 50), "82558a389a443c0ea4cc819899f2083a85f0faa3e578f8077a2e3ff46729665b"},
		{strings.Repeat("\xaa", 131), "Test Using Larger Than Block-Size Key - Hash Key First", "60e431591ee0b67f0d8a26aacbf5b77f8e0bc6213728c5140546040f0ee37f54"},
		{strings.Repeat("\xaa", 131), "This is a test using a larger than block-size key and a larger than block-size data. The key needs to be hashed before being used by the HMAC algorithm.", "9b09ffa71b942fcb27635fbcd5b0e944bfdc63644f0713938a7f51535c3a35e2"},
	} {
		if got := sha.Mac(c.key, c.text); got != unhexed(t, c.want) {
			t.Errorf("Mac(%q, %q) = %s; want %s", c.key, c.text, hexed(got), c.want)
		}
	}
}

// P6.4: keys of all lengths up to some blocks, with texts of all the edges.
func TestMacIsTheLibrarys(t *testing.T) {
	for size := range 200 {
		key := drawn(int64(size), size)
		for i, length := range sizes()[:26] {
			s := drawn(int64(1000*size+i), length)
			if got, want := sha.Mac(key, s), mac(key, s); got != want {
				t.Fatalf("Mac(%d bytes, %d bytes) = %s; want %s", size, length, hexed(got), hexed(want))
			}
		}
	}
	for _, size := range []int{1000, 1 << 16} {
		key, s := drawn(1, size), drawn(2, 2*size)
		if got, want := sha.Mac(key, s), mac(key, s); got != want {
			t.Errorf("Mac(%d bytes, %d bytes) = %s; want %s", size, 2*size, hexed(got), hexed(want))
		}
	}
}

// P6.4: by the chapter's words: two digests, each behind the key with another mask.
func TestMacByItsDigests(t *testing.T) {
	for _, size := range []int{0, 1, 32, 63, 64, 65, 66, 128, 500} {
		key, s := drawn(int64(size), size), drawn(9, 100)
		block := []byte(key)
		if size > 64 {
			block = []byte(sha.Of(key))
		}
		block = append(block, make([]byte, 64-len(block))...)
		var outer, inner []byte
		for _, b := range block {
			outer, inner = append(outer, b^0x5c), append(inner, b^0x36)
		}
		want := sha.Of(string(outer) + sha.Of(string(inner)+s))
		if got := sha.Mac(key, s); got != want {
			t.Errorf("Mac by %d bytes = %s; want %s", size, hexed(got), hexed(want))
		}
	}
}

// P6.4: a key of 64 bytes stands as it is; one of 65 by its digest.
func TestMacTakesLongKeysByTheirDigest(t *testing.T) {
	for size := range 130 {
		key := drawn(int64(size+1), size)
		if byDigest := sha.Mac(key, "text") == sha.Mac(sha.Of(key), "text"); byDigest != (size > 64) {
			t.Errorf("a key of %d bytes stands by its digest: %v", size, byDigest)
		}
	}
}

// P6.5: a text cut anywhere, once and twice, has the digest of the whole.
func TestPiecesMakeTheWhole(t *testing.T) {
	text := drawn(21, 270)
	want := sha.Of(text)
	for i := range len(text) + 1 {
		first := sha.Write(sha.New(), text[:i])
		if got := sha.Sum(sha.Write(first, text[i:])); got != want {
			t.Errorf("cut at %d: %s; want %s", i, hexed(got), hexed(want))
		}
		for j := i; j <= len(text); j += 1 + (j-i)/8 {
			second := sha.Write(first, text[i:j])
			if got := sha.Sum(sha.Write(second, text[j:])); got != want {
				t.Fatalf("cut at %d and %d: %s; want %s", i, j, hexed(got), hexed(want))
			}
		}
	}
}

// P6.5: pieces of one length, and pieces of drawn lengths, some of them of nothing.
func TestManyPiecesMakeTheWhole(t *testing.T) {
	text := drawn(22, 3000)
	want := digest(text)
	for size := 1; size <= 200; size++ {
		h := sha.New()
		for at := 0; at < len(text); at += size {
			h = sha.Write(h, text[at:min(at+size, len(text))])
		}
		if got := sha.Sum(h); got != want {
			t.Errorf("pieces of %d: %s; want %s", size, hexed(got), hexed(want))
		}
	}
	draw := rand.New(rand.NewSource(5))
	for range 200 {
		h, rest := sha.New(), text
		for rest != "" {
			size := min(draw.Intn(150), len(rest))
			h, rest = sha.Write(h, rest[:size]), rest[size:]
		}
		if got := sha.Sum(h); got != want {
			t.Fatalf("drawn pieces: %s; want %s", hexed(got), hexed(want))
		}
	}
}

// P6.5: writing twice is writing both, whatever was written ahead.
func TestWriteTwiceIsWriteOfBoth(t *testing.T) {
	for i, h := range hashes() {
		short := 64 - len(h.Left)
		for _, first := range []int{0, 1, short - 1, short, short + 1, 130} {
			for _, second := range []int{0, 1, 63, 64, 65, 150} {
				a, b := drawn(int64(i), first), drawn(int64(i+1), second)
				if twice, both := sha.Write(sha.Write(h, a), b), sha.Write(h, a+b); twice != both {
					t.Fatalf("%d left of %d: %d bytes and %d: %x; want %x", len(h.Left), h.N, first, second, twice, both)
				}
			}
		}
	}
}

// P6.6: bytes 0 behind a key make no difference up to 64 bytes, and one beyond.
func TestMacTakesZerosBehindAKey(t *testing.T) {
	for size := range 65 {
		key, text := drawn(int64(size), size), drawn(int64(size+100), size)
		want := sha.Mac(key, text)
		for more := range 65 - size {
			if got := sha.Mac(key+strings.Repeat("\x00", more), text); got != want || got != mac(key, text) {
				t.Errorf("%d bytes and %d zeros: %s; want %s", size, more, hexed(got), hexed(want))
			}
		}
		for _, more := range []int{65 - size, 66 - size, 128 - size, 200} {
			if sha.Mac(key+strings.Repeat("\x00", more), text) == want {
				t.Errorf("%d bytes and %d zeros make the Mac of the key alone", size, more)
			}
		}
		if size < 64 && sha.Mac(key+"\x01", text) == want {
			t.Errorf("%d bytes and a byte 1 make the Mac of the key alone", size)
		}
	}
	if sha.Mac("\x00key", "text") == sha.Mac("key", "text") {
		t.Error("a byte 0 ahead of a key makes no difference")
	}
	long := drawn(1, 65)
	if sha.Mac(long, "text") == sha.Mac(long+"\x00", "text") {
		t.Error("a byte 0 behind a long key makes no difference")
	}
}

// Rule 0.1: hashes that are not fit make no call panic or go on for ever.
func TestUnfitHashesEnd(t *testing.T) {
	for _, left := range []int{0, 1, 55, 56, 63, 64, 65, 119, 120, 127, 128, 1000} {
		for _, n := range []uint64{0, 1, 55, 63, 64, 1 << 61, math.MaxUint64} {
			h := api.Hash{Left: drawn(1, left), N: n}
			sha.Fit(h)
			if got := sha.Sum(h); len(got) != 32 {
				t.Errorf("Sum(%d left of %d) has %d bytes", left, n, len(got))
			}
			for _, size := range []int{0, 1, 63, 64, 65, 500} {
				sha.Sum(sha.Write(h, drawn(2, size)))
			}
		}
	}
}

// Rule 0.5: what is left shares no memory with the piece or with the hash that it is of.
func TestWriteLeavesNewMemory(t *testing.T) {
	s := drawn(1, 1000)
	h := sha.Write(sha.New(), s)
	if unsafe.StringData(h.Left) == unsafe.StringData(s[len(s)-len(h.Left):]) {
		t.Error("what is left is a piece of the text")
	}
	if again := sha.Write(h, ""); unsafe.StringData(again.Left) == unsafe.StringData(h.Left) {
		t.Error("what is left is the other hash's")
	}
}

func FuzzWrite(f *testing.F) {
	for _, size := range sizes()[:26] {
		f.Add([]byte(drawn(1, size)), uint64(size), uint64(64))
	}
	f.Fuzz(func(t *testing.T, text []byte, n, cut uint64) {
		h := api.Hash{H: words(digest(string(text))), Left: strings.Repeat("l", int(n%64)), N: n}
		at := cut % (uint64(len(text)) + 1)
		got := sha.Write(sha.Write(h, string(text[:at])), string(text[at:]))
		if want := written(t, h, string(text)); got != want {
			t.Errorf("%x behind %d bytes, cut at %d: %x; want %x", text, n, at, got, want)
		}
		if sum, want := sha.Sum(got), summed(t, got); sum != want {
			t.Errorf("Sum(%x) = %s; want %s", got, hexed(sum), hexed(want))
		}
	})
}

func FuzzMac(f *testing.F) {
	for _, size := range sizes()[:26] {
		f.Add([]byte(drawn(1, size)), []byte(drawn(2, 65-size%64)))
	}
	f.Fuzz(func(t *testing.T, key, text []byte) {
		if got, want := sha.Mac(string(key), string(text)), mac(string(key), string(text)); got != want {
			t.Errorf("Mac(%x, %x) = %s; want %s", key, text, hexed(got), hexed(want))
		}
	})
}

func BenchmarkOf(b *testing.B) {
	s := drawn(1, api.MaxRecord)
	b.SetBytes(int64(len(s)))
	for b.Loop() {
		sha.Of(s)
	}
}

func BenchmarkMac(b *testing.B) {
	key, s := drawn(1, 32), drawn(2, 64)
	for b.Loop() {
		sha.Mac(key, s)
	}
}
