package rec_test

import (
	libaes "crypto/aes"
	"crypto/cipher"
	"encoding/binary"
	"encoding/hex"
	"math"
	"math/rand"
	"strings"
	"testing"

	"pendulum/api"
	"pendulum/rec"
)

// What the chapter's words say, made anew by Go's own library: the tests hold the program against it.

const (
	mostPlain  = 16384 // bytes of content
	mostData   = 16640 // of a record RecData
	mostOpened = 65552 // that gcm opens
	lastSeq    = math.MaxUint64
)

// drawn is a text that is the same in every run.
func drawn(seed int64, size int) string {
	out := make([]byte, size)
	rand.New(rand.NewSource(seed)).Read(out)
	return string(out)
}

func zeros(n int) string {
	return strings.Repeat("\x00", n)
}

func hexed(s string) string {
	if len(s) > 100 {
		return hex.EncodeToString([]byte(s[:100])) + ".."
	}
	return hex.EncodeToString([]byte(s))
}

func unhexed(t testing.TB, digits string) string {
	t.Helper()
	out, err := hex.DecodeString(strings.ReplaceAll(digits, " ", ""))
	if err != nil {
		t.Fatal(err)
	}
	return string(out)
}

// changed is a text with its byte i xor what is told.
func changed(s string, i int, by byte) string {
	out := []byte(s)
	out[i] ^= by
	return string(out)
}

func kinds() []int {
	return []int{21, 22, 23}
}

// others are numbers that are no kind: all about the kinds, those that have a kind's lowest bits, and the greatest and the least.
func others() []int {
	out := []int{math.MinInt, math.MinInt32, math.MaxInt32, math.MaxInt}
	for _, k := range kinds() {
		out = append(out, -k, k-256, k+256, k+512, k+1<<16, k+1<<32, k-1<<32, k+math.MinInt, k<<8)
	}
	for k := -40; k <= 300; k++ {
		if k < 21 || k > 23 {
			out = append(out, k)
		}
	}
	return out
}

// most is how many bytes a record may have.
func most(kind int) int {
	if kind == 23 {
		return mostData
	}
	return mostPlain
}

// headed is the five bytes ahead of n.
func headed(kind, n int) string {
	return string(binary.BigEndian.AppendUint16([]byte{byte(kind), 3, 3}, uint16(n)))
}

// unframed is a record of a text by the chapter's words, gone through byte by byte.
func unframed(s string) (api.Record, string, api.Errno) {
	n := 0
	for i := 0; i < 5+n; i++ {
		switch {
		case i == len(s):
			return api.Record{}, "", api.ErrShort
		case i == 0 && s[0] != 21 && s[0] != 22 && s[0] != 23:
			return api.Record{}, "", api.ErrKind
		case (i == 1 || i == 2) && s[i] != 3:
			return api.Record{}, "", api.ErrForm
		case i == 3 && 256*int(s[3]) > most(int(s[0])):
			return api.Record{}, "", api.ErrLong // whatever the byte behind would be
		case i == 4:
			n = int(binary.BigEndian.Uint16([]byte(s[3:5])))
			if n > most(int(s[0])) {
				return api.Record{}, "", api.ErrLong
			}
		}
	}
	return api.Record{Kind: int(s[0]), Body: s[5 : 5+n]}, s[5+n:], api.OK
}

// nonceOf is a direction's nonce, as two numbers of which the second one is xor Seq.
func nonceOf(x api.Side) string {
	out := []byte(x.Iv[:4])
	return string(binary.BigEndian.AppendUint64(out, binary.BigEndian.Uint64([]byte(x.Iv[4:]))^x.Seq))
}

// library is the library's way of sealing by a direction's key.
func library(t testing.TB, x api.Side) cipher.AEAD {
	t.Helper()
	c, err := libaes.NewCipher([]byte(x.Key))
	if err != nil {
		t.Fatal(err)
	}
	out, err := cipher.NewGCM(c)
	if err != nil {
		t.Fatal(err)
	}
	return out
}

// sealedWith is a text sealed by the library at a direction's place, with an ad.
func sealedWith(t testing.TB, x api.Side, ad, within string) string {
	t.Helper()
	return string(library(t, x).Seal(nil, []byte(nonceOf(x)), []byte(within), []byte(ad)))
}

// sealed is a record RecData whose body the library has sealed, whatever is within.
func sealed(t testing.TB, x api.Side, within string) api.Record {
	t.Helper()
	return api.Record{Kind: 23, Body: sealedWith(t, x, headed(23, len(within)+16), within)}
}

// protected is what Protect has to tell, by the chapter's words.
func protected(t testing.TB, x api.Side, r api.Record, pad int) (api.Side, string, api.Errno) {
	t.Helper()
	switch {
	case r.Kind < 21 || r.Kind > 23:
		return x, "", api.ErrKind
	case len(r.Body) > mostPlain:
		return x, "", api.ErrLong
	case pad < 0, pad > mostPlain, len(r.Body)+pad > mostPlain:
		return x, "", api.ErrNumber
	case len(x.Key) != 16, len(x.Iv) != 12:
		return x, "", api.ErrForm
	case x.Seq == lastSeq:
		return x, "", api.ErrMany
	}
	body := sealed(t, x, r.Body+string([]byte{byte(r.Kind)})+zeros(pad)).Body
	return later(x, 1), headed(23, len(body)) + body, api.OK
}

// unprotected is what Unprotect has to tell, by the chapter's words.
func unprotected(t testing.TB, x api.Side, r api.Record) (api.Side, api.Record, api.Errno) {
	t.Helper()
	switch {
	case len(x.Key) != 16, len(x.Iv) != 12:
		return x, api.Record{}, api.ErrForm
	case x.Seq == lastSeq:
		return x, api.Record{}, api.ErrMany
	case r.Kind != 23:
		return x, api.Record{}, api.ErrKind
	case len(r.Body) < 16:
		return x, api.Record{}, api.ErrShort
	case len(r.Body) > mostOpened:
		return x, api.Record{}, api.ErrLong
	}
	within, err := library(t, x).Open(nil, []byte(nonceOf(x)), []byte(r.Body), []byte(headed(23, len(r.Body))))
	if err != nil {
		return x, api.Record{}, api.ErrSeal
	}
	if len(within) > mostPlain+1 {
		return x, api.Record{}, api.ErrLong
	}
	for i := len(within) - 1; i >= 0; i-- {
		switch within[i] {
		case 0:
		case 21, 22, 23:
			return later(x, 1), api.Record{Kind: int(within[i]), Body: string(within[:i])}, api.OK
		default:
			return x, api.Record{}, api.ErrKind
		}
	}
	return x, api.Record{}, api.ErrForm
}

// sideOf is a direction that is the same in every run.
func sideOf(seed int64, seq uint64) api.Side {
	return api.Side{Key: drawn(seed, 16), Iv: drawn(seed+1, 12), Seq: seq}
}

// later is a direction so many records on.
func later(x api.Side, n uint64) api.Side {
	x.Seq += n
	return x
}

// seqs are numbers of records: the first, the last, and one of each byte.
func seqs() []uint64 {
	out := []uint64{0, 1, 2, 255, 256, 257, 65535, 65536, 1<<32 - 1, 1 << 32, 1<<63 - 1, 1 << 63, 0x0123456789abcdef, lastSeq - 2, lastSeq - 1}
	for i := range 8 {
		out = append(out, 0x5a<<(8*i), 0xff<<(8*i))
	}
	return out
}

func told(r api.Record) string {
	return hexed(r.Body) + " of the kind " + hexed(string([]byte{byte(r.Kind)}))
}

// holdFrame says that Frame tells just that.
func holdFrame(t testing.TB, r api.Record, want string, fault api.Errno) {
	t.Helper()
	if got, e := rec.Frame(r); got != want || e != fault {
		t.Errorf("Frame of the kind %d, %d bytes = %d bytes, %s, %v; want %d, %s, %v", r.Kind, len(r.Body), len(got), hexed(got), e, len(want), hexed(want), fault)
	}
}

// holdUnframe says that Unframe tells what the chapter's words say, and with which error.
func holdUnframe(t testing.TB, s string, fault api.Errno) {
	t.Helper()
	r, behind, e := unframed(s)
	if e != fault {
		t.Fatalf("the words of %d bytes, %s: %v; want %v", len(s), hexed(s), e, fault)
	}
	if got, rest, e := rec.Unframe(s); got != r || rest != behind || e != fault {
		t.Errorf("Unframe of %d bytes, %s = %d bytes, %s, %d behind, %v; want %d, %s, %d behind, %v", len(s), hexed(s), len(got.Body), told(got), len(rest), e, len(r.Body), told(r), len(behind), fault)
	}
}

// holdProtect says that Protect tells what the chapter's words say, and with which error.
func holdProtect(t testing.TB, x api.Side, r api.Record, pad int, fault api.Errno) string {
	t.Helper()
	then, want, e := protected(t, x, r, pad)
	if e != fault {
		t.Fatalf("the words of %d and %d bytes, Seq %d, the kind %d, %d bytes, pad %d: %v; want %v", len(x.Key), len(x.Iv), x.Seq, r.Kind, len(r.Body), pad, e, fault)
	}
	y, got, e := rec.Protect(x, r, pad)
	if y != then || got != want || e != fault {
		t.Errorf("Protect by %d and %d bytes, Seq %d, of the kind %d, %d bytes, pad %d = %v, %d bytes, %s, %v; want %v, %d, %s, %v",
			len(x.Key), len(x.Iv), x.Seq, r.Kind, len(r.Body), pad, y, len(got), hexed(got), e, then, len(want), hexed(want), fault)
	}
	return got
}

// holdUnprotect says that Unprotect tells what the chapter's words say, and with which error.
func holdUnprotect(t testing.TB, x api.Side, r api.Record, fault api.Errno) api.Record {
	t.Helper()
	then, want, e := unprotected(t, x, r)
	if e != fault {
		t.Fatalf("the words of %d and %d bytes, Seq %d, the kind %d, %d bytes: %v; want %v", len(x.Key), len(x.Iv), x.Seq, r.Kind, len(r.Body), e, fault)
	}
	y, got, e := rec.Unprotect(x, r)
	if y != then || got != want || e != fault {
		t.Errorf("Unprotect by %d and %d bytes, Seq %d, of the kind %d, %d bytes, %s = %v, %d bytes, %s, %v; want %v, %d, %s, %v",
			len(x.Key), len(x.Iv), x.Seq, r.Kind, len(r.Body), hexed(r.Body), y, len(got.Body), told(got), e, then, len(want.Body), told(want), fault)
	}
	return got
}
