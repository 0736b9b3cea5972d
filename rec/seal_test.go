package rec_test

import (
	"math"
	"strings"
	"sync"
	"testing"

	"pendulum/api"
	"pendulum/rec"
)

// P13.2: nonces are Iv, its last 8 bytes xor Seq's, at each Seq, also at the last one; of a Seq of 0 it is Iv.
func TestNonce(t *testing.T) {
	for i, seq := range append(seqs(), lastSeq) {
		for _, iv := range []string{zeros(12), strings.Repeat("\xff", 12), drawn(int64(i), 12)} {
			x := api.Side{Key: drawn(1, 16), Iv: iv, Seq: seq}
			if got, e := rec.Nonce(x); got != nonceOf(x) || e != api.OK {
				t.Errorf("Nonce of %s, %d = %s, %v; want %s", hexed(iv), seq, hexed(got), e, hexed(nonceOf(x)))
			}
		}
	}
	for _, c := range []struct {
		iv   string
		seq  uint64
		want string
	}{
		{"5d313eb2671276ee13000b30", 0, "5d313eb2671276ee13000b30"},
		{"5d313eb2671276ee13000b30", 1, "5d313eb2671276ee13000b31"},
		{"000000000000000000000000", 0x0102030405060708, "000000000102030405060708"},
		{"ffffffffffffffffffffffff", lastSeq, "ffffffff0000000000000000"},
		{"000102030405060708090a0b", 0x8000000000000001, "000102038405060708090a0a"},
	} {
		if got, e := rec.Nonce(api.Side{Key: zeros(16), Iv: unhexed(t, c.iv), Seq: c.seq}); hexed(got) != c.want || e != api.OK {
			t.Errorf("Nonce of %s, %d = %s, %v; want %s", c.iv, c.seq, hexed(got), e, c.want)
		}
	}
}

// P13.2: each bit of Seq turns just one of the nonce, the lowest one of its last byte.
func TestNonceBits(t *testing.T) {
	x := sideOf(1, 0)
	for bit := range 64 {
		x.Seq = 1 << bit
		want := changed(x.Iv, 11-bit/8, 1<<(bit%8))
		if got, e := rec.Nonce(x); got != want || e != api.OK {
			t.Errorf("Nonce of 2^%d = %s, %v; want %s", bit, hexed(got), e, hexed(want))
		}
	}
}

// P13.2, rule 0.3: a Key of other than 16 bytes, an Iv of other than 12, and both.
func TestNonceRefuses(t *testing.T) {
	for key := range 40 {
		for iv := range 30 {
			x := api.Side{Key: drawn(1, key), Iv: drawn(2, iv), Seq: uint64(key)}
			got, e := rec.Nonce(x)
			if key == 16 && iv == 12 {
				if got != nonceOf(x) || e != api.OK {
					t.Errorf("Nonce = %s, %v", hexed(got), e)
				}
				continue
			}
			if got != "" || e != api.ErrForm {
				t.Errorf("Nonce by %d and %d bytes = %s, %v; want %v", key, iv, hexed(got), e, api.ErrForm)
			}
		}
	}
	for _, sizes := range [][2]int{{16 + 256, 12}, {16, 12 + 256}, {12, 16}, {65536 + 16, 12}, {16, 65536 + 12}} {
		if got, e := rec.Nonce(api.Side{Key: drawn(1, sizes[0]), Iv: drawn(1, sizes[1]), Seq: lastSeq}); got != "" || e != api.ErrForm {
			t.Errorf("Nonce by %d and %d bytes = %s, %v", sizes[0], sizes[1], hexed(got), e)
		}
	}
}

// P13.3, P13.4: records that are published in RFC 8448, of its first handshake: a Finished, data, and alerts.
func TestPublishedRecords(t *testing.T) {
	clientHand := api.Side{Key: unhexed(t, "dbfaa693d1762c5b666af5d950258d01"), Iv: unhexed(t, "5bd3c71b836e0b76bb73265f")}
	client := api.Side{Key: unhexed(t, "17422dda596ed5d9acd890e3c63f5051"), Iv: unhexed(t, "5b78923dee08579033e523d9")}
	server := api.Side{Key: unhexed(t, "9f02283b6c9c07efc26bb9f2ac92e356"), Iv: unhexed(t, "cf782b88dd83549aadf1e984")}
	data := unhexed(t, "000102030405060708090a0b0c0d0e0f101112131415161718191a1b1c1d1e1f202122232425262728292a2b2c2d2e2f3031")
	for _, c := range []struct {
		x    api.Side
		r    api.Record
		want string
	}{
		{
			clientHand, api.Record{Kind: 22, Body: unhexed(t, "14000020a8ec436d677634ae525ac1fcebe11a039ec17694fac6e98527b642f2edd5ce61")},
			"1703030035 75ec4dc238cce60b298044a71e219c56cc77b0517fe9b93c7a4bfc44d87f38f80338ac98fc46deb384bd1caeacab6867d726c40546",
		},
		{
			client, api.Record{Kind: 23, Body: data},
			"1703030043 a23f7054b62c94d0affafe8228ba55cbefacea42f914aa66bcab3f2b9819a8a5b46b395bd54a9a20441e2b62974e1f5a6292a2977014bd1e3deae63aeebb21694915e4",
		},
		{later(client, 1), api.Record{Kind: 21, Body: "\x01\x00"}, "1703030013 c9872760655666b74d7ff1153efd6db6d0b0e3"},
		{
			later(server, 1), api.Record{Kind: 23, Body: data},
			"1703030043 2e937e11ef4ac740e538ad36005fc4a46932fc3225d05f82aa1b36e30efaf97d90e6dffc602dcb501a59a8fcc49c4bf2e5f0a21c0047c2abf332540dd032e167c2955d",
		},
		{later(server, 2), api.Record{Kind: 21, Body: "\x01\x00"}, "1703030013 b58fd67166ebf599d24720cfbe7efa7a8864a9"},
	} {
		want := unhexed(t, c.want)
		if y, got, e := rec.Protect(c.x, c.r, 0); y != later(c.x, 1) || got != want || e != api.OK {
			t.Errorf("Protect of %s at %d = %v, %s, %v; want %s", told(c.r), c.x.Seq, y, hexed(got), e, c.want)
		}
		r, rest, e := rec.Unframe(want)
		if rest != "" || e != api.OK {
			t.Fatal(rest, e)
		}
		if y, got, e := rec.Unprotect(c.x, r); y != later(c.x, 1) || got != c.r || e != api.OK {
			t.Errorf("Unprotect of %s at %d = %v, %s, %v; want %s", c.want, c.x.Seq, y, told(got), e, told(c.r))
		}
	}
}

// P13.3, P13.4, P13.6: each kind, small bodies and pads, sealed as by the library, and opened again, at each Seq.
func TestSealedIsTheLibrarys(t *testing.T) {
	for i, seq := range seqs() {
		x := sideOf(int64(i), seq)
		for _, kind := range kinds() {
			for _, size := range []int{0, 1, 2, 14, 15, 16, 17, 31, 32, 100} {
				for _, pad := range []int{0, 1, 2, 15, 16, 50} {
					r := api.Record{Kind: kind, Body: drawn(int64(size), size)}
					text := holdProtect(t, x, r, pad, api.OK)
					if len(text) != 5+size+1+pad+16 {
						t.Fatalf("Protect of %d bytes, pad %d = %d bytes", size, pad, len(text))
					}
					holdUnprotect(t, x, api.Record{Kind: 23, Body: text[5:]}, api.OK)
				}
			}
		}
	}
}

// P13.3, P13.4, P13.6: bodies and pads that have together as many bytes as may be, and one fewer; such a record is framed, and read as what it was.
func TestSealedLongest(t *testing.T) {
	for i, sizes := range [][2]int{{16384, 0}, {16383, 0}, {16383, 1}, {0, 16384}, {0, 16383}, {1, 16383}, {1, 16382}, {8192, 8192}, {8192, 8191}, {16000, 384}} {
		x, r := sideOf(int64(i), uint64(i)), api.Record{Kind: 21 + i%3, Body: drawn(int64(i), sizes[0])}
		text := holdProtect(t, x, r, sizes[1], api.OK)
		outer, rest, e := rec.Unframe(text)
		if e != api.OK || rest != "" || outer.Kind != 23 {
			t.Fatalf("Unframe of %d bytes: the kind %d, %d behind, %v", len(text), outer.Kind, len(rest), e)
		}
		if got := holdUnprotect(t, x, outer, api.OK); got != r {
			t.Errorf("Unprotect of Protect of %d bytes, pad %d = %d bytes", sizes[0], sizes[1], len(got.Body))
		}
	}
}

// P13.3: a kind that is none, a body of 16385 bytes (also where it is RecData), pads below 0 and beyond what is left.
func TestProtectRefuses(t *testing.T) {
	x := sideOf(1, 5)
	for _, kind := range others() {
		holdProtect(t, x, api.Record{Kind: kind, Body: "a"}, 0, api.ErrKind)
	}
	for _, kind := range kinds() {
		for _, size := range []int{16385, 16386, 16640, 16641, 65536, 65537} {
			holdProtect(t, x, api.Record{Kind: kind, Body: drawn(1, size)}, 0, api.ErrLong)
			holdProtect(t, x, api.Record{Kind: kind, Body: drawn(1, size)}, -1, api.ErrLong)
			holdProtect(t, x, api.Record{Kind: kind, Body: drawn(1, size)}, mostPlain-size, api.ErrLong)
		}
		for _, size := range []int{0, 1, 2, 100, 8192, 16383, 16384} {
			r := api.Record{Kind: kind, Body: drawn(1, size)}
			for _, pad := range []int{-1, -2, -size - 1, -16384, math.MinInt32, math.MinInt, math.MinInt + 1, 16385 - size, 16386 - size, 16385, 32768, 65536, 1 << 32, math.MaxInt32, math.MaxInt - size, math.MaxInt} {
				holdProtect(t, x, r, pad, api.ErrNumber)
			}
		}
	}
}

// sidesRefused are directions that can't go on, with their errors, a form that is wrong ahead of a Seq that is the last one.
func sidesRefused() map[api.Side]api.Errno {
	out := map[api.Side]api.Errno{}
	for _, seq := range []uint64{0, 1, lastSeq - 1, lastSeq} {
		for _, key := range []int{0, 1, 12, 15, 16, 17, 24, 31, 32, 33, 16 + 256} {
			for _, iv := range []int{0, 1, 8, 11, 12, 13, 16, 12 + 256} {
				x := api.Side{Key: drawn(1, key), Iv: drawn(2, iv), Seq: seq}
				switch {
				case key != 16 || iv != 12:
					out[x] = api.ErrForm
				case seq == lastSeq:
					out[x] = api.ErrMany
				}
			}
		}
	}
	return out
}

// P13.3, rules 0.2 and 0.3: which error is ahead of which: the kind's, the body's, the pad's, the direction's form, its Seq; the direction is as it was.
func TestProtectOrder(t *testing.T) {
	for x, fault := range sidesRefused() {
		for _, kind := range []int{20, 21, 22, 23, 24, 0, 22 + 256} {
			for _, size := range []int{0, 16384, 16385, 16640} {
				for _, pad := range []int{0, -1, 16385, math.MaxInt} {
					want := fault
					switch {
					case kind < 21 || kind > 23:
						want = api.ErrKind
					case size > 16384:
						want = api.ErrLong
					case pad != 0:
						want = api.ErrNumber
					}
					holdProtect(t, x, api.Record{Kind: kind, Body: zeros(size)}, pad, want)
				}
			}
		}
	}
}

// P13.4, rules 0.2 and 0.3: which error is ahead of which: the direction's form, its Seq, the record's kind, its length, its seal; the direction is as it was.
func TestUnprotectOrder(t *testing.T) {
	long := zeros(mostOpened + 1)
	bodies := []string{"", long[:15], long[:16], long[:16640], long}
	for x, fault := range sidesRefused() {
		for _, kind := range append(kinds(), 0, 24, 23+256) {
			for _, body := range bodies {
				holdUnprotect(t, x, api.Record{Kind: kind, Body: body}, fault)
			}
		}
	}
	for _, seq := range []uint64{0, 1, lastSeq - 1} {
		x := sideOf(1, seq)
		right := sealed(t, x, "a\x16").Body
		for _, kind := range append(others(), 21, 22) {
			for _, body := range append(bodies[:3], right) {
				holdUnprotect(t, x, api.Record{Kind: kind, Body: body}, api.ErrKind)
			}
		}
		for _, kind := range []int{21, 22, 24, 23 + 256} {
			for _, within := range []string{"", zeros(20), "a\x14", zeros(16386)} { // what would be refused within is not come to
				holdUnprotect(t, x, api.Record{Kind: kind, Body: sealed(t, x, within).Body}, api.ErrKind)
			}
			holdUnprotect(t, x, api.Record{Kind: kind, Body: long}, api.ErrKind)
		}
		for size := range 16 {
			holdUnprotect(t, x, api.Record{Kind: 23, Body: right[:size]}, api.ErrShort)
		}
		holdUnprotect(t, x, api.Record{Kind: 23, Body: right[:16]}, api.ErrSeal)
		holdUnprotect(t, x, api.Record{Kind: 23, Body: long[:mostOpened]}, api.ErrSeal)
		holdUnprotect(t, x, api.Record{Kind: 23, Body: long}, api.ErrLong)
		holdUnprotect(t, x, api.Record{Kind: 23, Body: long + long}, api.ErrLong)
		holdUnprotect(t, x, api.Record{Kind: 23, Body: right}, api.OK)
	}
}

// P13.4: the seal is asked ahead of what is within: a text that would be too long, all 0 or of no kind is refused as not sealed, if it was not.
func TestSealIsAheadOfWhatIsWithin(t *testing.T) {
	x := sideOf(1, 3)
	for _, within := range []string{"", zeros(1), zeros(100), "a\x14", "\xff", zeros(16386), drawn(1, 20000)} {
		r := sealed(t, x, within)
		r.Body = changed(r.Body, len(r.Body)-1, 1)
		holdUnprotect(t, x, r, api.ErrSeal)
	}
}

// P13.4: lengths of what is within about the most, of a kind and bytes 0, of bytes 0 alone, of no kind: too long is ahead of both others.
func TestUnprotectLengths(t *testing.T) {
	x := sideOf(1, 3)
	for _, size := range []int{1, 2, 100, 16384, 16385, 16386, 16387, 16624, 16640, 20000, 65519} {
		plain, none, kindless := api.OK, api.ErrForm, api.ErrKind
		if size > 16385 {
			plain, none, kindless = api.ErrLong, api.ErrLong, api.ErrLong
		}
		holdUnprotect(t, x, sealed(t, x, drawn(1, size-1)+"\x16"), plain)
		holdUnprotect(t, x, sealed(t, x, "\x16"+zeros(size-1)), plain)
		holdUnprotect(t, x, sealed(t, x, zeros(size)), none)
		holdUnprotect(t, x, sealed(t, x, drawn(1, size-1)+"\x18"), kindless)
		holdUnprotect(t, x, sealed(t, x, "\x01"+zeros(size-1)), kindless)
	}
}

// P13.4: nothing within at all is nothing but bytes 0; so is each number of them.
func TestUnprotectOfNothing(t *testing.T) {
	x := sideOf(1, 0)
	for size := range 70 {
		holdUnprotect(t, x, sealed(t, x, zeros(size)), api.ErrForm)
	}
}

// P13.4: each last byte but 0, with bytes 0 behind it and without, alone and behind a body, and behind what would be a kind.
func TestUnprotectKinds(t *testing.T) {
	x := sideOf(1, 9)
	for last := 1; last < 256; last++ {
		fault := api.ErrKind
		if last >= 21 && last <= 23 {
			fault = api.OK
		}
		b := string([]byte{byte(last)})
		for _, body := range []string{"", "a", "body", "a\x16", "\x16", "\x17\x00\x00", zeros(5)} {
			for _, pad := range []int{0, 1, 2, 16, 40} {
				holdUnprotect(t, x, sealed(t, x, body+b+zeros(pad)), fault)
			}
		}
	}
}

// P13.4, P13.6: bodies that end in bytes 0, or are nothing but these, keep them, whatever the pad; bytes that are no text are kept too.
func TestBodiesKeepTheirZeros(t *testing.T) {
	x := sideOf(1, 9)
	for _, kind := range kinds() {
		for _, body := range []string{"", zeros(1), zeros(2), zeros(100), "a" + zeros(1), "a" + zeros(30), zeros(3) + "a", "\x16" + zeros(4), "\x16\x16", "\xc0\x80", "\xff\xfe\x00", "\x00\xe2\x82"} {
			for _, pad := range []int{0, 1, 3, 100} {
				r := api.Record{Kind: kind, Body: body}
				text := holdProtect(t, x, r, pad, api.OK)
				if got := holdUnprotect(t, x, api.Record{Kind: 23, Body: text[5:]}, api.OK); got != r {
					t.Errorf("Unprotect of Protect of %s, pad %d = %s", told(r), pad, told(got))
				}
			}
		}
	}
}

// The chapter's head: ad is the five bytes as they stand: what is sealed with another ad is not opened.
func TestADIsTheHead(t *testing.T) {
	x := sideOf(4, 1)
	within := "text\x17"
	right := headed(23, len(within)+16)
	holdUnprotect(t, x, api.Record{Kind: 23, Body: sealedWith(t, x, right, within)}, api.OK)
	for i := range 8 * len(right) {
		holdUnprotect(t, x, api.Record{Kind: 23, Body: sealedWith(t, x, changed(right, i/8, 1<<(i%8)), within)}, api.ErrSeal)
	}
	for _, ad := range []string{"", right[:4], right[1:], right + "\x00", headed(23, len(within)), headed(23, 4), headed(22, len(within)+16), "\x17\x03\x01\x00\x15", "\x17\x03\x04\x00\x15"} {
		holdUnprotect(t, x, api.Record{Kind: 23, Body: sealedWith(t, x, ad, within)}, api.ErrSeal)
	}
}

// The chapter's head: of what is sealed, the head's length is that of what is sealed: the body's, 1, the pad's and 16.
func TestHeadOfWhatIsSealed(t *testing.T) {
	x := sideOf(4, 1)
	for _, kind := range kinds() {
		for _, sizes := range [][2]int{{0, 0}, {1, 0}, {0, 1}, {238, 0}, {239, 0}, {200, 38}, {200, 39}, {16384, 0}, {0, 16384}} {
			_, text, e := rec.Protect(x, api.Record{Kind: kind, Body: drawn(1, sizes[0])}, sizes[1])
			want := headed(23, sizes[0]+1+sizes[1]+16)
			if e != api.OK || len(text) != 5+sizes[0]+1+sizes[1]+16 || text[:5] != want {
				t.Errorf("Protect of %d bytes, pad %d = %d bytes, %s, %v; want %s ahead", sizes[0], sizes[1], len(text), hexed(text), e, hexed(want))
			}
		}
	}
}

// P13.4, P13.7: no byte can be turned, of a body, its tag, Key or Iv, none taken off or put to it, and the direction stays where it was.
func TestChangesAreNotOpened(t *testing.T) {
	x := sideOf(6, 77)
	for _, size := range []int{0, 1, 15, 16, 40} {
		r := sealed(t, x, drawn(1, size)+"\x16")
		for i := range 8 * len(r.Body) {
			holdUnprotect(t, x, api.Record{Kind: 23, Body: changed(r.Body, i/8, 1<<(i%8))}, api.ErrSeal)
		}
		for i := range 8 * 16 {
			y := x
			y.Key = changed(x.Key, i/8, 1<<(i%8))
			holdUnprotect(t, y, r, api.ErrSeal)
		}
		for i := range 8 * 12 {
			y := x
			y.Iv = changed(x.Iv, i/8, 1<<(i%8))
			holdUnprotect(t, y, r, api.ErrSeal)
		}
		for bit := range 64 {
			y := x
			y.Seq ^= 1 << bit
			holdUnprotect(t, y, r, api.ErrSeal)
		}
		for _, other := range []string{r.Body + "\x00", "\x00" + r.Body, r.Body[1:], r.Body[:len(r.Body)-1]} {
			holdUnprotect(t, x, api.Record{Kind: 23, Body: other}, api.ErrSeal)
		}
		holdUnprotect(t, x, r, api.OK)
	}
}

// P13.6, P13.7: records one after another: both directions go on alike, nonces are all unlike, and each record is opened at its place alone.
func TestOneAfterAnother(t *testing.T) {
	for _, first := range []uint64{0, 1, 250, 65530, 1<<32 - 7, lastSeq - 20} {
		out, in := sideOf(8, first), sideOf(8, first)
		seen := map[string]int{}
		var said []api.Record
		for i := range 20 {
			nonce, e := rec.Nonce(out)
			if e != api.OK {
				t.Fatal(e)
			}
			if at, had := seen[nonce]; had {
				t.Errorf("the records %d and %d have one nonce", at, i)
			}
			seen[nonce] = i
			r := api.Record{Kind: 21 + i%3, Body: drawn(int64(i), 3*i)}
			var text string
			if out, text, e = rec.Protect(out, r, i); e != api.OK {
				t.Fatalf("Protect of %d: %v", i, e)
			}
			outer, _, _ := rec.Unframe(text)
			said = append(said, outer)
			var got api.Record
			if in, got, e = rec.Unprotect(in, outer); got != r || e != api.OK {
				t.Fatalf("Unprotect of %d = %s, %v; want %s", i, told(got), e, told(r))
			}
			if in != out || in != sideOf(8, first+uint64(i)+1) {
				t.Fatalf("behind %d the directions are at %d and %d", i, out.Seq, in.Seq)
			}
		}
		for i, outer := range said {
			for j := range said {
				fault := api.ErrSeal
				if i == j {
					fault = api.OK
				}
				holdUnprotect(t, sideOf(8, first+uint64(j)), outer, fault)
			}
		}
	}
}

// P13.7: records alike, sealed one after another, are unlike.
func TestAlikeAreSealedUnlike(t *testing.T) {
	x := sideOf(3, 0)
	seen := map[string]int{}
	for i := range 300 {
		y, text, e := rec.Protect(x, api.Record{Kind: 22, Body: "the same"}, 0)
		if at, had := seen[text]; had || e != api.OK {
			t.Fatalf("Protect of %d is that of %d, %v", i, at, e)
		}
		seen[text], x = i, y
	}
}

// P13.3, P13.4: the last Seq but one seals and opens a record, and then neither goes on, again and again.
func TestLastPlace(t *testing.T) {
	x, r := sideOf(2, lastSeq-1), api.Record{Kind: 22, Body: "last"}
	text := holdProtect(t, x, r, 4, api.OK)
	outer := api.Record{Kind: 23, Body: text[5:]}
	holdUnprotect(t, x, outer, api.OK)
	x.Seq++
	for range 3 {
		y, text, e := rec.Protect(x, r, 4)
		if y != x || text != "" || e != api.ErrMany {
			t.Errorf("Protect at the last Seq = %v, %s, %v", y, hexed(text), e)
		}
		z, got, e := rec.Unprotect(x, sealed(t, x, "last\x16"))
		if z != x || got != (api.Record{}) || e != api.ErrMany {
			t.Errorf("Unprotect at the last Seq = %v, %s, %v", z, told(got), e)
		}
	}
}

// P13.3 to P13.7: a text that is split, sealed record by record, and opened again.
func TestSplitIsSealed(t *testing.T) {
	s := drawn(5, 2*mostPlain+77)
	out, in := sideOf(5, 40), sideOf(5, 40)
	var said strings.Builder
	for _, r := range rec.Split(23, s) {
		y, text, e := rec.Protect(out, r, 0)
		if e != api.OK {
			t.Fatal(e)
		}
		out = y
		said.WriteString(text)
	}
	var heard []api.Record
	for rest := said.String(); rest != ""; {
		outer, behind, e := rec.Unframe(rest)
		y, r, f := rec.Unprotect(in, outer)
		if e != api.OK || f != api.OK || r.Kind != 23 {
			t.Fatal(e, f, r.Kind)
		}
		in, rest, heard = y, behind, append(heard, r)
	}
	if joined(heard) != s || in != out || in.Seq != 43 {
		t.Errorf("%d records were heard, the directions at %d and %d", len(heard), out.Seq, in.Seq)
	}
}

// Rule 0.1: no call panics, whatever it is given.
func TestAnyArguments(t *testing.T) {
	texts := []string{"", "a", drawn(1, 11), drawn(1, 12), drawn(1, 15), drawn(1, 16), drawn(1, 17), zeros(32), drawn(1, 16641), drawn(1, mostOpened+1)}
	numbers := []int{math.MinInt, -1, 0, 1, 21, 22, 23, 24, 16384, 16385, math.MaxInt}
	for _, a := range texts {
		rec.Unframe(a)
		for _, n := range numbers {
			rec.Frame(api.Record{Kind: n, Body: a})
			rec.Split(n, a)
		}
		for _, b := range texts {
			for _, seq := range []uint64{0, lastSeq} {
				x := api.Side{Key: a, Iv: b, Seq: seq}
				rec.Nonce(x)
				for _, n := range numbers {
					rec.Protect(x, api.Record{Kind: n, Body: b}, 0)
					rec.Protect(x, api.Record{Kind: 22, Body: "a"}, n)
					rec.Unprotect(x, api.Record{Kind: n, Body: a})
				}
			}
		}
	}
}

// LANGUAGE.md's rule 8: nothing is kept from call to call, also where many call at once, by one direction and by others.
func TestManyAtOnce(t *testing.T) {
	var all sync.WaitGroup
	for i := range int64(8) {
		all.Go(func() {
			for seq := range uint64(40) {
				x := sideOf(i/2, seq)
				r := api.Record{Kind: 21 + int(seq%3), Body: drawn(i, int(seq))}
				y, text, e := rec.Protect(x, r, int(i))
				then, want, _ := protected(t, x, r, int(i))
				if y != then || text != want || e != api.OK {
					t.Errorf("Protect at %d, among others, = %v, %s, %v; want %s", seq, y, hexed(text), e, hexed(want))
					return
				}
				if z, got, e := rec.Unprotect(x, api.Record{Kind: 23, Body: text[5:]}); z != y || got != r || e != api.OK {
					t.Errorf("Unprotect at %d, among others, = %v, %s, %v", seq, z, told(got), e)
				}
			}
		})
	}
	all.Wait()
}

// FuzzProtect looks for records that are sealed otherwise than by the chapter's words, or are not opened to what they were.
func FuzzProtect(f *testing.F) {
	f.Add(zeros(16), zeros(12), uint64(0), 22, "x", 0)
	f.Add(drawn(1, 16), drawn(2, 12), uint64(lastSeq-1), 23, "", 16384)
	f.Add(drawn(1, 16), drawn(2, 12), uint64(lastSeq), 21, "\x02\x28", 0)
	f.Add(drawn(1, 15), drawn(2, 12), uint64(1), 24, "text", -1)
	f.Fuzz(func(t *testing.T, key, iv string, seq uint64, kind int, body string, pad int) {
		x, r := api.Side{Key: key, Iv: iv, Seq: seq}, api.Record{Kind: kind, Body: body}
		_, _, e := protected(t, x, r, pad)
		text := holdProtect(t, x, r, pad, e)
		if e == api.OK && holdUnprotect(t, x, api.Record{Kind: 23, Body: text[5:]}, api.OK) != r {
			t.Fatalf("Unprotect of Protect of %s is another record", told(r))
		}
	})
}

// FuzzUnprotect looks for texts within, and for bodies as they are, that are opened or refused otherwise than by the chapter's words.
func FuzzUnprotect(f *testing.F) {
	f.Add(zeros(16), zeros(12), uint64(0), 23, "x\x16")
	f.Add(drawn(1, 16), drawn(2, 12), uint64(1), 23, zeros(40))
	f.Add(drawn(1, 16), drawn(2, 12), uint64(lastSeq), 22, "a\x14\x00")
	f.Add(drawn(1, 17), drawn(2, 12), uint64(lastSeq), 22, "")
	f.Fuzz(func(t *testing.T, key, iv string, seq uint64, kind int, text string) {
		x := api.Side{Key: key, Iv: iv, Seq: seq}
		r := api.Record{Kind: kind, Body: text}
		_, _, e := unprotected(t, x, r)
		holdUnprotect(t, x, r, e)
		if len(key) == 16 && len(iv) == 12 {
			r = sealed(t, x, text)
			_, _, e = unprotected(t, x, r)
			holdUnprotect(t, x, r, e)
		}
	})
}
