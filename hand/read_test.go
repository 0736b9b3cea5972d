package hand_test

import (
	"math/rand"
	"slices"
	"strings"
	"testing"

	"pendulum/api"
	"pendulum/hand"
)

// P14.2: no byte, and each first byte, alone, with a length that is missing, too long or short of its bytes, and ahead of a whole message's.
func TestReadFirstByte(t *testing.T) {
	holdRead(t, "", api.ErrShort)
	for first := range 256 {
		isKind := slices.Contains(kinds(), first)
		fault := func(e api.Errno) api.Errno {
			if isKind {
				return e
			}
			return api.ErrKind
		}
		head := bytesOf(first)
		holdRead(t, head, fault(api.ErrShort))
		holdRead(t, head+"\x00", fault(api.ErrShort))
		holdRead(t, head+"\x00\x00", fault(api.ErrShort))
		holdRead(t, head+"\x01", fault(api.ErrLong))
		holdRead(t, head+"\x00\x41", fault(api.ErrLong))
		holdRead(t, head+"\x00\x40\x01", fault(api.ErrLong))
		holdRead(t, head+"\x00\x00\x00", fault(api.ErrForm))
		holdRead(t, head+"\x00\x00\x02a", fault(api.ErrShort))
		holdRead(t, head+"\x00\x00\x02ab", fault(api.ErrForm))
		for _, m := range samples() {
			e := fault(api.ErrForm)
			if m.Kind == first {
				e = api.OK
			}
			holdRead(t, head+written(m)[1:], e)
		}
	}
}

// P14.2: a length above 16384 is told by the second byte alone, by the second and the third, or by all three, whatever is behind and however little.
func TestReadLengths(t *testing.T) {
	much := drawn(1, 70000)
	for _, kind := range kinds() {
		head := bytesOf(kind)
		for b := range 256 {
			second, third, fourth := api.ErrShort, api.ErrShort, api.ErrLong
			if b > 0 {
				second = api.ErrLong
			}
			if b > 64 {
				third = api.ErrLong
			}
			if b == 0 {
				fourth = api.ErrShort
			}
			holdRead(t, head+bytesOf(b), second)
			holdRead(t, head+bytesOf(0, b), third)
			holdRead(t, head+bytesOf(0, 64, b), fourth)
			for _, behind := range []string{"\x00", "\xff", "\x00\x00", "\x00\x00a", much} {
				if b > 0 {
					holdRead(t, head+bytesOf(b)+behind, api.ErrLong)
					holdRead(t, head+bytesOf(0, 64, b)+behind, api.ErrLong)
				}
				if b > 64 {
					holdRead(t, head+bytesOf(0, b)+behind, api.ErrLong)
				}
			}
		}
		for _, n := range []int{16383, 16384} {
			length := bytesOf(0, n>>8, n)
			holdRead(t, head+length, api.ErrShort)
			holdRead(t, head+length+much[:n-1], api.ErrShort)
			holdRead(t, head+length+much[:n], api.ErrForm)
			holdRead(t, head+length+much, api.ErrForm)
			holdRead(t, head+length+zeros(n), api.ErrForm)
		}
		for _, n := range []int{16385, 16639, 16640, 65535, 65536, 1<<24 - 1} {
			holdRead(t, head+bytesOf(n>>16, n>>8, n), api.ErrLong)
			holdRead(t, head+bytesOf(n>>16, n>>8, n)+much, api.ErrLong)
		}
	}
}

// P14.2: a text that ends within the length is too long if, and only if, it is so with whatever is behind.
func TestReadLongStays(t *testing.T) {
	fault := func(s string) api.Errno {
		_, _, e := hand.Read(s)
		return e
	}
	for _, kind := range kinds() {
		for _, ahead := range []string{"", "\x00", "\x00\x3f", "\x00\x40", "\x00\x41", "\x01", "\x01\x00"} {
			head, all := bytesOf(kind)+ahead, true
			for b := range 256 {
				all = all && fault(head+bytesOf(b)) == api.ErrLong
			}
			if all != (fault(head) == api.ErrLong) {
				t.Errorf("Read of %s = %v; with each byte behind it ErrLong: %v", hexed(head), fault(head), all)
			}
		}
	}
}

// P14.2: all faults together, the text cut off at each place: the kind comes ahead of the length, the length ahead of what is missing, and that ahead of the form.
func TestReadOrder(t *testing.T) {
	for _, first := range []int{0, 1, 3, 8, 9, 20, 21, 255} {
		for _, length := range []string{"\x00\x00\x00", "\x00\x00\x02", "\x00\x40\x00", "\x00\x40\x01", "\x00\x41\x00", "\x00\xff\xff", "\x01\x00\x00", "\xff\x00\x00", "\xff\xff\xff"} {
			s := bytesOf(first) + length + "abc"
			size := lengthAt(length, 0, 3)
			for n := range len(s) + 1 {
				fault := api.ErrShort
				switch {
				case n == 0:
				case first != 1 && first != 8 && first != 20:
					fault = api.ErrKind
				case n == 1:
				case length[0] > 0:
					fault = api.ErrLong
				case n == 2:
				case length[1] > 64:
					fault = api.ErrLong
				case n == 3:
				case size > 16384:
					fault = api.ErrLong
				case n-4 >= size:
					fault = api.ErrForm
				}
				holdRead(t, s[:n], fault)
			}
		}
	}
}

// P14.2, P14.4: a text that ends at each place ahead of its message's end is short; with bytes behind that end it is the message, and these.
func TestReadEnds(t *testing.T) {
	for _, m := range samples() {
		s := written(m)
		for end := range len(s) {
			if end > 600 && end < len(s)-300 && end%7 != 0 {
				continue
			}
			holdRead(t, s[:end], api.ErrShort)
		}
		for _, behind := range []string{"", "\x00", "\x03", "\xff\xff\xff\xff", s, s[:len(s)/2], drawn(1, 40), drawn(2, 70000)} {
			got, rest, e := hand.Read(s + behind)
			if !isSame(got, m) || !hand.Same(got, m) || rest != behind || e != api.OK {
				t.Errorf("Read of Write of %+v, %d behind = %+v, %d behind, %v", m, len(behind), got, len(rest), e)
			}
			holdRead(t, s+behind, api.OK)
		}
		for end := range len(s) { // a body that ends there, which its length says
			if end < 4 || end > 600 && end%19 != 0 {
				continue
			}
			body := s[4:end]
			likeWords(t, headed(m.Kind, body))
			likeWords(t, headed(m.Kind, body)+s[end:])
		}
	}
}

// P14.4: Read of Write of a fit message is it; what stands behind is told as it is.
func TestThereAndBack(t *testing.T) {
	r := rand.New(rand.NewSource(3))
	for range 3000 {
		m := drawnMsg(r)
		s, e := hand.Write(m)
		if e != api.OK {
			t.Fatalf("Write(%+v) = %v", m, e)
		}
		behind := drawn(r.Int63(), r.Intn(60))
		got, rest, e := hand.Read(s + behind)
		if !isSame(got, m) || rest != behind || e != api.OK {
			t.Fatalf("Read of Write of %+v = %+v, %s, %v; behind was %s", m, got, hexed(rest), e, hexed(behind))
		}
	}
}

// backAndThere says that what Read tells, if it tells something, is fit and stood there as Write writes it.
func backAndThere(t testing.TB, s string) {
	t.Helper()
	m, rest, e := hand.Read(s)
	if e != api.OK {
		return
	}
	back, e := hand.Write(m)
	if back+rest != s || e != api.OK || !hand.Fit(m) {
		t.Errorf("Write of what Read tells of %s = %s, %v; fit %v, behind %s", hexed(s), hexed(back), e, hand.Fit(m), hexed(rest))
	}
}

// P14.2, P14.4: each byte of each body turned into others: into all others, where there are few bytes.
func TestEachByteTurned(t *testing.T) {
	counts := map[api.Errno]int{}
	for _, m := range samples() {
		s := written(m)
		step := 1
		if len(s) > 500 {
			step = 1 + len(s)/250
		}
		for at := 0; at < len(s); at++ {
			if at > 60 && at%step != 0 {
				continue
			}
			for by := 1; by < 256; by++ {
				if step > 1 && by&(by-1) != 0 && by != 255 {
					continue
				}
				text := []byte(s)
				text[at] ^= byte(by)
				counts[likeWords(t, string(text)+"behind")]++
				backAndThere(t, string(text))
			}
		}
	}
	for _, e := range []api.Errno{api.OK, api.ErrForm, api.ErrKind, api.ErrLong, api.ErrShort} {
		if counts[e] == 0 {
			t.Errorf("no text was %v: %v", e, counts)
		}
	}
}

// P14.2: of each body one byte taken away, or one put in, with the message's length right, and as it was.
func TestOneByteMoreOrLess(t *testing.T) {
	for _, m := range samples() {
		s := written(m)
		step := 1
		if len(s) > 500 {
			step = 1 + len(s)/100
		}
		for at := 4; at <= len(s); at++ {
			if at > 60 && at < len(s)-4 && at%step != 0 {
				continue
			}
			head, body := s[:4], s[4:]
			if at < len(s) {
				less := body[:at-4] + body[at-3:]
				likeWords(t, headed(m.Kind, less))
				likeWords(t, head+less)
				likeWords(t, head+less+"\x00")
			}
			for _, b := range []string{"\x00", "\x01", "\x20", "a", "\x80", "\xff", body[max(0, at-5):][:1]} {
				more := body[:at-4] + b + body[at-4:]
				likeWords(t, headed(m.Kind, more))
				likeWords(t, head+more)
				backAndThere(t, headed(m.Kind, more))
			}
		}
		holdRead(t, headed(m.Kind, s[4:]+"\x00"), api.ErrForm)
		holdRead(t, headed(m.Kind, s[4:len(s)-1]), api.ErrForm)
	}
}

// vectorsOf is how many vectors a message's body has.
func vectorsOf(m api.Msg) int {
	x := &maker{}
	x.body(m)
	return x.count
}

// P14.2: each inner length that is wrong, by one and by more, alone and with all others.
func TestInnerLengths(t *testing.T) {
	count := 0
	for _, m := range samples() {
		for i := range vectorsOf(m) {
			for _, by := range []int{-1, 1, -2, 2, -256, 256, 255, 1 << 15, 1 << 23} {
				x := &maker{length: map[int]func(int) int{i: func(n int) int { return n + by }}}
				text := headed(m.Kind, x.body(m))
				if text == written(m) {
					continue // a length of so few bytes does not tell it
				}
				count++
				holdRead(t, text, api.ErrForm)
				holdRead(t, text+zeros(300), api.ErrForm)
				likeWords(t, headed(m.Kind, text[4:]+"\x00"))
				likeWords(t, headed(m.Kind, text[4:len(text)-1]))
			}
			none := &maker{length: map[int]func(int) int{i: func(int) int { return 0 }}}
			likeWords(t, headed(m.Kind, none.body(m)))
		}
	}
	if count < 300 {
		t.Errorf("only %d lengths", count)
	}
}

// P14.2: a vector with a byte more, fewer bytes, or none, all lengths being right: nothing may stand behind what is asked for, and nothing may be missing.
func TestInnerBytes(t *testing.T) {
	counts := map[api.Errno]int{}
	for _, m := range samples() {
		for i := range vectorsOf(m) {
			for _, change := range []func(string) string{
				func(s string) string { return s + "\x00" },
				func(s string) string { return s + "x" },
				func(s string) string { return "\x00" + s },
				func(s string) string { return s + "\x00\x00" },
				func(s string) string { return s + "\x00\x00\x00" },
				func(s string) string { return s + s },
				func(s string) string { return s[:max(0, len(s)-1)] },
				func(s string) string { return s[min(1, len(s)):] },
				func(s string) string { return "" },
				func(s string) string { return strings.Repeat("y", len(s)) },
			} {
				x := &maker{within: map[int]func(string) string{i: change}}
				text := headed(m.Kind, x.body(m))
				counts[likeWords(t, text)]++
				backAndThere(t, text)
			}
		}
	}
	if counts[api.OK] < 30 || counts[api.ErrForm] < 100 {
		t.Errorf("read and refused: %v", counts)
	}
}

// P14.2: bodies that are right but for one field that is not fit: what Write would write, if it did.
func TestReadNotFit(t *testing.T) {
	for _, c := range []struct {
		m    api.Msg
		edit func(*api.Msg)
	}{
		{plain(1), func(m *api.Msg) { m.Random = m.Random[1:] }}, {plain(1), func(m *api.Msg) { m.Random += "r" }},
		{plain(1), func(m *api.Msg) { m.Share = m.Share[1:] }}, {plain(1), func(m *api.Msg) { m.Share += "s" }}, {plain(1), func(m *api.Msg) { m.Share = "" }},
		{plain(1), func(m *api.Msg) { m.Session += "s" }}, {plain(1), func(m *api.Msg) { m.Session = drawn(1, 255) }},
		{plain(1), func(m *api.Msg) { m.Name = "" }}, {plain(1), func(m *api.Msg) { m.Name = strings.Repeat("n", 65) }}, {plain(1), func(m *api.Msg) { m.Name = strings.Repeat("n", 300) }},
		{plain(1), func(m *api.Msg) { m.Name = "a b" }}, {plain(1), func(m *api.Msg) { m.Name = "a\x7f" }}, {plain(1), func(m *api.Msg) { m.Name = "\x00" }}, {plain(1), func(m *api.Msg) { m.Name = "\xff" }},
		{plain(1), func(m *api.Msg) { m.Alpn = "" }}, {plain(1), func(m *api.Msg) { m.Alpn = drawn(1, 33) }}, {plain(1), func(m *api.Msg) { m.Alpn = drawn(1, 255) }},
		{plain(2), func(m *api.Msg) { m.Random = m.Random[1:] }}, {plain(2), func(m *api.Msg) { m.Random += "r" }},
		{plain(2), func(m *api.Msg) { m.Share = m.Share[1:] }}, {plain(2), func(m *api.Msg) { m.Share += "s" }}, {plain(2), func(m *api.Msg) { m.Share = "" }},
		{plain(2), func(m *api.Msg) { m.Session += "s" }}, {plain(2), func(m *api.Msg) { m.Session = drawn(1, 255) }},
		{plain(8), func(m *api.Msg) { m.Alpn = "" }}, {plain(8), func(m *api.Msg) { m.Alpn = drawn(1, 33) }}, {plain(8), func(m *api.Msg) { m.Alpn = drawn(1, 255) }},
		{plain(11), func(m *api.Msg) { m.Certs = nil }}, {plain(11), func(m *api.Msg) { m.Certs = strings.Split("abcde", "") }}, {plain(11), func(m *api.Msg) { m.Certs = []string{""} }},
		{plain(11), func(m *api.Msg) { m.Certs[2] = "" }}, {plain(11), func(m *api.Msg) { m.Certs[0] = "" }}, {plain(11), func(m *api.Msg) { m.Certs[1] = drawn(1, 2049) }},
		{plain(11), func(m *api.Msg) { m.Certs = []string{drawn(1, 2049)} }}, {plain(11), func(m *api.Msg) { m.Certs = make([]string, 3000) }}, {plain(11), func(m *api.Msg) { m.Certs = []string{drawn(1, 16375)} }},
		{plain(20), func(m *api.Msg) { m.Mac = m.Mac[1:] }}, {plain(20), func(m *api.Msg) { m.Mac += "m" }}, {plain(20), func(m *api.Msg) { m.Mac = "" }}, {plain(20), func(m *api.Msg) { m.Mac += m.Mac }},
	} {
		c.edit(&c.m)
		holdWrite(t, "not fit", c.m, false)
		holdRead(t, written(c.m), api.ErrForm)
		holdRead(t, written(c.m)+written(plain(20)), api.ErrForm)
	}
}

// tagged is a tag with some bytes, by chapter 11.
func tagged(tag int, body string) string {
	if len(body) > 127 {
		return bytesOf(tag, 129, len(body)) + body
	}
	return bytesOf(tag, len(body)) + body
}

// wrongInts are no TagInt of a number below 2^256, in as few bytes as can be.
func wrongInts() []string {
	shorter := []string{"00 00", "00 01", "00 7f", "00 00 80", "00 00 00 00 01", "00 7f ff ff ff", "00" + strings.Repeat("7f", 32), "00" + zeroDigits(32)}
	below := []string{"80", "ff", "ff ff", "80 00", "ff 7f", "ff 80", "fe 00 00", "80" + zeroDigits(31)}
	above := []string{"01" + zeroDigits(32), "7f" + strings.Repeat("ff", 32), "00 ff" + zeroDigits(32), "00 80" + zeroDigits(33), "01" + zeroDigits(40)}
	var out []string
	for _, body := range slices.Concat([]string{""}, shorter, below, above) {
		out = append(out, tagged(2, un(body)))
	}
	for _, text := range []string{"", "02", "02 81 01 05", "02 82 00 01 05", "02 80 05 00 00", "02 85 05", "03 01 05", "01 01 05", "00 01 05", "22 01 05", "42 01 05", "82 01 05", "02 02 05", "30 03 02 01 05", "02 01 05 05 00", "05 00"} {
		out = append(out, un(text))
	}
	return out
}

func zeroDigits(n int) string {
	return strings.Repeat("00", n)
}

// signed is HsVerify of whatever stands there for R and S.
func signed(text string) string {
	return headed(15, un("04 03")+bytesOf(len(text)>>8, len(text))+text)
}

// P14.2: numbers within HsVerify that could stand in fewer bytes, are below 0 or not below 2^256, or are none.
func TestReadWrongNumbers(t *testing.T) {
	right := []string{"\x02\x01\x00", "\x02\x01\x05", "\x02\x01\x7f", "\x02\x02\x00\x80", "\x02\x21\x00" + strings.Repeat("\xff", 32), "\x02\x20\x7f" + strings.Repeat("\xff", 31)}
	for _, a := range right {
		for _, b := range right {
			holdRead(t, signed(tagged(48, a+b)), api.OK)
		}
		for _, b := range wrongInts() {
			holdRead(t, signed(tagged(48, a+b)), api.ErrForm)
			holdRead(t, signed(tagged(48, b+a)), api.ErrForm)
			holdRead(t, signed(tagged(48, b+b)), api.ErrForm)
		}
	}
}

// P14.2: what stands about R and S is a TagSeq alone, in as few bytes as can be, with both of them alone.
func TestReadWrongRow(t *testing.T) {
	r, s := "\x02\x01\x05", "\x02\x01\x06"
	holdRead(t, signed(tagged(48, r+s)), api.OK)
	for _, text := range []string{
		"", r, r + s, "\x30", "\x30\x00", tagged(48, r), tagged(48, r+s+r), tagged(48, r+s+"\x05\x00"), tagged(48, r+s+"\x00"), tagged(48, r+s+"\x00\x00"),
		tagged(48, r+s) + "\x00", tagged(48, r+s) + tagged(48, r+s), tagged(48, r+s) + r, r + tagged(48, r+s), tagged(48, "") + tagged(48, r+s), tagged(48, tagged(48, r+s)),
		tagged(49, r+s), tagged(16, r+s), tagged(0, r+s), tagged(176, r+s), tagged(112, r+s), tagged(4, r+s),
		"\x30\x81\x06" + r + s, "\x30\x82\x00\x06" + r + s, "\x30\x80" + r + s + "\x00\x00", "\x30\x83\x00\x00\x06" + r + s,
		"\x30\x05" + r + s, "\x30\x07" + r + s, "\x30\x06" + r, "\x30\x03" + r + s, strings.Repeat(r, 65), tagged(48, strings.Repeat("\x05\x00", 63)+r+s), tagged(48, strings.Repeat("\x05\x00", 64)),
	} {
		holdRead(t, signed(text), api.ErrForm)
	}
	for kind := range 65536 {
		if kind != 0x0403 {
			holdRead(t, headed(15, bytesOf(kind>>8, kind)+"\x00\x08"+tagged(48, r+s)), api.ErrForm)
		}
	}
}

// P14.2: extensions in another order, one left out, one twice, one more; and hellos of others.
func TestReadOtherHellos(t *testing.T) {
	name, groups, signs := un("00 00 00 08 00 06 00 00 03 78 2e 61"), un("00 0a 00 04 00 02 00 1d"), un("00 0d 00 04 00 02 04 03")
	alpn, versions, share := un("00 10 00 0a 00 08 07 6e 74 73 6b 65 2f 31"), un("00 2b 00 03 02 03 04"), un("00 33 00 26 00 24 00 1d 00 20")+drawn(1, 32)
	hello := func(exts ...string) string {
		all := strings.Join(exts, "")
		return headed(1, un("03 03")+drawn(2, 32)+"\x00"+un("00 02 13 01 01 00")+bytesOf(len(all)>>8, len(all))+all)
	}
	list := []string{name, groups, signs, alpn, versions, share}
	holdRead(t, hello(list...), api.OK)
	for i := range list {
		holdRead(t, hello(slices.Delete(slices.Clone(list), i, i+1)...), api.ErrForm)
		holdRead(t, hello(slices.Insert(slices.Clone(list), i, list[i])...), api.ErrForm)
		for j := range list {
			if i != j {
				other := slices.Clone(list)
				other[i], other[j] = other[j], other[i]
				holdRead(t, hello(other...), api.ErrForm)
			}
		}
	}
	for i := range len(list) + 1 {
		for _, more := range []string{un("00 17 00 00"), un("ff 01 00 01 00"), un("00 2d 00 02 01 01"), un("00 15 00 00"), "\x00"} {
			holdRead(t, hello(slices.Insert(slices.Clone(list), i, more)...), api.ErrForm)
		}
	}
	holdRead(t, hello(), api.ErrForm)
	two := un("00 10 00 0d 00 0b 07 6e 74 73 6b 65 2f 31 02 68 32") // ntske/1, and h2
	holdRead(t, hello(name, groups, signs, two, versions, share), api.ErrForm)
	twoNames := un("00 00 00 0e 00 0c 00 00 03 78 2e 61 00 00 03 78 2e 62")
	holdRead(t, hello(twoNames, groups, signs, alpn, versions, share), api.ErrForm)
	notPacked := headed(2, un("03 03")+drawn(2, 32)+"\x00"+un("13 01 00"))
	holdRead(t, notPacked, api.ErrForm)
	// RFC 8448's server has its share ahead of its version, and so another order than this chapter.
	holdRead(t, un("02 00 00 56 03 03 a6 af 06 a4 12 18 60 dc 5e 6e 60 24 9c d3 4c 95 93 0c 8a c5 cb 14 34 da c1 55 77 2e d3 e2 69 28 00 13 01 00 00 2e "+
		"00 33 00 24 00 1d 00 20 c9 82 88 76 11 20 95 fe 66 76 2b db f7 c6 72 e1 56 d6 cc 25 3b 83 3d f1 dd 69 b1 b0 4e 75 1f 0f 00 2b 00 02 03 04"), api.ErrForm)
}

// P14.2: all of a chain's texts are told in their order, whatever stands within them, vectors among it.
func TestReadCerts(t *testing.T) {
	inner := "\x00\x00\x01a\x00\x00"
	for _, certs := range [][]string{{"a"}, {inner}, {inner, inner}, {"\x00\x00", "\x00"}, {"a", "b", "c", "d"}, {"d", "c", "b", "a"}, {zeros(2048), zeros(1)}, {inner + inner, "a", inner}} {
		m := api.Msg{Kind: api.HsCert, Certs: certs}
		got, rest, e := hand.Read(written(m) + "\x00")
		if !slices.Equal(got.Certs, certs) || !isSame(got, m) || rest != "\x00" || e != api.OK {
			t.Errorf("Read of %q = %+v, %q, %v", certs, got, rest, e)
		}
	}
}

// joined is messages one behind the other, by the chapter's words.
func joined(l []api.Msg) string {
	var out strings.Builder
	for _, m := range l {
		out.WriteString(written(m))
	}
	return out.String()
}

// some are so many messages of all kinds.
func some(n int) []api.Msg {
	r := rand.New(rand.NewSource(int64(n)))
	var out []api.Msg
	for range n {
		out = append(out, drawnMsg(r))
	}
	return out
}

// P14.2: All of nothing, of one message, of 32 and of 33, and of all numbers between and of some above.
func TestAll(t *testing.T) {
	if list, left, e := hand.All(""); len(list) != 0 || left != "" || e != api.OK {
		t.Errorf("All of nothing = %v, %q, %v", list, left, e)
	}
	for n := range 40 {
		fault := api.OK
		if n > 32 {
			fault = api.ErrMany
		}
		l := some(n)
		s := joined(l)
		holdAll(t, s, fault)
		if got, left, e := hand.All(s); n <= 32 && (!slices.EqualFunc(got, l, isSame) || left != "" || e != api.OK) {
			t.Errorf("All of %d messages = %d, %d left, %v", n, len(got), len(left), e)
		}
		holdAll(t, strings.Repeat(written(plain(20)), n), fault)
		holdAll(t, strings.Repeat(written(least(15)), n), fault)
	}
	for _, n := range []int{63, 64, 65, 100, 1000} {
		holdAll(t, joined(some(n)), api.ErrMany)
	}
}

// P14.2: whole messages with the beginning of another behind: they are told, and it is what is left.
func TestAllLeavesRest(t *testing.T) {
	beginnings := []string{"\x01", "\x14", "\x14\x00", "\x14\x00\x00", "\x14\x00\x00\x20", "\x14\x00\x00\x20abc", "\x08\x00\x40\x00", "\x0b\x00\x40\x00" + zeros(16383)}
	for _, m := range samples() {
		s := written(m)
		beginnings = append(beginnings, s[:1], s[:4], s[:len(s)/2], s[:len(s)-1])
	}
	for _, n := range []int{0, 1, 2, 31, 32, 33, 34, 70} {
		l := some(n)
		for _, rest := range beginnings {
			if n > 32 {
				holdAll(t, joined(l)+rest, api.ErrMany)
				continue
			}
			holdAll(t, joined(l)+rest, api.OK)
			if got, left, e := hand.All(joined(l) + rest); !slices.EqualFunc(got, l, isSame) || left != rest || e != api.OK {
				t.Errorf("All of %d messages and %s = %d, %s left, %v", n, hexed(rest), len(got), hexed(left), e)
			}
		}
	}
}

// P14.2: a text that ends at each place: what is whole there is told, and the rest is left.
func TestAllEnds(t *testing.T) {
	l := []api.Msg{plain(2), least(8), plain(11), plain(15), plain(20), least(1)}
	s := joined(l)
	for end := range len(s) + 1 {
		whole := 0
		for whole < len(l) && len(joined(l[:whole+1])) <= end {
			whole++
		}
		ahead := len(joined(l[:whole]))
		got, left, e := hand.All(s[:end])
		if !slices.EqualFunc(got, l[:whole], isSame) || left != s[ahead:end] || e != api.OK {
			t.Fatalf("All of the first %d bytes = %d messages, %d left, %v; want %d, %d left", end, len(got), len(left), e, whole, end-ahead)
		}
		if again, more, e := hand.All(left + s[end:]); !slices.EqualFunc(again, l[whole:], isSame) || more != "" || e != api.OK {
			t.Fatalf("All of the rest at %d = %d messages, %d left, %v", end, len(again), len(more), e)
		}
	}
}

// P14.2, rules 0.2 and 0.3: an error of another kind behind messages, or ahead of them: there are none then, and nothing is left; it comes ahead of there being too many.
func TestAllFaults(t *testing.T) {
	faults := []struct {
		s string
		e api.Errno
	}{
		{"\x00", api.ErrKind}, {"\x03", api.ErrKind}, {"\xff\x01", api.ErrKind}, {"\x04\x00\x00\x00", api.ErrKind},
		{"\x14\x01", api.ErrLong}, {"\x01\x00\x41", api.ErrLong}, {"\x02\x00\x40\x01", api.ErrLong},
		{"\x14\x00\x00\x00", api.ErrForm}, {"\x08\x00\x00\x01a", api.ErrForm}, {headed(20, zeros(31)), api.ErrForm}, {headed(20, zeros(33)), api.ErrForm}, {headed(11, zeros(16384)), api.ErrForm},
	}
	for _, n := range []int{0, 1, 2, 31, 32, 33, 34, 100} {
		ahead := joined(some(n))
		for _, f := range faults {
			holdAll(t, ahead+f.s, f.e)
			if list, left, e := hand.All(ahead + f.s); len(list) != 0 || left != "" || e != f.e {
				t.Errorf("All of %d messages and %s = %d, %d left, %v; want none, %v", n, hexed(f.s), len(list), len(left), e, f.e)
			}
			if f.e != api.ErrLong { // the bytes behind are another's then
				holdAll(t, ahead+f.s+joined(some(3)), f.e)
			}
		}
		holdAll(t, ahead+faults[0].s+faults[4].s, api.ErrKind)
		holdAll(t, ahead+faults[4].s+faults[0].s, api.ErrLong)
		holdAll(t, ahead+faults[7].s+faults[0].s, api.ErrForm)
	}
}

// P14.5: All of two texts that are whole messages, one behind the other, is the messages of both.
func TestAllOfBoth(t *testing.T) {
	for i := range 34 {
		for _, j := range []int{0, 1, 2, 5, 16, 31, 32, 33} {
			a, b := joined(some(i)), joined(some(j))
			first, _, e := hand.All(a)
			second, _, f := hand.All(b)
			both, left, g := hand.All(a + b)
			if i+j > 32 {
				if len(both) != 0 || left != "" || g != api.ErrMany {
					t.Errorf("All of %d and %d = %d, %d left, %v", i, j, len(both), len(left), g)
				}
				continue
			}
			if want := slices.Concat(first, second); len(want) != i+j || !slices.EqualFunc(both, want, isSame) || left != "" || e != api.OK || f != api.OK || g != api.OK {
				t.Errorf("All of %d and %d = %d, %d left, %v, %v, %v", i, j, len(both), len(left), e, f, g)
			}
		}
	}
}

// Rule 0.5: what was told is its caller's: who changes it changes nothing of what is told later, nor of another message of the same answer.
func TestToldIsNewMemory(t *testing.T) {
	m := plain(11)
	s := written(m) + written(m)
	list, _, e := hand.All(s)
	if e != api.OK || len(list) != 2 {
		t.Fatalf("All = %d, %v", len(list), e)
	}
	first, _, _ := hand.Read(s)
	for i := range list[0].Certs {
		list[0].Certs[i] = "gone"
	}
	_ = append(list[0].Certs[:1], "gone", "gone", "gone")
	second, _, _ := hand.Read(s)
	again, _, _ := hand.All(s)
	if !isSame(list[1], m) || !isSame(first, m) || !isSame(second, m) || len(again) != 2 || !isSame(again[0], m) || !isSame(again[1], m) {
		t.Error("what was told has changed")
	}
	list[1] = api.Msg{Kind: 99}
	if third, _, _ := hand.All(s); len(third) != 2 || !isSame(third[1], m) {
		t.Error("what was told has changed")
	}
}

// Rule 0.1: texts of all kinds of bytes, the most of them no message: Read and All tell what the words say.
func TestAnyBytes(t *testing.T) {
	r := rand.New(rand.NewSource(4))
	for i := range 20000 {
		s := drawn(int64(i), r.Intn(200))
		if i%2 == 0 {
			s = headed(kinds()[r.Intn(6)], s)
		}
		if i%4 == 0 {
			m := drawnMsg(r)
			s = written(m)
			s = s[:4+r.Intn(len(s)-3)]
			s = headed(m.Kind, s[4:]+drawn(int64(i), r.Intn(40)))
		}
		e := likeWords(t, s)
		backAndThere(t, s)
		if _, _, f := allByWords(s); e == api.OK || e == api.ErrShort {
			holdAll(t, s, f)
		} else {
			holdAll(t, s, e)
		}
	}
}

// FuzzRead looks for texts that are read otherwise than by the chapter's words, or are not what Write writes.
func FuzzRead(f *testing.F) {
	f.Add("")
	f.Add("\x03")
	f.Add("\x14\x01")
	f.Add("\x01\x00\x41")
	f.Add("\x0f\x00\x40\x01")
	for _, m := range samples() {
		f.Add(written(m))
		f.Add(written(m) + "behind")
	}
	for _, text := range wrongInts() {
		f.Add(signed(tagged(48, "\x02\x01\x05"+text)))
	}
	f.Fuzz(func(t *testing.T, s string) {
		likeWords(t, s)
		backAndThere(t, s)
	})
}

// FuzzAll looks for texts whose messages are told otherwise than by the chapter's words.
func FuzzAll(f *testing.F) {
	f.Add("", 0)
	f.Add("\x14\x00\x00\x20", 3)
	f.Add("\x14\x01", 33)
	f.Add(joined(samples()), 2)
	f.Add(written(plain(20)), 32)
	f.Add(written(plain(20)), 33)
	f.Fuzz(func(t *testing.T, s string, n int) {
		for _, text := range []string{s, strings.Repeat(written(least(8)), max(0, min(n, 40))) + s, strings.Repeat(s, max(0, min(n, 40)))} {
			_, _, e := allByWords(text)
			holdAll(t, text, e)
		}
	})
}
