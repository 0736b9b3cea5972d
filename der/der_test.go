package der_test

import (
	"encoding/asn1"
	"encoding/hex"
	"math"
	"math/rand"
	"slices"
	"strings"
	"sync"
	"testing"

	"pendulum/api"
	"pendulum/der"
)

const (
	mostBytes = 65535
	mostTags  = 64
)

// drawn is a text that is the same in every run.
func drawn(seed int64, size int) string {
	out := make([]byte, size)
	rand.New(rand.NewSource(seed)).Read(out)
	return string(out)
}

func unhexed(t testing.TB, digits string) string {
	t.Helper()
	out, err := hex.DecodeString(strings.ReplaceAll(digits, " ", ""))
	if err != nil {
		t.Fatal(err)
	}
	return string(out)
}

// hexed is a text to be told; of a long one its beginning and its length are enough.
func hexed(s string) string {
	if len(s) > 40 {
		return hex.EncodeToString([]byte(s[:40])) + "..(" + hex.EncodeToString([]byte{byte(len(s) >> 16), byte(len(s) >> 8), byte(len(s))}) + " bytes)"
	}
	return hex.EncodeToString([]byte(s))
}

func bytesOf(list ...int) string {
	out := make([]byte, len(list))
	for i, b := range list {
		out[i] = byte(b)
	}
	return string(out)
}

// texts visits all texts of some bytes, from none to as many as are told.
func texts(of string, most int, visit func(string)) {
	list := []string{""}
	for size := 0; ; size++ {
		var longer []string
		for _, s := range list {
			visit(s)
			for i := range len(of) {
				longer = append(longer, s+of[i:i+1])
			}
		}
		if size == most {
			return
		}
		list = longer
	}
}

// head is what stands ahead of so many bytes, by the chapter's words.
func head(tag, n int) string {
	switch {
	case n <= 127:
		return bytesOf(tag, n)
	case n <= 255:
		return bytesOf(tag, 129, n)
	default:
		return bytesOf(tag, 130, n/256, n%256)
	}
}

// sizes are numbers of bytes at which the length's form turns.
func sizes() []int {
	return []int{0, 1, 2, 126, 127, 128, 129, 130, 131, 200, 254, 255, 256, 257, 383, 384, 511, 512, 32767, 32768, 65279, 65280, 65534, 65535}
}

func mustWrite(t testing.TB, tlv api.Tlv) string {
	t.Helper()
	s, e := der.Write(tlv)
	if e != api.OK {
		t.Fatalf("Write(%d, %s) = %v", tlv.Tag, hexed(tlv.Body), e)
	}
	return s
}

func mustRead(t testing.TB, s string, want api.Tlv, behind string) {
	t.Helper()
	got, rest, e := der.Read(s)
	if got != want || rest != behind || e != api.OK {
		t.Fatalf("Read(%s) = %d %s, %s, %v; want %d %s, %s", hexed(s), got.Tag, hexed(got.Body), hexed(rest), e, want.Tag, hexed(want.Body), hexed(behind))
	}
}

func mustNotRead(t testing.TB, s string, want api.Errno) {
	t.Helper()
	got, rest, e := der.Read(s)
	if got != (api.Tlv{}) || rest != "" || e != want {
		t.Fatalf("Read(%s) = %d %s, %s, %v; want nothing, %v", hexed(s), got.Tag, hexed(got.Body), hexed(rest), e, want)
	}
}

// The chapter's example of a tag.
func TestExample(t *testing.T) {
	if s := mustWrite(t, api.Tlv{Tag: api.TagInt, Body: "\x05"}); s != "\x02\x01\x05" {
		t.Errorf("Write(TagInt, 5) = %s", hexed(s))
	}
	mustRead(t, "\x02\x01\x05", api.Tlv{Tag: api.TagInt, Body: "\x05"}, "")
}

// P11.1: every tag from 0 to 255 is written as its byte, and read again.
func TestEveryTag(t *testing.T) {
	for tag := range 256 {
		want := api.Tlv{Tag: tag, Body: "ab"}
		s := mustWrite(t, want)
		if s != bytesOf(tag, 2, 'a', 'b') {
			t.Errorf("Write(%d, ab) = %s", tag, hexed(s))
		}
		mustRead(t, s, want, "")
	}
}

// P11.1: lengths are written in as few bytes as can be, the high one first.
func TestWriteLengths(t *testing.T) {
	all := drawn(1, mostBytes)
	list := sizes()
	for n := range 1100 {
		list = append(list, n)
	}
	for n := 1100; n <= mostBytes; n += 509 {
		list = append(list, n)
	}
	for _, n := range list {
		s := mustWrite(t, api.Tlv{Tag: api.TagBytes, Body: all[:n]})
		if want := head(api.TagBytes, n) + all[:n]; s != want {
			t.Fatalf("Write of %d bytes = %s, want %s", n, hexed(s), hexed(want))
		}
	}
}

// P11.1: what Write refuses: a tag ahead of a length.
func TestWriteRefuses(t *testing.T) {
	for _, c := range []struct {
		tag, size int
		e         api.Errno
	}{
		{-1, 0, api.ErrNumber}, {256, 0, api.ErrNumber}, {257, 3, api.ErrNumber}, {-256, 3, api.ErrNumber}, {512, 3, api.ErrNumber},
		{math.MinInt, 0, api.ErrNumber}, {math.MaxInt, 0, api.ErrNumber},
		{0, mostBytes, api.OK}, {255, mostBytes, api.OK},
		{0, mostBytes + 1, api.ErrLong}, {255, mostBytes + 1, api.ErrLong}, {48, mostBytes + 257, api.ErrLong}, {48, 1 << 20, api.ErrLong},
		{-1, mostBytes, api.ErrNumber}, {-1, mostBytes + 1, api.ErrNumber}, {256, mostBytes + 1, api.ErrNumber},
	} {
		s, e := der.Write(api.Tlv{Tag: c.tag, Body: strings.Repeat("x", c.size)})
		if e != c.e || e != api.OK && s != "" {
			t.Errorf("Write(%d, %d bytes) = %s, %v, want %v", c.tag, c.size, hexed(s), e, c.e)
		}
	}
}

// P11.1: texts written out, whole ones and ones with a fault.
func TestRead(t *testing.T) {
	for _, c := range []struct {
		name, s string
		want    api.Tlv
		behind  string
		e       api.Errno
	}{
		{"nothing", "", api.Tlv{}, "", api.ErrShort},
		{"a tag alone", "30", api.Tlv{}, "", api.ErrShort},
		{"a tag 0 without bytes", "00 00", api.Tlv{}, "", api.OK},
		{"a tag without bytes", "05 00", api.Tlv{Tag: 5}, "", api.OK},
		{"a tag without bytes, others behind", "05 00 00 05", api.Tlv{Tag: 5}, "00 05", api.OK},
		{"one byte", "02 01 05", api.Tlv{Tag: 2, Body: "05"}, "", api.OK},
		{"one byte, half a tag behind", "02 01 05 02", api.Tlv{Tag: 2, Body: "05"}, "02", api.OK},
		{"a tag within a tag", "30 03 02 01 05 ff", api.Tlv{Tag: 48, Body: "02 01 05"}, "ff", api.OK},
		{"what the tag has is of no form", "30 02 80 80", api.Tlv{Tag: 48, Body: "80 80"}, "", api.OK},
		{"a greatest tag", "ff 01 ff", api.Tlv{Tag: 255, Body: "ff"}, "", api.OK},
		{"a tag that elsewhere goes on", "1f 01 ff", api.Tlv{Tag: 31, Body: "ff"}, "", api.OK},
		{"no byte of one", "02 01", api.Tlv{}, "", api.ErrShort},
		{"one byte of two", "02 02 05", api.Tlv{}, "", api.ErrShort},
		{"no byte of 127", "02 7f", api.Tlv{}, "", api.ErrShort},
		{"128 alone", "30 80", api.Tlv{}, "", api.ErrForm},
		{"128 with an end", "30 80 00 00", api.Tlv{}, "", api.ErrForm},
		{"129 alone", "30 81", api.Tlv{}, "", api.ErrShort},
		{"129, and 0", "30 81 00", api.Tlv{}, "", api.ErrForm},
		{"129, and 127, and nothing", "30 81 7f", api.Tlv{}, "", api.ErrForm},
		{"129, and 1, and that byte", "30 81 01 aa", api.Tlv{}, "", api.ErrForm},
		{"129, and 128, and nothing", "30 81 80", api.Tlv{}, "", api.ErrShort},
		{"130 alone", "30 82", api.Tlv{}, "", api.ErrShort},
		{"130, and a high byte", "30 82 01", api.Tlv{}, "", api.ErrShort},
		{"130, and a high byte 0, which is no length yet", "30 82 00", api.Tlv{}, "", api.ErrShort},
		{"130, and 0", "30 82 00 00", api.Tlv{}, "", api.ErrForm},
		{"130, and 1, and that byte", "30 82 00 01 aa", api.Tlv{}, "", api.ErrForm},
		{"130, and 255, and nothing", "30 82 00 ff", api.Tlv{}, "", api.ErrForm},
		{"130, and 256, and nothing", "30 82 01 00", api.Tlv{}, "", api.ErrShort},
		{"131 alone", "30 83", api.Tlv{}, "", api.ErrForm},
		{"131, and a length of three", "30 83 01 00 00", api.Tlv{}, "", api.ErrForm},
		{"132", "30 84 00 00 00 01 aa", api.Tlv{}, "", api.ErrForm},
		{"255 alone", "30 ff", api.Tlv{}, "", api.ErrForm},
	} {
		c.want.Body = unhexed(t, c.want.Body)
		got, rest, e := der.Read(unhexed(t, c.s))
		if got != c.want || rest != unhexed(t, c.behind) || e != c.e {
			t.Errorf("%s: Read(%s) = %d %s, %s, %v; want %d %s, %s, %v", c.name, c.s, got.Tag, hexed(got.Body), hexed(rest), e, c.want.Tag, hexed(c.want.Body), c.behind, c.e)
		}
	}
}

// P11.1: a text that ends within the tag, the length or what the tag has is short, wherever that is.
func TestReadEnds(t *testing.T) {
	for _, n := range sizes() {
		want := api.Tlv{Tag: api.TagSeq, Body: drawn(int64(n), n)}
		s := mustWrite(t, want)
		step := max(1, n/300)
		for end := 0; end < len(s); end += step {
			mustNotRead(t, s[:end], api.ErrShort)
		}
		for end := range min(len(s), 10) {
			mustNotRead(t, s[:end], api.ErrShort)
		}
		mustNotRead(t, s[:len(s)-1], api.ErrShort)
		mustRead(t, s, want, "")
		for _, behind := range []string{"\x00", "0", s, drawn(2, 70000)} {
			mustRead(t, s+behind, want, behind)
		}
	}
}

// P11.1: of all second bytes, alone and with very much behind them.
func TestEverySecondByte(t *testing.T) {
	for b := range 256 {
		text := bytesOf(48, b)
		much := drawn(int64(b), 70000)
		switch {
		case b == 0:
			mustRead(t, text, api.Tlv{Tag: 48}, "")
		case b < 128 || b == 129 || b == 130:
			mustNotRead(t, text, api.ErrShort)
		default:
			mustNotRead(t, text, api.ErrForm)
			mustNotRead(t, text+much, api.ErrForm)
			mustNotRead(t, text+"\x00", api.ErrForm)
			mustNotRead(t, text+"\x00\x00\x00", api.ErrForm)
		}
		if b < 128 {
			mustRead(t, text+much, api.Tlv{Tag: 48, Body: much[:b]}, much[b:])
		}
	}
}

// P11.1: all lengths behind 129 and 130: those that could stand in fewer bytes are of no form, whether what they tell is there or not.
func TestEveryLength(t *testing.T) {
	much := drawn(1, 65600)
	for n := range 256 {
		text := bytesOf(4, 129, n)
		if n < 128 {
			mustNotRead(t, text, api.ErrForm)
			mustNotRead(t, text+much, api.ErrForm)
			continue
		}
		mustNotRead(t, text, api.ErrShort)
		mustNotRead(t, text+much[:n-1], api.ErrShort)
		mustRead(t, text+much[:n], api.Tlv{Tag: 4, Body: much[:n]}, "")
	}
	for n := range 65536 {
		text := bytesOf(4, 130, n/256, n%256)
		mustNotRead(t, text[:3], api.ErrShort)
		if n < 256 {
			mustNotRead(t, text, api.ErrForm)
			mustNotRead(t, text+much, api.ErrForm)
			continue
		}
		mustNotRead(t, text, api.ErrShort)
		if n%97 == 0 || n < 300 || n > 65500 {
			mustNotRead(t, text+much[:n-1], api.ErrShort)
			mustRead(t, text+much, api.Tlv{Tag: 4, Body: much[:n]}, much[n:])
		}
	}
}

// readByWords is what Read should tell: the first fault from the left, each at the place where it is read.
func readByWords(s string) (api.Tlv, string, api.Errno) {
	at := func(i int) int {
		if i < len(s) {
			return int(s[i])
		}
		return -1
	}
	n, from := at(1), 2
	switch {
	case n == 129:
		n, from = at(2), 3
		if n >= 0 && n < 128 {
			return api.Tlv{}, "", api.ErrForm
		}
	case n == 130 && at(3) < 0:
		n = -1
	case n == 130:
		n, from = 256*at(2)+at(3), 4
		if n < 256 {
			return api.Tlv{}, "", api.ErrForm
		}
	case n >= 128:
		return api.Tlv{}, "", api.ErrForm
	}
	if n < 0 || from+n > len(s) {
		return api.Tlv{}, "", api.ErrShort
	}
	return api.Tlv{Tag: at(0), Body: s[from : from+n]}, s[from+n:], api.OK
}

// P11.1, P11.6: all short texts of bytes at which something turns: what is read is as the words say, and is written as it stood.
func TestShortTexts(t *testing.T) {
	count := 0
	texts("\x00\x01\x02\x7f\x80\x81\x82\x83\xff", 5, func(s string) {
		got, rest, e := der.Read(s)
		want, behind, fault := readByWords(s)
		if got != want || rest != behind || e != fault {
			t.Fatalf("Read(%s) = %d %s, %s, %v; want %d %s, %s, %v", hexed(s), got.Tag, hexed(got.Body), hexed(rest), e, want.Tag, hexed(want.Body), hexed(behind), fault)
		}
		if e == api.OK {
			count++
			if back := mustWrite(t, got) + rest; back != s {
				t.Fatalf("Write of what is read of %s = %s", hexed(s), hexed(back))
			}
		}
	})
	if count < 1000 {
		t.Errorf("only %d texts were read", count)
	}
}

// P11.1: what Go's own library reads is read alike, and what it refuses is refused.
func TestLikeTheLibrary(t *testing.T) {
	for i := range int64(20000) {
		s := drawn(i, 2+int(i)%300)
		switch i % 4 {
		case 1:
			s = s[:1] + bytesOf(129, 120+int(i/4)%16) + s[1:]
		case 2:
			s = s[:1] + bytesOf(130, int(i/4)%3) + s[1:]
		case 3:
			s = s[:1] + bytesOf(int(i/4)%132) + s[1:]
		}
		if s[0]&31 == 31 || len(s) > 1 && s[1] > 130 { // there tags go on, and lengths may have more bytes
			continue
		}
		var raw asn1.RawValue
		rest, err := asn1.Unmarshal([]byte(s), &raw)
		if err != nil {
			if got, _, e := der.Read(s); e == api.OK {
				t.Errorf("Read(%s) = %s; the library says %v", hexed(s), hexed(got.Body), err)
			}
			continue
		}
		mustRead(t, s, api.Tlv{Tag: int(s[0]), Body: string(raw.Bytes)}, string(rest))
	}
}

// P11.6: what is written is read as it was, of all tags and lengths.
func TestWrittenIsRead(t *testing.T) {
	for i, n := range sizes() {
		for tag := i % 7; tag < 256; tag += 7 {
			want := api.Tlv{Tag: tag, Body: drawn(int64(tag), n)}
			mustRead(t, mustWrite(t, want), want, "")
		}
	}
}

// P11.7: what stands behind is told as it is, and changes nothing of what stands ahead of it.
func TestWhatStandsBehind(t *testing.T) {
	behinds := []string{"\x00", "\x80", "\x81", "\x82\x01", "\xff\xff\xff", "\x02\x01\x05", "\x02\x05", strings.Repeat("\x00", 70000), drawn(1, 300)}
	texts("\x00\x01\x02\x80\x81\x82\xff", 4, func(s string) {
		want, rest, e := der.Read(s)
		for _, behind := range behinds {
			switch e {
			case api.OK:
				mustRead(t, s+behind, want, rest+behind)
			case api.ErrForm:
				mustNotRead(t, s+behind, api.ErrForm)
			}
		}
		if e == api.ErrShort && s != "" { // who waits for more bytes had to wait ahead of the last one too
			mustNotRead(t, s[:len(s)-1], api.ErrShort)
		}
	})
	for _, n := range sizes() {
		want := api.Tlv{Tag: 49, Body: drawn(3, n)}
		for _, behind := range behinds {
			mustRead(t, mustWrite(t, want)+behind, want, behind)
		}
	}
}

// rowOf is so many tags, of all kinds, each with up to 6 bytes.
func rowOf(n int) []api.Tlv {
	var out []api.Tlv
	for i := range n {
		out = append(out, api.Tlv{Tag: (i * 37) % 256, Body: drawn(int64(i), i%7)})
	}
	return out
}

// joined is tags one behind the other, by the chapter's words.
func joined(l []api.Tlv) string {
	s := ""
	for _, x := range l {
		s += head(x.Tag, len(x.Body)) + x.Body
	}
	return s
}

func mustAll(t testing.TB, s string, want []api.Tlv) {
	t.Helper()
	got, e := der.All(s)
	if !slices.Equal(got, want) || e != api.OK {
		t.Fatalf("All(%s) = %d tags, %v; want %d", hexed(s), len(got), e, len(want))
	}
}

func mustNotAll(t testing.TB, s string, want api.Errno) {
	t.Helper()
	got, e := der.All(s)
	if len(got) != 0 || e != want {
		t.Fatalf("All(%s) = %d tags, %v; want none, %v", hexed(s), len(got), e, want)
	}
}

// P11.2: All reads up to 64 tags, and refuses more.
func TestAll(t *testing.T) {
	for n := range mostTags + 1 {
		mustAll(t, joined(rowOf(n)), rowOf(n))
	}
	for _, n := range []int{65, 66, 127, 128, 129, 1000} {
		mustNotAll(t, joined(rowOf(n)), api.ErrMany)
	}
	mustAll(t, strings.Repeat("\x00\x00", 64), make([]api.Tlv, 64))
	mustNotAll(t, strings.Repeat("\x00\x00", 65), api.ErrMany)
	inner := api.Tlv{Tag: 48, Body: joined(rowOf(100))} // those within a tag are not counted
	mustAll(t, joined([]api.Tlv{inner, inner}), []api.Tlv{inner, inner})
	long := api.Tlv{Tag: 4, Body: drawn(1, mostBytes)}
	mustAll(t, joined([]api.Tlv{long, {Tag: 5}, long}), []api.Tlv{long, {Tag: 5}, long})
}

// P11.2: the first error is the answer, with no tag beside it, and ahead of there being too many.
func TestAllFaults(t *testing.T) {
	faults := []struct {
		s string
		e api.Errno
	}{
		{"\x02", api.ErrShort}, {"\x02\x01", api.ErrShort}, {"\x02\x81", api.ErrShort}, {"\x02\x82\x01", api.ErrShort}, {"\x02\x82\x01\x00\x00", api.ErrShort},
		{"\x02\x80", api.ErrForm}, {"\x02\x83", api.ErrForm}, {"\x02\x81\x7f", api.ErrForm}, {"\x02\x82\x00\xff", api.ErrForm},
		{"\x02\x80\x02\x01", api.ErrForm}, {"\x02\x7f\x02\x80", api.ErrShort},
	}
	for _, n := range []int{0, 1, 2, 63, 64, 65, 66, 200} {
		for _, f := range faults {
			mustNotAll(t, joined(rowOf(n))+f.s, f.e)
		}
		mustNotAll(t, joined(rowOf(n))+"\x02\x80"+joined(rowOf(70)), api.ErrForm)
	}
}

// P11.2: every text's end: All tells what is there up to where a tag ends, and else that it is short.
func TestAllEnds(t *testing.T) {
	l := rowOf(20)
	s := joined(l)
	whole := map[int]int{}
	for n := range l {
		whole[len(joined(l[:n]))] = n
	}
	for end := range len(s) {
		if n, ok := whole[end]; ok {
			mustAll(t, s[:end], l[:n])
		} else {
			mustNotAll(t, s[:end], api.ErrShort)
		}
	}
}

func mustRow(t testing.TB, tag int, l []api.Tlv) api.Tlv {
	t.Helper()
	got, e := der.Row(tag, l)
	if want := (api.Tlv{Tag: tag, Body: joined(l)}); got != want || e != api.OK {
		t.Fatalf("Row(%d, %d tags) = %d %s, %v; want %s", tag, len(l), got.Tag, hexed(got.Body), e, hexed(want.Body))
	}
	return got
}

// P11.2: Row has what Write writes of each, one behind the other.
func TestRow(t *testing.T) {
	for n := range mostTags + 1 {
		mustRow(t, api.TagSeq, rowOf(n))
	}
	for tag := range 256 {
		mustRow(t, tag, rowOf(3))
	}
	mustRow(t, 0, nil)
	mustRow(t, 255, []api.Tlv{})
	mustRow(t, api.TagSeq, make([]api.Tlv, 64))
	for _, n := range sizes() {
		if n <= mostBytes-4 {
			mustRow(t, api.TagSet, []api.Tlv{{Tag: 4, Body: drawn(1, n)}})
		}
	}
}

// P11.2: up to 65535 bytes stand together, the tags' own and their lengths' among them.
func TestRowLength(t *testing.T) {
	for _, lead := range []int{0, 1, 10, 63} {
		l := rowOf(lead)
		fill := mostBytes - len(joined(l)) - 4
		most := append(slices.Clone(l), api.Tlv{Tag: 4, Body: drawn(1, fill)})
		if len(mustRow(t, api.TagSeq, most).Body) != mostBytes {
			t.Fatalf("a row of %d tags has not %d bytes", len(most), mostBytes)
		}
		for _, more := range []int{1, 2, 4} {
			l := append(slices.Clone(l), api.Tlv{Tag: 4, Body: drawn(1, fill+more)})
			mustNotRow(t, api.TagSeq, l, api.ErrLong)
		}
	}
	half := api.Tlv{Tag: 4, Body: drawn(1, 32768)}
	mustNotRow(t, api.TagSeq, []api.Tlv{half, half}, api.ErrLong)
	long := api.Tlv{Tag: 4, Body: drawn(1, mostBytes)}
	mustNotRow(t, api.TagSeq, []api.Tlv{long}, api.ErrLong)
	mustNotRow(t, api.TagSeq, slices.Repeat([]api.Tlv{long}, 64), api.ErrLong)
}

func mustNotRow(t testing.TB, tag int, l []api.Tlv, want api.Errno) {
	t.Helper()
	got, e := der.Row(tag, l)
	if got != (api.Tlv{}) || e != want {
		t.Fatalf("Row(%d, %d tags) = %d %s, %v; want none, %v", tag, len(l), got.Tag, hexed(got.Body), e, want)
	}
}

// P11.2: which error comes ahead of which: Write's of the first that has one, too many, too long, the row's own tag.
func TestRowFaults(t *testing.T) {
	low, great := api.Tlv{Tag: -1}, api.Tlv{Tag: 256, Body: "x"}
	over := api.Tlv{Tag: 4, Body: drawn(1, mostBytes+1)}
	both := api.Tlv{Tag: 256, Body: over.Body}
	half := api.Tlv{Tag: 4, Body: drawn(1, 40000)}
	with := func(n int, more ...api.Tlv) []api.Tlv { return append(rowOf(n), more...) }
	for _, c := range []struct {
		name string
		tag  int
		l    []api.Tlv
		e    api.Errno
	}{
		{"a tag below 0", 48, with(3, low), api.ErrNumber},
		{"a tag above 255", 48, with(3, great), api.ErrNumber},
		{"a tag of too many bytes", 48, with(3, over), api.ErrLong},
		{"a tag that is wrong in both", 48, with(3, both), api.ErrNumber},
		{"a wrong tag ahead of a long one", 48, with(3, low, over), api.ErrNumber},
		{"a long one ahead of a wrong tag", 48, with(3, over, low), api.ErrLong},
		{"a wrong tag behind 64", 48, with(64, low), api.ErrNumber},
		{"a long one behind 64", 48, with(64, over), api.ErrLong},
		{"a wrong tag behind 100", 48, with(100, great), api.ErrNumber},
		{"a wrong tag behind bytes that are too many together", 48, with(0, half, half, low), api.ErrNumber},
		{"65, and too long together", 48, with(63, half, half), api.ErrMany},
		{"65 long ones", 48, slices.Repeat([]api.Tlv{half}, 65), api.ErrMany},
		{"65", 48, with(65), api.ErrMany},
		{"65 without bytes", 48, make([]api.Tlv, 65), api.ErrMany},
		{"1000", 48, with(1000), api.ErrMany},
		{"65 in no tag", 256, with(65), api.ErrMany},
		{"65 in a tag below 0", -1, with(65), api.ErrMany},
		{"too long together in no tag", 256, with(0, half, half), api.ErrLong},
		{"too long together in a tag below 0", -1, with(0, half, half), api.ErrLong},
		{"64 in no tag", 256, with(64), api.ErrNumber},
		{"none in no tag", 256, nil, api.ErrNumber},
		{"none in a tag below 0", -1, nil, api.ErrNumber},
		{"none in the greatest number", math.MaxInt, nil, api.ErrNumber},
		{"none in the least number", math.MinInt, nil, api.ErrNumber},
		{"a long one in no tag", 256, with(1, over), api.ErrLong},
	} {
		got, e := der.Row(c.tag, c.l)
		if got != (api.Tlv{}) || e != c.e {
			t.Errorf("%s: Row = %d %s, %v; want none, %v", c.name, got.Tag, hexed(got.Body), e, c.e)
		}
	}
}

// P11.6: All of a row's bytes is the row, and the row of what All tells has the bytes.
func TestRowsThereAndBack(t *testing.T) {
	for n := range mostTags + 1 {
		row := mustRow(t, api.TagSeq, rowOf(n))
		mustAll(t, row.Body, rowOf(n))
		mustRead(t, mustWrite(t, row)+"behind", row, "behind")
	}
	count := 0
	texts("\x00\x01\x02\x81\xff", 7, func(s string) {
		l, e := der.All(s)
		if e != api.OK {
			return
		}
		count++
		if row, e := der.Row(1, l); row.Body != s || e != api.OK {
			t.Fatalf("Row of All(%s) = %s, %v", hexed(s), hexed(row.Body), e)
		}
	})
	if count < 1000 {
		t.Errorf("only %d texts were read", count)
	}
}

// P11.6: the five kinds within one another, as a certificate has them.
func TestFiveKinds(t *testing.T) {
	n := api.Num{1, 2, 3, 1 << 63}
	oid, _ := der.Oid([]uint32{1, 2, 840, 10045, 4, 3, 2})
	when, _ := der.Time(951782400)
	row := mustRow(t, api.TagSeq, []api.Tlv{{Tag: api.TagInt, Body: der.Int(n)}, {Tag: api.TagOid, Body: oid}, {Tag: api.TagTime, Body: when}})
	back, rest, e := der.Read(mustWrite(t, row))
	if back != row || rest != "" || e != api.OK {
		t.Fatalf("Read of a row = %d %s, %s, %v", back.Tag, hexed(back.Body), hexed(rest), e)
	}
	l, e := der.All(back.Body)
	if len(l) != 3 || e != api.OK {
		t.Fatalf("All = %d tags, %v", len(l), e)
	}
	if m, e := der.ToInt(l[0].Body); m != n || e != api.OK {
		t.Errorf("ToInt = %v, %v", m, e)
	}
	if o, e := der.ToOid(l[1].Body); !slices.Equal(o, []uint32{1, 2, 840, 10045, 4, 3, 2}) || e != api.OK {
		t.Errorf("ToOid = %v, %v", o, e)
	}
	if s, e := der.ToTime(l[2].Body); s != 951782400 || e != api.OK {
		t.Errorf("ToTime = %v, %v", s, e)
	}
}

// Rule 0.5: lists that go in are not changed, nor what stands behind them; lists that come out are new ones.
func TestListsAreTheirOwn(t *testing.T) {
	l := rowOf(10)
	mustRow(t, api.TagSeq, l[:5])
	if !slices.Equal(l, rowOf(10)) {
		t.Error("Row changed its list")
	}
	numbers := []uint32{1, 2, 840, 10045, 300000, 5}
	mine := slices.Clone(numbers)
	der.Oid(mine[:4])
	if !slices.Equal(mine, numbers) {
		t.Error("Oid changed its list")
	}
	first, _ := der.All(joined(l))
	first[0] = api.Tlv{Tag: 99}
	_ = append(first[:1], api.Tlv{Tag: 98})
	mustAll(t, joined(l), l)
	a, _ := der.ToOid("\x2a\x03\x04")
	a[0], a[1], a[2] = 7, 7, 7
	if b, e := der.ToOid("\x2a\x03\x04"); !slices.Equal(b, []uint32{1, 2, 3, 4}) || e != api.OK {
		t.Errorf("ToOid, once more, = %v, %v", b, e)
	}
}

// Rule 0.1: no call panics, whatever it is given.
func TestAnyArguments(t *testing.T) {
	try := func(s string) {
		der.Read(s)
		der.All(s)
		der.ToInt(s)
		der.ToOid(s)
		der.ToTime(s)
		for _, tag := range []int{math.MinInt, -1, 0, 48, 255, 256, math.MaxInt} {
			der.Write(api.Tlv{Tag: tag, Body: s})
			der.Row(tag, []api.Tlv{{Tag: tag, Body: s}, {Tag: 1, Body: s}})
		}
	}
	texts("\x00\x01\x20\x80\x81\xffZ9", 4, try)
	for i := range int64(3000) {
		try(drawn(i, int(i)%400))
	}
	for _, b := range []string{"\x00", "\x01", "\x7f", "\x80", "\x81", "\x82", "\xff", "0", "Z"} {
		try(strings.Repeat(b, 1<<20))
	}
	for n := range 40 {
		der.Oid(make([]uint32, n))
		der.Oid(slices.Repeat([]uint32{math.MaxUint32}, n))
	}
	for _, n := range []int64{math.MinInt64, math.MinInt64 + 1, -1, 0, 1, math.MaxInt64 - 1, math.MaxInt64} {
		der.Time(n)
	}
	der.Oid(nil)
	der.Row(48, make([]api.Tlv, 1<<16))
}

// LANGUAGE.md's rule 8: nothing is kept from call to call, also where many call at once.
func TestManyAtOnce(t *testing.T) {
	var all sync.WaitGroup
	for i := range 8 {
		all.Go(func() {
			for n := range mostTags + 1 {
				l := rowOf(n + i)[i:]
				row, e := der.Row(i, l)
				if got, f := der.All(row.Body); !slices.Equal(got, l) || e != api.OK || f != api.OK {
					t.Errorf("a row of %d, among others, = %d tags, %v, %v", n, len(got), e, f)
				}
			}
		})
	}
	all.Wait()
}

// FuzzRead looks for texts that are read otherwise than by the chapter's words, or not written again as they stood.
func FuzzRead(f *testing.F) {
	for _, s := range []string{"", "\x02\x01\x05", "\x30\x80", "\x30\x81\x80", "\x30\x82\x01\x00", "\x30\x82\x00\x80", "\x30\x03\x02\x01\x05\x05\x00"} {
		f.Add(s)
	}
	f.Add(joined(rowOf(64)))
	f.Add(joined(rowOf(65)))
	f.Fuzz(func(t *testing.T, s string) {
		var l []api.Tlv
		want, fault := s, api.OK
		for want != "" && fault == api.OK {
			got, rest, e := der.Read(want)
			wantTlv, wantRest, wantE := readByWords(want)
			if got != wantTlv || rest != wantRest || e != wantE {
				t.Fatalf("Read(%s) = %d %s, %s, %v; want %d %s, %s, %v", hexed(want), got.Tag, hexed(got.Body), hexed(rest), e, wantTlv.Tag, hexed(wantTlv.Body), hexed(wantRest), wantE)
			}
			l, want, fault = append(l, got), rest, e
		}
		switch {
		case fault != api.OK:
			mustNotAll(t, s, fault)
		case len(l) > mostTags:
			mustNotAll(t, s, api.ErrMany)
		case len(s) > mostBytes:
			mustAll(t, s, l)
			mustNotRow(t, 48, l, api.ErrLong)
		default:
			mustAll(t, s, l)
			if row := mustRow(t, 48, l); row.Body != s {
				t.Fatalf("Row of All(%s) = %s", hexed(s), hexed(row.Body))
			}
		}
	})
}
