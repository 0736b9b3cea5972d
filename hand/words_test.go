package hand_test

import (
	"encoding/asn1"
	"encoding/binary"
	"encoding/hex"
	"math"
	"math/big"
	"math/rand"
	"reflect"
	"slices"
	"strings"
	"testing"

	"pendulum/api"
	"pendulum/hand"
)

// What the chapter's words say, made anew: the tests hold the program against it.

const (
	mostBody     = 16384
	mostMessages = 32
)

// drawn is a text that is the same in every run.
func drawn(seed int64, size int) string {
	out := make([]byte, size)
	rand.New(rand.NewSource(seed)).Read(out)
	return string(out)
}

func zeros(n int) string {
	return strings.Repeat("\x00", n)
}

func hexed(s string) string {
	if len(s) > 300 {
		return hex.EncodeToString([]byte(s[:300])) + ".."
	}
	return hex.EncodeToString([]byte(s))
}

// un is bytes, of digits in base 16.
func un(digits string) string {
	out, err := hex.DecodeString(strings.ReplaceAll(digits, " ", ""))
	if err != nil {
		panic(err)
	}
	return string(out)
}

func bytesOf(list ...int) string {
	var out []byte
	for _, b := range list {
		out = append(out, byte(b))
	}
	return string(out)
}

func value(n api.Num) *big.Int {
	out := new(big.Int)
	for i := 3; i >= 0; i-- {
		out.Lsh(out, 64).Or(out, new(big.Int).SetUint64(n[i]))
	}
	return out
}

func numOf(n *big.Int) api.Num {
	b := n.FillBytes(make([]byte, 32))
	var out api.Num
	for i := range out {
		out[i] = binary.BigEndian.Uint64(b[24-8*i:])
	}
	return out
}

// power is a number of one bit, or, with less, of all bits below it.
func power(bit int, less int64) api.Num {
	n := new(big.Int).Lsh(big.NewInt(1), uint(bit))
	return numOf(n.Sub(n, big.NewInt(less)))
}

func kinds() []int {
	return []int{1, 2, 8, 11, 15, 20}
}

// others are numbers that are no kind: all about the kinds, those that have a kind's lowest bits, and the greatest and the least.
func others() []int {
	out := []int{math.MinInt, math.MinInt32, math.MaxInt32, math.MaxInt}
	for _, k := range kinds() {
		out = append(out, -k, k-256, k+256, k+512, k+1<<16, k+1<<24, k+1<<32, k-1<<32, k+math.MinInt, k<<8)
	}
	for k := -40; k <= 300; k++ {
		if !slices.Contains(kinds(), k) {
			out = append(out, k)
		}
	}
	return out
}

// maker writes bodies by the chapter's words, and counts their vectors. It may tell one of these a length that is wrong, or change what stands within it, so that all lengths are right.
type maker struct {
	count  int
	length map[int]func(int) int
	within map[int]func(string) string
}

func (x *maker) vec(size int, s string) string {
	if change := x.within[x.count]; change != nil {
		s = change(s)
	}
	n := len(s)
	if change := x.length[x.count]; change != nil {
		n = change(n)
	}
	x.count++
	return string(binary.BigEndian.AppendUint32(nil, uint32(n))[4-size:]) + s
}

func (x *maker) alpn(s string) string {
	return un("00 10") + x.vec(2, x.vec(2, x.vec(1, s)))
}

// body is a message's, whether it is fit or not.
func (x *maker) body(m api.Msg) string {
	switch m.Kind {
	case 1:
		session := x.vec(1, m.Session)
		name := x.vec(2, x.vec(2, "\x00"+x.vec(2, m.Name)))
		alpn := x.alpn(m.Alpn)
		return un("03 03") + m.Random + session + un("00 02 13 01 01 00") +
			x.vec(2, un("00 00")+name+un("00 0a 00 04 00 02 00 1d 00 0d 00 04 00 02 04 03")+alpn+
				un("00 2b 00 03 02 03 04 00 33 00 26 00 24 00 1d 00 20")+m.Share)
	case 2:
		session := x.vec(1, m.Session)
		return un("03 03") + m.Random + session + un("13 01 00") + x.vec(2, un("00 2b 00 02 03 04 00 33 00 24 00 1d 00 20")+m.Share)
	case 8:
		return x.vec(2, x.alpn(m.Alpn))
	case 11:
		list := ""
		for _, c := range m.Certs {
			list += x.vec(3, c) + un("00 00")
		}
		return "\x00" + x.vec(3, list)
	case 15:
		return un("04 03") + x.vec(2, signText(m.Sign))
	default:
		return m.Mac
	}
}

// signText is a signature by Go's own library.
func signText(s api.Sign) string {
	out, err := asn1.Marshal(struct{ R, S *big.Int }{value(s.R), value(s.S)})
	if err != nil {
		panic(err)
	}
	return string(out)
}

// headed is a message of any body.
func headed(kind int, body string) string {
	n := len(body)
	return bytesOf(kind, n>>16, n>>8, n) + body
}

// written is a message as bytes, whether it is fit or not.
func written(m api.Msg) string {
	return headed(m.Kind, (&maker{}).body(m))
}

// fieldsOf are the fields that a kind has.
func fieldsOf(kind int) []string {
	switch kind {
	case 1:
		return []string{"Random", "Session", "Share", "Name", "Alpn"}
	case 2:
		return []string{"Random", "Session", "Share"}
	case 8:
		return []string{"Alpn"}
	case 11:
		return []string{"Certs"}
	case 15:
		return []string{"Sign"}
	case 20:
		return []string{"Mac"}
	}
	return nil
}

// fieldFits tells whether one of its fields is as a message's has to be.
func fieldFits(m api.Msg, field string) bool {
	switch field {
	case "Random":
		return len(m.Random) == 32
	case "Share":
		return len(m.Share) == 32
	case "Mac":
		return len(m.Mac) == 32
	case "Session":
		return len(m.Session) < 33
	case "Alpn":
		return len(m.Alpn) > 0 && len(m.Alpn) < 33
	case "Name":
		return len(m.Name) > 0 && len(m.Name) < 65 && strings.Trim(m.Name, nameLetters()) == ""
	case "Certs":
		return len(m.Certs) > 0 && len(m.Certs) < 5 && !slices.ContainsFunc(m.Certs, func(s string) bool { return len(s) == 0 || len(s) > 2048 })
	}
	return true
}

func nameLetters() string {
	return `!"#$%&'()*+,-./0123456789:;<=>?@ABCDEFGHIJKLMNOPQRSTUVWXYZ[\]^_` + "`abcdefghijklmnopqrstuvwxyz{|}~"
}

// fitByWords is what the chapter calls fit: it goes through all fields that a message has.
func fitByWords(m api.Msg) bool {
	if !slices.Contains(kinds(), m.Kind) {
		return false
	}
	v := reflect.ValueOf(m)
	for i := range v.NumField() {
		name := v.Type().Field(i).Name
		if name == "Kind" {
			continue
		}
		empty := v.Field(i).IsZero() || v.Field(i).Kind() == reflect.Slice && v.Field(i).Len() == 0
		if own := slices.Contains(fieldsOf(m.Kind), name); own && !fieldFits(m, name) || !own && !empty {
			return false
		}
	}
	return true
}

// cut is a piece of a text; what would be behind its end is missing.
func cut(s string, from, n int) string {
	from = min(from, len(s))
	return s[from:min(from+n, len(s))]
}

// lengthAt is a length that stands at a place.
func lengthAt(s string, from, size int) int {
	n := 0
	for _, b := range []byte(cut(s, from, size)) {
		n = 256*n + int(b)
	}
	return n
}

// guessed is the one message that a body may be of, found by the places at which its fields would stand.
func guessed(kind int, body string) api.Msg {
	m := api.Msg{Kind: kind}
	switch kind {
	case 1, 2:
		m.Random = cut(body, 2, 32)
		m.Session = cut(body, 35, lengthAt(body, 34, 1))
		m.Share = body[max(0, len(body)-32):]
		if kind == 1 {
			at := 35 + len(m.Session) + 15
			m.Name = cut(body, at+2, lengthAt(body, at, 2))
			at += 2 + len(m.Name) + 22
			m.Alpn = cut(body, at+1, lengthAt(body, at, 1))
		}
	case 8:
		m.Alpn = cut(body, 9, len(body))
	case 11:
		for at := 4; at < len(body); {
			c := cut(body, at+3, lengthAt(body, at, 3))
			m.Certs = append(m.Certs, c)
			at += 3 + len(c) + 2
		}
	case 15:
		var sign struct{ R, S *big.Int }
		_, err := asn1.Unmarshal([]byte(cut(body, 4, len(body))), &sign)
		if err == nil && sign.R.Sign() >= 0 && sign.S.Sign() >= 0 && sign.R.BitLen() <= 256 && sign.S.BitLen() <= 256 {
			m.Sign = api.Sign{R: numOf(sign.R), S: numOf(sign.S)}
		}
	case 20:
		m.Mac = body
	}
	return m
}

// readByWords is what Read has to tell.
func readByWords(s string) (api.Msg, string, api.Errno) {
	switch {
	case s == "":
		return api.Msg{}, "", api.ErrShort
	case !slices.Contains(kinds(), int(s[0])):
		return api.Msg{}, "", api.ErrKind
	}
	for told := 1; told <= 3; told++ {
		if len(s) <= told {
			return api.Msg{}, "", api.ErrShort
		}
		if least := lengthAt(s[1:1+told]+"\x00\x00", 0, 3); least > mostBody {
			return api.Msg{}, "", api.ErrLong
		}
	}
	end := 4 + lengthAt(s, 1, 3)
	if len(s) < end {
		return api.Msg{}, "", api.ErrShort
	}
	m := guessed(int(s[0]), s[4:end])
	if written(m) != s[:end] || !fitByWords(m) {
		return api.Msg{}, "", api.ErrForm
	}
	return m, s[end:], api.OK
}

// allByWords is what All has to tell: an error of Read is named ahead of there being too many.
func allByWords(s string) ([]api.Msg, string, api.Errno) {
	var list []api.Msg
	for s != "" {
		m, rest, e := readByWords(s)
		if e == api.ErrShort {
			break
		}
		if e != api.OK {
			return nil, "", e
		}
		list, s = append(list, m), rest
	}
	if len(list) > mostMessages {
		return nil, "", api.ErrMany
	}
	return list, s, api.OK
}

// isSame is Same by the tests' own means.
func isSame(a, b api.Msg) bool {
	if len(a.Certs) == 0 && len(b.Certs) == 0 {
		a.Certs, b.Certs = nil, nil
	}
	return reflect.DeepEqual(a, b)
}

// plain is a fit message of a kind, with bytes in it that are all unlike.
func plain(kind int) api.Msg {
	m := api.Msg{Kind: kind}
	switch kind {
	case 1:
		m = api.Msg{Kind: 1, Random: drawn(1, 32), Session: drawn(2, 32), Share: drawn(3, 32), Name: "time.example.org", Alpn: "ntske/1"}
	case 2:
		m = api.Msg{Kind: 2, Random: drawn(4, 32), Session: drawn(5, 32), Share: drawn(6, 32)}
	case 8:
		m.Alpn = "ntske/1"
	case 11:
		m.Certs = []string{drawn(7, 300), drawn(8, 5), drawn(9, 40)}
	case 15:
		m.Sign = api.Sign{R: power(255, 19), S: api.Num{5, 6, 7, 8}}
	case 20:
		m.Mac = drawn(10, 32)
	}
	return m
}

// least is a fit message of a kind with as few bytes as can be.
func least(kind int) api.Msg {
	m := plain(kind)
	m.Session = ""
	switch kind {
	case 1:
		m.Name, m.Alpn = "a", "b"
	case 8:
		m.Alpn = "\x00"
	case 11:
		m.Certs = []string{"c"}
	case 15:
		m.Sign = api.Sign{}
	}
	return m
}

// greatest is one with as many.
func greatest(kind int) api.Msg {
	m := plain(kind)
	switch kind {
	case 1:
		m.Name, m.Alpn = strings.Repeat("~!", 32), drawn(11, 32)
	case 8:
		m.Alpn = drawn(12, 32)
	case 11:
		m.Certs = []string{drawn(13, 2048), drawn(14, 2048), drawn(15, 2048), drawn(16, 2048)}
	case 15:
		m.Sign = api.Sign{R: power(256, 1), S: power(256, 2)}
	}
	return m
}

// samples are fit messages of all kinds.
func samples() []api.Msg {
	var out []api.Msg
	for _, kind := range kinds() {
		out = append(out, plain(kind), least(kind), greatest(kind))
	}
	return out
}

// drawnMsg is some fit message.
func drawnMsg(r *rand.Rand) api.Msg {
	text := func(least, most int) string { return drawn(r.Int63(), least+r.Intn(most-least+1)) }
	number := func() api.Num {
		n := new(big.Int).SetBytes([]byte(text(32, 32)))
		return numOf(n.Rsh(n, uint(r.Intn(257))))
	}
	m := api.Msg{Kind: kinds()[r.Intn(6)]}
	switch m.Kind {
	case 1, 2:
		m.Random, m.Session, m.Share = text(32, 32), text(0, 32), text(32, 32)
		if m.Kind == 1 {
			m.Alpn = text(1, 32)
			for range 1 + r.Intn(64) {
				m.Name += bytesOf(33 + r.Intn(94))
			}
		}
	case 8:
		m.Alpn = text(1, 32)
	case 11:
		most := []int{1, 9, 400, 2048}[r.Intn(4)]
		for range 1 + r.Intn(4) {
			m.Certs = append(m.Certs, text(1, most))
		}
	case 15:
		m.Sign = api.Sign{R: number(), S: number()}
	case 20:
		m.Mac = text(32, 32)
	}
	return m
}

// holdWrite says that Fit and Write tell what the chapter's words say, and whether the message is fit.
func holdWrite(t testing.TB, what string, m api.Msg, fit bool) {
	t.Helper()
	if fitByWords(m) != fit {
		t.Fatalf("%s: the words of %+v: fit %v; want %v", what, m, !fit, fit)
	}
	want, fault := "", api.ErrForm
	if fit {
		want, fault = written(m), api.OK
	}
	if got := hand.Fit(m); got != fit {
		t.Errorf("%s: Fit(%+v) = %v", what, m, got)
	}
	if got, e := hand.Write(m); got != want || e != fault {
		t.Errorf("%s: Write(%+v) = %s, %v; want %s, %v", what, m, hexed(got), e, hexed(want), fault)
	}
}

// holdRead says that Read tells what the chapter's words say, and with which error.
func holdRead(t testing.TB, s string, fault api.Errno) {
	t.Helper()
	m, behind, e := readByWords(s)
	if e != fault {
		t.Fatalf("the words of %d bytes, %s: %v; want %v", len(s), hexed(s), e, fault)
	}
	if got, rest, e := hand.Read(s); !isSame(got, m) || rest != behind || e != fault {
		t.Errorf("Read of %d bytes, %s = %+v, %d behind, %v; want %+v, %d behind, %v", len(s), hexed(s), got, len(rest), e, m, len(behind), fault)
	}
}

// likeWords holds Read of one text against the words, and is its error.
func likeWords(t testing.TB, s string) api.Errno {
	t.Helper()
	_, _, e := readByWords(s)
	holdRead(t, s, e)
	return e
}

// holdAll says that All tells what the chapter's words say, and with which error.
func holdAll(t testing.TB, s string, fault api.Errno) {
	t.Helper()
	list, left, e := allByWords(s)
	if e != fault {
		t.Fatalf("the words of %d bytes, %s: %v; want %v", len(s), hexed(s), e, fault)
	}
	got, rest, e := hand.All(s)
	if !slices.EqualFunc(got, list, isSame) || rest != left || e != fault {
		t.Errorf("All of %d bytes, %s = %d messages, %d left, %v; want %d, %d left, %v", len(s), hexed(s), len(got), len(rest), e, len(list), len(left), fault)
	}
}
