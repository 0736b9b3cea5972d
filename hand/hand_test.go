package hand_test

import (
	"math/rand"
	"slices"
	"strings"
	"testing"

	"pendulum/api"
	"pendulum/hand"
)

// P14.1, P14.2: the chapter's examples.
func TestExamples(t *testing.T) {
	s, e := hand.Write(api.Msg{Kind: api.HsFinish, Mac: zeros(32)})
	if s != "\x14\x00\x00\x20"+zeros(32) || e != api.OK {
		t.Errorf("Write of HsFinish = %s, %v", hexed(s), e)
	}
	if m, rest, e := hand.Read("\x03"); !isSame(m, api.Msg{}) || rest != "" || e != api.ErrKind {
		t.Errorf("Read of 3 = %+v, %q, %v", m, rest, e)
	}
	if s, e := hand.Write(api.Msg{Kind: api.HsExt, Alpn: "ntske/1"}); len(s) != 20 || e != api.OK {
		t.Errorf("Write of HsExt = %d bytes, %v", len(s), e)
	}
}

// writtenOut are messages of each kind, byte by byte as the chapter says it.
func writtenOut() []struct {
	m    api.Msg
	text string
} {
	random, share := strings.Repeat("\xa1", 32), strings.Repeat("\xb2", 32)
	sign := api.Sign{R: api.Num{200}, S: api.Num{5}}
	return []struct {
		m    api.Msg
		text string
	}{
		{api.Msg{Kind: api.HsClient, Random: random, Session: "\xc3\xc4", Share: share, Name: "x.a", Alpn: "ntske/1"},
			"01 00 00 88 03 03" + strings.Repeat("a1", 32) + "02 c3 c4 00 02 13 01 01 00 00 5b" +
				"00 00 00 08 00 06 00 00 03 78 2e 61" +
				"00 0a 00 04 00 02 00 1d" +
				"00 0d 00 04 00 02 04 03" +
				"00 10 00 0a 00 08 07 6e 74 73 6b 65 2f 31" +
				"00 2b 00 03 02 03 04" +
				"00 33 00 26 00 24 00 1d 00 20" + strings.Repeat("b2", 32)},
		{api.Msg{Kind: api.HsServer, Random: random, Session: "\xc3", Share: share},
			"02 00 00 57 03 03" + strings.Repeat("a1", 32) + "01 c3 13 01 00 00 2e" +
				"00 2b 00 02 03 04" +
				"00 33 00 24 00 1d 00 20" + strings.Repeat("b2", 32)},
		{api.Msg{Kind: api.HsExt, Alpn: "ntske/1"}, "08 00 00 10 00 0e 00 10 00 0a 00 08 07 6e 74 73 6b 65 2f 31"},
		{api.Msg{Kind: api.HsCert, Certs: []string{"ab", "c"}}, "0b 00 00 11 00 00 00 0d 00 00 02 61 62 00 00 00 00 01 63 00 00"},
		{api.Msg{Kind: api.HsVerify, Sign: sign}, "0f 00 00 0d 04 03 00 09 30 07 02 02 00 c8 02 01 05"},
		{api.Msg{Kind: api.HsFinish, Mac: random}, "14 00 00 20" + strings.Repeat("a1", 32)},
	}
}

// P14.1, P14.2: each kind, written out.
func TestWrittenOut(t *testing.T) {
	for _, c := range writtenOut() {
		text := un(c.text)
		if s, e := hand.Write(c.m); s != text || e != api.OK || !hand.Fit(c.m) {
			t.Errorf("Write(%+v) = %s, %v; want %s", c.m, hexed(s), e, hexed(text))
		}
		if m, rest, e := hand.Read(text + "\x01"); !isSame(m, c.m) || rest != "\x01" || e != api.OK {
			t.Errorf("Read(%s) = %+v, %s, %v; want %+v", hexed(text), m, hexed(rest), e, c.m)
		}
	}
}

// P14.1: what is written is as the words say, of the least, the greatest, and many between.
func TestWrite(t *testing.T) {
	for _, m := range samples() {
		holdWrite(t, "a sample", m, true)
	}
	r := rand.New(rand.NewSource(1))
	for range 2000 {
		holdWrite(t, "a drawn one", drawnMsg(r), true)
	}
}

// P14.1: each Kind and its neighbours, and kinds that are no byte, with the fields of each kind, and with none.
func TestKinds(t *testing.T) {
	for _, kind := range others() {
		holdWrite(t, "no kind", api.Msg{Kind: kind}, false)
		for _, m := range samples() {
			m.Kind = kind
			holdWrite(t, "no kind", m, false)
		}
	}
	for _, kind := range kinds() {
		for _, m := range samples() {
			fit := m.Kind == kind
			m.Kind = kind
			holdWrite(t, "a kind's fields", m, fit)
		}
		holdWrite(t, "a kind alone", api.Msg{Kind: kind}, kind == api.HsVerify)
	}
	holdWrite(t, "nothing", api.Msg{}, false)
}

// fillings fill one field each, with something that is fit there, and with as little as can be.
func fillings() map[string][]func(*api.Msg) {
	return map[string][]func(*api.Msg){
		"Random":  {func(m *api.Msg) { m.Random = drawn(1, 32) }, func(m *api.Msg) { m.Random = "\x00" }, func(m *api.Msg) { m.Random = "r" }},
		"Session": {func(m *api.Msg) { m.Session = drawn(1, 32) }, func(m *api.Msg) { m.Session = "\x00" }, func(m *api.Msg) { m.Session = "s" }},
		"Share":   {func(m *api.Msg) { m.Share = drawn(1, 32) }, func(m *api.Msg) { m.Share = "\x00" }, func(m *api.Msg) { m.Share = "s" }},
		"Name":    {func(m *api.Msg) { m.Name = "a.b" }, func(m *api.Msg) { m.Name = "\x00" }, func(m *api.Msg) { m.Name = "n" }},
		"Alpn":    {func(m *api.Msg) { m.Alpn = "ntske/1" }, func(m *api.Msg) { m.Alpn = "\x00" }, func(m *api.Msg) { m.Alpn = "a" }},
		"Certs":   {func(m *api.Msg) { m.Certs = []string{"c"} }, func(m *api.Msg) { m.Certs = []string{""} }, func(m *api.Msg) { m.Certs = make([]string, 5) }},
		"Sign": {func(m *api.Msg) { m.Sign.R[0] = 1 }, func(m *api.Msg) { m.Sign.S[0] = 1 }, func(m *api.Msg) { m.Sign.R[3] = 1 << 63 }, func(m *api.Msg) { m.Sign.S[3] = 1 << 63 },
			func(m *api.Msg) { m.Sign = api.Sign{R: power(256, 1), S: power(256, 1)} }},
		"Mac": {func(m *api.Msg) { m.Mac = drawn(1, 32) }, func(m *api.Msg) { m.Mac = "\x00" }, func(m *api.Msg) { m.Mac = "m" }},
	}
}

// P14.1: of each kind each field that it has not, filled.
func TestForeignFields(t *testing.T) {
	for _, kind := range kinds() {
		foreign := 0
		for field, list := range fillings() {
			if slices.Contains(fieldsOf(kind), field) {
				continue
			}
			foreign++
			for _, fill := range list {
				for _, m := range []api.Msg{plain(kind), least(kind)} {
					fill(&m)
					holdWrite(t, field, m, false)
				}
			}
		}
		if foreign+len(fieldsOf(kind)) != 8 {
			t.Errorf("%d fields that the kind %d has not", foreign, kind)
		}
		if kind != api.HsCert {
			m := plain(kind)
			m.Certs = []string{}
			holdWrite(t, "an empty list of Certs", m, true)
		}
	}
}

// lengths holds messages with one field of each length about its edges.
func lengths(t *testing.T, what string, kind, least, most int, set func(*api.Msg, string)) {
	t.Helper()
	for _, size := range []int{0, 1, 2, 30, 31, 32, 33, 34, 63, 64, 65, 66, 127, 128, 255, 256, 257, 288, 2048, 65535, 65536, 65568, 1<<24 + 32} {
		m := plain(kind)
		set(&m, strings.Repeat("x", size))
		holdWrite(t, what, m, size >= least && size <= most)
	}
}

// P14.1: Random, Share and Mac have 32 bytes, neither fewer nor more; a Session, a Name, an Alpn have as many as they may.
func TestLengths(t *testing.T) {
	for _, kind := range []int{api.HsClient, api.HsServer} {
		lengths(t, "Random", kind, 32, 32, func(m *api.Msg, s string) { m.Random = s })
		lengths(t, "Share", kind, 32, 32, func(m *api.Msg, s string) { m.Share = s })
		lengths(t, "Session", kind, 0, 32, func(m *api.Msg, s string) { m.Session = s })
	}
	for _, kind := range []int{api.HsClient, api.HsExt} {
		lengths(t, "Alpn", kind, 1, 32, func(m *api.Msg, s string) { m.Alpn = s })
	}
	lengths(t, "Name", api.HsClient, 1, 64, func(m *api.Msg, s string) { m.Name = s })
	lengths(t, "Mac", api.HsFinish, 32, 32, func(m *api.Msg, s string) { m.Mac = s })
	for n := range 40 {
		for _, kind := range []int{api.HsClient, api.HsServer} {
			m := plain(kind)
			m.Session = drawn(1, n)
			holdWrite(t, "Session", m, n <= 32)
		}
		for _, kind := range []int{api.HsClient, api.HsExt} {
			m := plain(kind)
			m.Alpn = drawn(1, n)
			holdWrite(t, "Alpn", m, n >= 1 && n <= 32)
		}
	}
}

// P14.1: each byte in a Name, first, last, within and alone: from 33 to 126; in all other texts all bytes may be.
func TestLetters(t *testing.T) {
	for b := range 256 {
		one := bytesOf(b)
		for _, name := range []string{one, one + "bc", "a" + one + "c", "ab" + one, strings.Repeat("x", 63) + one, one + strings.Repeat("x", 63)} {
			m := plain(api.HsClient)
			m.Name = name
			holdWrite(t, "Name", m, b >= 33 && b <= 126)
		}
		m := plain(api.HsClient)
		m.Random, m.Session, m.Share, m.Alpn = strings.Repeat(one, 32), one, strings.Repeat(one, 32), one
		holdWrite(t, "all but Name", m, true)
		holdWrite(t, "Alpn", api.Msg{Kind: api.HsExt, Alpn: one}, true)
		holdWrite(t, "Mac", api.Msg{Kind: api.HsFinish, Mac: strings.Repeat(one, 32)}, true)
		holdWrite(t, "Certs", api.Msg{Kind: api.HsCert, Certs: []string{one}}, true)
	}
	m := plain(api.HsClient)
	m.Name = "b\u00fccher"
	holdWrite(t, "Name of runes", m, false)
}

// P14.1: 1 to 4 Certs, each of 1 to 2048 bytes, at each place.
func TestCerts(t *testing.T) {
	for _, n := range []int{0, 1, 2, 3, 4, 5, 6, 260} {
		holdWrite(t, "many Certs", api.Msg{Kind: api.HsCert, Certs: slices.Repeat([]string{"cert"}, n)}, n >= 1 && n <= 4)
		holdWrite(t, "many empty Certs", api.Msg{Kind: api.HsCert, Certs: slices.Repeat([]string{""}, n)}, false)
	}
	holdWrite(t, "an empty list", api.Msg{Kind: api.HsCert, Certs: []string{}}, false)
	for _, n := range []int{1, 2, 3, 4} {
		for place := range n {
			for _, size := range []int{0, 1, 2, 255, 256, 2047, 2048, 2049, 2050, 4096, 65536, 65537, 1<<24 + 1} {
				m := api.Msg{Kind: api.HsCert, Certs: slices.Repeat([]string{"cert"}, n)}
				m.Certs[place] = strings.Repeat("c", size)
				holdWrite(t, "a cert", m, size >= 1 && size <= 2048)
			}
		}
	}
}

// numbers are some at which their bytes turn.
func numbers() []api.Num {
	out := []api.Num{{}, {1}, {5}, {127}, {128}, {129}, {200}, {255}, {256}, {0x7fff}, {0x8000}, {0xffff}, {1, 2, 3, 4}, power(256, 1), power(256, 2)}
	for bit := 7; bit < 256; bit += 8 {
		out = append(out, power(bit, 0), power(bit, 1), power(bit+1, 1))
	}
	return out
}

// P14.1: any Sign is fit, R and S of 0, of 1, of bytes above 127 and of 32 bytes; Go's own library writes it alike.
func TestSigns(t *testing.T) {
	for _, n := range numbers() {
		for _, sign := range []api.Sign{{R: n}, {S: n}, {R: n, S: n}, {R: n, S: api.Num{7}}, {R: power(256, 1), S: n}} {
			m := api.Msg{Kind: api.HsVerify, Sign: sign}
			holdWrite(t, "Sign", m, true)
			holdRead(t, written(m), api.OK)
		}
	}
}

// edits change one thing each.
func edits() []func(*api.Msg) {
	return []func(*api.Msg){
		func(m *api.Msg) { m.Kind++ }, func(m *api.Msg) { m.Kind += 256 }, func(m *api.Msg) { m.Kind = -1 },
		func(m *api.Msg) { m.Random = "R" }, func(m *api.Msg) { m.Random += "\x00" }, func(m *api.Msg) { m.Random = "" },
		func(m *api.Msg) { m.Session = "S" }, func(m *api.Msg) { m.Session += "\x00" }, func(m *api.Msg) { m.Session = "" },
		func(m *api.Msg) { m.Share = "H" }, func(m *api.Msg) { m.Share += "\x00" }, func(m *api.Msg) { m.Share = "" },
		func(m *api.Msg) { m.Name = "N" }, func(m *api.Msg) { m.Name += "\x00" }, func(m *api.Msg) { m.Name = "" },
		func(m *api.Msg) { m.Alpn = "A" }, func(m *api.Msg) { m.Alpn += "\x00" }, func(m *api.Msg) { m.Alpn = "" },
		func(m *api.Msg) { m.Mac = "M" }, func(m *api.Msg) { m.Mac += "\x00" }, func(m *api.Msg) { m.Mac = "" },
		func(m *api.Msg) { m.Certs = nil }, func(m *api.Msg) { m.Certs = m.Certs[:1] }, func(m *api.Msg) { m.Certs = m.Certs[1:] },
		func(m *api.Msg) { m.Certs = []string{"d", "c"} }, func(m *api.Msg) { m.Certs = []string{"c", "d", "d"} }, func(m *api.Msg) { m.Certs = []string{"c", "d", ""} },
		func(m *api.Msg) { m.Certs = []string{"cd", ""} }, func(m *api.Msg) { m.Certs = []string{"", "cd"} }, func(m *api.Msg) { m.Certs = []string{"c", "D"} },
		func(m *api.Msg) { m.Certs = []string{"", ""} }, func(m *api.Msg) { m.Certs = []string{""} },
		func(m *api.Msg) { m.Sign.R[0]++ }, func(m *api.Msg) { m.Sign.R[1]++ }, func(m *api.Msg) { m.Sign.R[2]++ }, func(m *api.Msg) { m.Sign.R[3]++ },
		func(m *api.Msg) { m.Sign.S[0]++ }, func(m *api.Msg) { m.Sign.S[1]++ }, func(m *api.Msg) { m.Sign.S[2]++ }, func(m *api.Msg) { m.Sign.S[3]++ },
		func(m *api.Msg) { m.Sign.R, m.Sign.S = m.Sign.S, m.Sign.R }, func(m *api.Msg) { m.Sign = api.Sign{} },
		func(m *api.Msg) { m.Random, m.Share = m.Share, m.Random }, func(m *api.Msg) { m.Name, m.Alpn = m.Alpn, m.Name }, func(m *api.Msg) { m.Session, m.Mac = m.Mac, m.Session },
		func(m *api.Msg) { *m = api.Msg{} },
	}
}

// P14.1: Same goes through all fields, of messages that are fit and of others.
func TestSame(t *testing.T) {
	full := func() api.Msg {
		return api.Msg{Kind: 1, Random: "r", Session: "s", Share: "h", Name: "n", Alpn: "a", Certs: []string{"c", "d"}, Sign: api.Sign{R: api.Num{1, 2, 3, 4}, S: api.Num{5, 6, 7, 8}}, Mac: "m"}
	}
	list := []api.Msg{full()}
	for _, edit := range edits() {
		m := full()
		edit(&m)
		list = append(list, m)
	}
	for i, a := range list {
		for j, b := range list {
			b.Certs = slices.Clone(b.Certs)
			if got := hand.Same(a, b); got != (i == j) {
				t.Errorf("Same(%+v, %+v) = %v", a, b, got)
			}
		}
	}
	for _, a := range samples() {
		for _, b := range samples() {
			if got := hand.Same(a, b); got != isSame(a, b) {
				t.Errorf("Same(%+v, %+v) = %v", a, b, got)
			}
		}
	}
	a, b := plain(api.HsExt), plain(api.HsExt)
	b.Certs = []string{}
	if !hand.Same(a, b) || !hand.Same(b, a) || !hand.Same(api.Msg{}, api.Msg{}) {
		t.Error("an empty list of Certs is not as none")
	}
}

// P14.1: two fit messages that are not the same are not written alike.
func TestWrittenUnlike(t *testing.T) {
	r := rand.New(rand.NewSource(2))
	seen := map[string]api.Msg{}
	for range 3000 {
		m := drawnMsg(r)
		s, e := hand.Write(m)
		if other, ok := seen[s]; ok && !isSame(m, other) || e != api.OK {
			t.Fatalf("%+v and %+v are both %s, %v", m, other, hexed(s), e)
		}
		seen[s] = m
	}
}

// P14.3: texts of no byte, of one, of 32 and of others; and RFC 8446's example of a server's, section 4.4.3.
func TestSigned(t *testing.T) {
	for _, size := range []int{0, 1, 2, 31, 32, 33, 64, 65, 1000} {
		digest := drawn(int64(size), size)
		want := strings.Repeat("\x20", 64) + "TLS 1.3, server CertificateVerify" + "\x00" + digest
		if got := hand.Signed(digest); got != want || len(got) != 98+size {
			t.Errorf("Signed(%s) = %s; want %s", hexed(digest), hexed(got), hexed(want))
		}
	}
	want := un(strings.Repeat("20", 64) + "544c5320312e332c20736572766572204365727469666963617465566572696679" + "00" + strings.Repeat("01", 32))
	if got := hand.Signed(strings.Repeat("\x01", 32)); got != want {
		t.Errorf("Signed of 32 bytes 1 = %s; want %s", hexed(got), hexed(want))
	}
}

// Rule 0.5: what a call is given it does not change, and who changes that later changes nothing of what was told.
func TestGivenStays(t *testing.T) {
	certs := []string{"one", "two", "three"}
	m := api.Msg{Kind: api.HsCert, Certs: certs[:2]}
	want := written(m)
	first, e := hand.Write(m)
	if !hand.Fit(m) || !hand.Same(m, m) || e != api.OK || first != want || !slices.Equal(certs, []string{"one", "two", "three"}) {
		t.Errorf("Write = %s, %v; the list is %v", hexed(first), e, certs)
	}
	certs[0] = "four"
	if second, e := hand.Write(m); first != want || second != written(m) || second == want || e != api.OK {
		t.Errorf("Write of what was changed = %s, %v; ahead of that %s", hexed(second), e, hexed(first))
	}
}

// FuzzWrite looks for messages that are fit, or written, otherwise than by the chapter's words.
func FuzzWrite(f *testing.F) {
	for _, m := range samples() {
		certs := append(slices.Clone(m.Certs), "", "", "", "", "")
		f.Add(m.Kind, m.Random, m.Session, m.Share, m.Name, m.Alpn, m.Mac, len(m.Certs), certs[0], certs[1], m.Sign.R[0], m.Sign.R[3], m.Sign.S[1], m.Sign.S[3])
	}
	f.Fuzz(func(t *testing.T, kind int, random, session, share, name, alpn, mac string, n int, first, other string, r0, r3, s1, s3 uint64) {
		m := api.Msg{Kind: kind, Random: random, Session: session, Share: share, Name: name, Alpn: alpn, Mac: mac, Sign: api.Sign{R: api.Num{r0, 0, 0, r3}, S: api.Num{0, s1, 0, s3}}}
		for i := range max(0, min(n, 6)) {
			m.Certs = append(m.Certs, []string{first, other}[i%2])
		}
		holdWrite(t, "a fuzzed one", m, fitByWords(m))
		if s, e := hand.Write(m); e == api.OK {
			holdRead(t, s, api.OK)
		}
	})
}
