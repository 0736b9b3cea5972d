package cert_test

import (
	"encoding/hex"
	"math/rand"
	"slices"
	"strings"
	"sync"
	"testing"

	"pendulum/api"
	"pendulum/cert"
)

// P12.2, P12.6: what is written is read as it was, and what is read is written as it stood.
func TestThereAndBack(t *testing.T) {
	r := rand.New(rand.NewSource(4))
	list := []api.Cert{least(t), plain(t), greatest(t)}
	for range 1000 {
		list = append(list, drawnCert(t, r))
	}
	for _, c := range list {
		s := mustWrite(t, c)
		mustRead(t, s, c)
		got, _ := cert.Read(s)
		if !cert.Same(got, c) || mustWrite(t, got) != s {
			t.Fatalf("Read of Write of %+v = %+v", c, got)
		}
		if mustTbs(t, got) != mustTbs(t, c) {
			t.Fatalf("Tbs of what is read of %+v", c)
		}
	}
}

// P12.2: texts that are none, of all lengths about the greatest: those above it are long, whatever they are.
func TestReadLengths(t *testing.T) {
	s := mustWrite(t, greatest(t))
	for _, n := range []int{0, 1, 2, 3, 2047, 2048} {
		for _, text := range []string{strings.Repeat("0", n), strings.Repeat("\x00", n), strings.Repeat("\xff", n), (s + strings.Repeat("\x00", n))[:n]} {
			mustNotRead(t, text, api.ErrForm)
		}
	}
	for _, n := range []int{2049, 2050, 4096, 70000} {
		for _, text := range []string{strings.Repeat("0", n), strings.Repeat("\x00", n), s + strings.Repeat("\x00", n-len(s)), "\x30\x82\x08\x00" + strings.Repeat("x", n-4)} {
			mustNotRead(t, text, api.ErrLong)
		}
	}
	whole := func(n int) string { return tagged(48, strings.Repeat("x", n-4)) } // one tag that is just as long
	mustNotRead(t, whole(2048), api.ErrForm)
	mustNotRead(t, whole(2049), api.ErrLong)
	c := greatest(t)
	for len(writtenByWords(c)) <= 2048 { // as it is written, but of too many names
		c.Names = append(c.Names, strings.Repeat("n", 20))
		likeWords(t, writtenByWords(c))
	}
	mustNotRead(t, writtenByWords(c), api.ErrLong)
}

// P12.2: every byte of a certificate as every other one: it is a certificate of its own, or none.
func TestEveryByte(t *testing.T) {
	c := least(t)
	c.Names, c.Ca = []string{"n"}, true
	s := mustWrite(t, c)
	key := strings.Index(s, pointText(c.Key))
	count := 0
	for i := range len(s) {
		for b := range 256 {
			if i > key && i < key+65 && (b+i)%16 != 0 { // it takes long to see that what is changed there is no point
				continue
			}
			if byte(b) != s[i] && likeWords(t, s[:i]+string([]byte{byte(b)})+s[i+1:]) {
				count++
			}
		}
	}
	// Of an Issuer, a Subject and a name, 94 others each; of three numbers of a byte below 128, 127 each; some times.
	if low := 3*94 + 3*127; count < low+20 || count > low+200 {
		t.Errorf("%d other certificates", count)
	}
}

// P12.2: some bytes changed of certificates that are longer.
func TestSomeBytes(t *testing.T) {
	r := rand.New(rand.NewSource(5))
	for _, c := range []api.Cert{plain(t), greatest(t), drawnCert(t, r), drawnCert(t, r), drawnCert(t, r)} {
		s := mustWrite(t, c)
		for i := range len(s) {
			for _, x := range []byte{1, 2, 0x20, 0x80, 0xff, byte(1 + r.Intn(255))} {
				likeWords(t, s[:i]+string([]byte{s[i] ^ x})+s[i+1:])
			}
		}
	}
}

// P12.2: a certificate that is cut anywhere, or has something ahead, behind or within, is none.
func TestCutAndMore(t *testing.T) {
	r := rand.New(rand.NewSource(6))
	for _, c := range []api.Cert{least(t), plain(t), greatest(t), drawnCert(t, r)} {
		s := mustWrite(t, c)
		for i := range len(s) {
			mustNotRead(t, s[:i], api.ErrForm)
			mustNotRead(t, s[i+1:], api.ErrForm)
			likeWords(t, s[:i]+s[i+1:])
			likeWords(t, s[:i]+s[i:i+1]+s[i:])
			likeWords(t, s[:i]+"\x00"+s[i:])
		}
		for b := range 256 {
			mustNotRead(t, s+string([]byte{byte(b)}), api.ErrForm)
			mustNotRead(t, string([]byte{byte(b)})+s, api.ErrForm)
		}
		for _, more := range []string{"\x00\x00", "\x05\x00", "\x30\x00", "\x02\x01\x05"} {
			mustNotRead(t, s+more, api.ErrForm)
			mustNotRead(t, more+s, api.ErrForm)
		}
		if len(s) <= 1024 {
			mustNotRead(t, s+s, api.ErrForm)
		}
	}
}

// node is a tag of a certificate, and what stands within it: other tags, or bytes; ahead of tags in bits stands a byte.
type node struct {
	tag  int
	head string
	body string
	kids []*node
}

// nodes are all tags of a text, taken apart as far as they have others within.
func nodes(s string) []*node {
	var out []*node
	for s != "" {
		n, from := int(s[1]), 2
		switch n {
		case 129:
			n, from = int(s[2]), 3
		case 130:
			n, from = 256*int(s[2])+int(s[3]), 4
		}
		x := &node{tag: int(s[0]), body: s[from : from+n]}
		switch {
		case x.tag == 48 || x.tag == 49 || x.tag == 160 || x.tag == 163 || x.tag == 4:
			x.kids, x.body = nodes(x.body), ""
		case x.tag == 3 && x.body[1] == 48:
			x.head, x.kids, x.body = x.body[:1], nodes(x.body[1:]), ""
		}
		out = append(out, x)
		s = s[from+n:]
	}
	return out
}

// inner is what stands within.
func (x *node) inner() string {
	out := x.head + x.body
	for _, kid := range x.kids {
		out += kid.text()
	}
	return out
}

func (x *node) text() string {
	if x.tag < 0 { // it is left as it stands in body
		return x.body
	}
	return tagged(x.tag, x.inner())
}

// every visits a node and all that stand within it, with that within which they stand, and where.
func (x *node) every(visit func(within *node, place int)) {
	for i := range x.kids {
		visit(x, i)
		x.kids[i].every(visit)
	}
}

// lengths are ways to write a tag that are not the one that there is.
func (x *node) lengths() []string {
	s, n := x.inner(), len(x.inner())
	tag := string([]byte{byte(x.tag)})
	out := []string{
		tag + "\x80" + s + "\x00\x00",
		tag + string([]byte{131, 0, byte(n >> 8), byte(n)}) + s,
		tag + string([]byte{132, 0, 0, byte(n >> 8), byte(n)}) + s,
	}
	if n < 256 {
		out = append(out, tag+string([]byte{130, 0, byte(n)})+s)
	}
	if n < 128 {
		out = append(out, tag+string([]byte{129, byte(n)})+s)
	}
	return out
}

// others are nodes to stand where one stood.
func (x *node) others() []*node {
	var out []*node
	raw := func(s string) { out = append(out, &node{tag: -1, body: s}) }
	for _, s := range x.lengths() {
		raw(s)
	}
	for _, tag := range []int{0, 1, 2, 3, 4, 5, 6, 12, 16, 17, 19, 22, 23, 24, 31, 36, 48, 49, 129, 130, 131, 160, 161, 162, 163, 255, x.tag ^ 1, x.tag ^ 32, x.tag ^ 64, x.tag ^ 128} {
		if tag != x.tag {
			out = append(out, &node{tag: tag, head: x.head, body: x.body, kids: x.kids})
		}
	}
	text := x.text()
	raw("")
	raw(text + text)
	for _, more := range []string{"\x05\x00", "\x30\x00", "\x01\x01\xff", "\x01\x01\x00", "\x02\x01\x05", "\x82\x01a"} {
		raw(text + more)
		raw(more + text)
		raw(tagged(x.tag, x.inner()+more))
		raw(tagged(x.tag, more+x.inner()))
		raw(more)
	}
	for _, more := range []string{"\x00", "\xff", "0"} {
		raw(tagged(x.tag, x.inner()+more))
		raw(tagged(x.tag, more+x.inner()))
	}
	raw(tagged(x.tag))
	raw(tagged(x.tag, text))
	raw(x.inner())
	if s := x.inner(); s != "" {
		raw(tagged(x.tag, s[1:]))
		raw(tagged(x.tag, s[:len(s)-1]))
	}
	return out
}

// P12.2: each part of a certificate left out, twice, as another tag, of another length, with more or less in it.
func TestEveryPart(t *testing.T) {
	bare := plain(t)
	bare.Names = nil
	authority := plain(t)
	authority.Ca, authority.Sign.R, authority.Serial = true, top(), top()
	for _, c := range []api.Cert{plain(t), bare, authority} {
		tree := &node{tag: -1, kids: nodes(mustWrite(t, c))}
		seen, taken := 0, 0
		tree.every(func(within *node, place int) {
			was := within.kids[place]
			for _, x := range was.others() {
				within.kids[place] = x
				seen++
				if likeWords(t, tree.kids[0].text()) {
					taken++
				}
			}
			within.kids[place] = was
		})
		mustRead(t, tree.kids[0].text(), c)
		if seen < 2500 || taken == 0 || taken > seen/20 {
			t.Errorf("of %d others %d are certificates", seen, taken)
		}
	}
}

// P12.2: the parts in another order: all pairs of parts that stand side by side or apart, exchanged; and one moved within another.
func TestOrder(t *testing.T) {
	c := plain(t)
	c.Ca = true
	tree := &node{tag: -1, kids: nodes(mustWrite(t, c))}
	taken := 0
	tree.every(func(within *node, place int) {
		for other := range place {
			within.kids[place], within.kids[other] = within.kids[other], within.kids[place]
			if likeWords(t, tree.kids[0].text()) {
				taken++
			}
			within.kids[place], within.kids[other] = within.kids[other], within.kids[place]
		}
		for to := range within.kids {
			without := slices.Delete(slices.Clone(within.kids), place, place+1)
			was := within.kids
			within.kids = slices.Insert(without, to, was[place])
			likeWords(t, tree.kids[0].text())
			within.kids = was
		}
	})
	if taken != 3 { // Issuer and Subject, both names, R and S; From would be above To
		t.Errorf("%d exchanges are certificates", taken)
	}
	mustRead(t, tree.kids[0].text(), c)
}

// P12.2: texts that are as a certificate is, but for something that none of them has.
func TestAlmost(t *testing.T) {
	c := plain(t)
	s := mustWrite(t, c)
	key := pointText(c.Key)
	replaced := func(old, new string) string {
		tree := &node{tag: -1, kids: nodes(s)}
		count := 0
		tree.every(func(within *node, place int) {
			if within.kids[place].text() == old {
				within.kids[place] = &node{tag: -1, body: new}
				count++
			}
		})
		if count == 0 {
			t.Fatalf("%x is not there", old)
		}
		return tree.kids[0].text()
	}
	mustRead(t, replaced(intText(c.Serial), intText(api.Num{9})), func() api.Cert { c := c; c.Serial = api.Num{9}; return c }())
	boolAhead := tagged(1, "\xff")
	empty := tagged(4, tagged(48))
	names := tagged(4, tagged(48, tagged(130, "*.a"), tagged(130, "b.c")))
	for name, text := range map[string]string{
		"a Serial below 0":              replaced(intText(c.Serial), "\x02\x01\xff"),
		"a Serial with a byte 0 ahead":  replaced(intText(c.Serial), "\x02\x02\x00\x07"),
		"a Serial of 2^256":             replaced(intText(c.Serial), tagged(2, "\x01"+strings.Repeat("\x00", 32))),
		"a Serial of no byte":           replaced(intText(c.Serial), "\x02\x00"),
		"an R of 2^256":                 replaced(intText(c.Sign.R), tagged(2, "\x01"+strings.Repeat("\x00", 32))),
		"an S below 0":                  replaced(intText(c.Sign.S), "\x02\x01\x80"),
		"another version":               replaced("\x02\x01\x02", "\x02\x01\x01"),
		"no version":                    replaced(tagged(160, "\x02\x01\x02"), ""),
		"a short time":                  replaced(timeText(c.From), tagged(24, "197001010001Z")),
		"a time of two digits a year":   replaced(timeText(c.From), tagged(23, "700101000140Z")),
		"a time with a fraction":        replaced(timeText(c.From), tagged(24, "19700101000140.5Z")),
		"a time of another zone":        replaced(timeText(c.From), tagged(24, "19700101000140+0000")),
		"the year 0":                    replaced(timeText(c.From), tagged(24, "00000101000000Z")),
		"no day":                        replaced(timeText(c.From), tagged(24, "19690229000000Z")),
		"second 60":                     replaced(timeText(c.From), tagged(24, "19700101000060Z")),
		"To below From":                 replaced(timeText(c.To), timeText(c.From-1)),
		"a key of no byte":              replaced(tagged(3, "\x00", key), tagged(3)),
		"a key that is Inf":             replaced(tagged(3, "\x00", key), tagged(3, "\x00")),
		"a key that is Inf elsewhere":   replaced(tagged(3, "\x00", key), tagged(3, "\x00\x00")),
		"a key without the byte 0":      replaced(tagged(3, "\x00", key), tagged(3, key)),
		"a key with bits left out":      replaced(tagged(3, "\x00", key), tagged(3, "\x01", key)),
		"a key with a byte 0 too many":  replaced(tagged(3, "\x00", key), tagged(3, "\x00\x00", key)),
		"half a key":                    replaced(tagged(3, "\x00", key), tagged(3, "\x00\x03", key[1:33])),
		"a key with its sign":           replaced(tagged(3, "\x00", key), tagged(3, "\x00\x06", key[1:])),
		"a key that is no point":        replaced(tagged(3, "\x00", key), tagged(3, "\x00\x04", key[33:], key[1:33])),
		"another curve":                 replaced(oidText(1, 2, 840, 10045, 3, 1, 7), oidText(1, 3, 132, 0, 34)),
		"another kind of key":           replaced(oidText(1, 2, 840, 10045, 2, 1), oidText(1, 2, 840, 113549, 1, 1, 1)),
		"another kind of signature":     replaced(oidText(1, 2, 840, 10045, 4, 3, 2), oidText(1, 2, 840, 10045, 4, 3, 3)),
		"a kind of signature with more": replaced(tagged(48, oidText(1, 2, 840, 10045, 4, 3, 2)), tagged(48, oidText(1, 2, 840, 10045, 4, 3, 2), "\x05\x00")),
		"another kind of title":         replaced(oidText(2, 5, 4, 3), oidText(2, 5, 4, 10)),
		"a title that is printable":     replaced(tagged(12, "r"), tagged(19, "r")),
		"Ca told as false":              replaced(empty, tagged(4, tagged(48, tagged(1, "\x00")))),
		"Ca told as 1":                  replaced(empty, tagged(4, tagged(48, tagged(1, "\x01")))),
		"Ca with a length of its chain": replaced(empty, tagged(4, tagged(48, boolAhead, "\x02\x01\x00"))),
		"Ca told by nothing":            replaced(empty, tagged(4)),
		"Ca as bytes":                   replaced(empty, tagged(4, tagged(49))),
		"Ca that must not be known":     replaced(tagged(48, oidText(2, 5, 29, 19), boolAhead, empty), tagged(48, oidText(2, 5, 29, 19), empty)),
		"Ca that must be known not":     replaced(tagged(48, oidText(2, 5, 29, 19), boolAhead, empty), tagged(48, oidText(2, 5, 29, 19), tagged(1, "\x00"), empty)),
		"no Ca":                         replaced(tagged(48, oidText(2, 5, 29, 19), boolAhead, empty), ""),
		"Names that must be known":      replaced(tagged(48, oidText(2, 5, 29, 17), names), tagged(48, oidText(2, 5, 29, 17), boolAhead, names)),
		"no Names among Names":          replaced(names, tagged(4, tagged(48))),
		"no row of Names":               replaced(names, tagged(4)),
		"Names of another kind":         replaced(tagged(130, "b.c"), tagged(129, "b.c")),
		"a name of no byte":             replaced(tagged(130, "b.c"), tagged(130)),
		"a name of 65 bytes":            replaced(tagged(130, "b.c"), tagged(130, strings.Repeat("n", 65))),
		"Names in two rows":             replaced(tagged(48, oidText(2, 5, 29, 17), names), tagged(48, oidText(2, 5, 29, 17), tagged(4, tagged(48, tagged(130, "*.a"))))+tagged(48, oidText(2, 5, 29, 17), tagged(4, tagged(48, tagged(130, "b.c"))))),
		"a row of another kind":         replaced(oidText(2, 5, 29, 17), oidText(2, 5, 29, 18)),
		"one more row":                  replaced(tagged(48, oidText(2, 5, 29, 17), names), tagged(48, oidText(2, 5, 29, 17), names)+tagged(48, oidText(2, 5, 29, 15), tagged(4, "\x03\x02\x05\xa0"))),
		"no rows":                       replaced(tagged(163, tagged(48, extensionsText(c))), tagged(163, tagged(48))),
		"nothing in the third":          replaced(tagged(163, tagged(48, extensionsText(c))), tagged(163)),
		"no third":                      replaced(tagged(163, tagged(48, extensionsText(c))), ""),
		"more than 64 parts":            replaced(intText(c.Serial), strings.Repeat("\x02\x01\x07", 65)),
		"a signature of no byte":        replaced(tagged(3, "\x00", tagged(48, intText(c.Sign.R), intText(c.Sign.S))), tagged(3)),
		"a signature without byte 0":    replaced(tagged(3, "\x00", tagged(48, intText(c.Sign.R), intText(c.Sign.S))), tagged(3, tagged(48, intText(c.Sign.R), intText(c.Sign.S)))),
		"a signature with more":         replaced(tagged(3, "\x00", tagged(48, intText(c.Sign.R), intText(c.Sign.S))), tagged(3, "\x00", tagged(48, intText(c.Sign.R), intText(c.Sign.S)), "\x05\x00")),
		"what is signed alone":          mustTbs(t, c),
		"one within another":            tagged(48, s),
	} {
		if likeWords(t, text) {
			t.Errorf("%s: %s is taken for a certificate", name, hex.EncodeToString([]byte(text)))
		}
	}
}

// P12.2: short texts are none.
func TestNothing(t *testing.T) {
	for _, s := range []string{"", "\x30", "\x30\x00", "\x30\x80\x00\x00", "\x00", "\x31\x00", "\x30\x06\x30\x00\x30\x00\x03\x00", "\x30\x07\x30\x00\x30\x00\x03\x01\x00"} {
		mustNotRead(t, s, api.ErrForm)
	}
	r := rand.New(rand.NewSource(7))
	for range 20000 {
		text := make([]byte, r.Intn(60))
		r.Read(text)
		mustNotRead(t, string(text), api.ErrForm)
	}
}

// Rule 0.5: what is read is new memory each time, and no list of two is one.
func TestReadSharesNothing(t *testing.T) {
	s := mustWrite(t, plain(t))
	a, _ := cert.Read(s)
	b, _ := cert.Read(s)
	a.Names[0] = "x"
	if b.Names[0] != "*.a" {
		t.Error("two answers share their Names")
	}
	mustRead(t, s, plain(t))
	bare := least(t)
	if got, _ := cert.Read(mustWrite(t, bare)); got.Names != nil {
		t.Error("no Names are told as a list")
	}
}

// Rule 0.5: calls at the same time don't see each other.
func TestAtTheSameTime(t *testing.T) {
	var wait sync.WaitGroup
	for i := range 8 {
		wait.Go(func() {
			r := rand.New(rand.NewSource(int64(i)))
			for range 100 {
				c := drawnCert(t, r)
				s, _ := cert.Write(c)
				got, e := cert.Read(s)
				_, f := cert.Read(s[1:])
				if e != api.OK || f != api.ErrForm || !cert.Same(got, c) {
					t.Errorf("Read(%x) = %+v, %v", s, got, e)
				}
			}
		})
	}
	wait.Wait()
}

func FuzzRead(f *testing.F) {
	r := rand.New(rand.NewSource(8))
	for range 20 {
		f.Add([]byte(mustWrite(f, drawnCert(f, r))))
	}
	f.Add([]byte(mustWrite(f, least(f))))
	f.Add([]byte(mustWrite(f, greatest(f))))
	f.Fuzz(func(t *testing.T, s []byte) {
		likeWords(t, string(s))
	})
}

func FuzzWrite(f *testing.F) {
	f.Add(uint64(1), uint64(2), "r", "s", int64(0), int64(1), uint64(3), false, "*.a", "b", 2)
	f.Add(uint64(all), uint64(all), "", "\x1f", int64(1), int64(0), uint64(1), true, "", "", 9)
	f.Fuzz(func(t *testing.T, low, high uint64, issuer, subject string, from, to int64, d uint64, ca bool, first, second string, n int) {
		c := api.Cert{Serial: api.Num{low, 0, 0, high}, Issuer: issuer, Subject: subject, From: from, To: to, Key: keyOf(t, 1+d%50), Ca: ca, Sign: api.Sign{R: api.Num{high, low}, S: api.Num{0, high}}}
		for i := range max(0, n%11) {
			c.Names = append(c.Names, []string{first, second}[i%2])
		}
		s, e := cert.Write(c)
		if !fitByWords(c) {
			if s != "" || e != api.ErrForm {
				t.Fatalf("Write(%+v) = %x, %v", c, s, e)
			}
			return
		}
		if s != writtenByWords(c) || e != api.OK {
			t.Fatalf("Write(%+v) = %x, %v", c, s, e)
		}
		mustRead(t, s, c)
	})
}
