package tlsc_test

import (
	"math/big"
	"strconv"
	"strings"
	"testing"

	"pendulum/api"
	"pendulum/num"
	"pendulum/rec"
	"pendulum/tlsc"
)

// recordName is a record of a kind, for what a test says.
func recordName(place, kind int) string {
	return placeName(place) + ", a record " + strconv.Itoa(kind)
}

// P16.2: bytes that are no record, in each state, ahead of all else that is in them, and behind a whole record.
func TestNoRecord(t *testing.T) {
	our := talked(t)
	for place, x := range our.ends {
		for _, c := range []struct {
			s   string
			why api.Errno
		}{
			{"\x00", api.ErrKind}, {"\x14", api.ErrKind}, {"\x18", api.ErrKind}, {"\xff", api.ErrKind},
			{"\x14\x03\x03\x00\x01\x01", api.ErrKind},
			{"\x15\x02", api.ErrForm}, {"\x16\x04", api.ErrForm}, {"\x17\x00", api.ErrForm},
			{"\x15\x03\x01", api.ErrForm}, {"\x16\x03\x02", api.ErrForm}, {"\x17\x03\x04", api.ErrForm},
			{"\x15\x03\x03\x41", api.ErrLong}, {"\x16\x03\x03\x40\x01", api.ErrLong}, {"\x17\x03\x03\x41\x01", api.ErrLong}, {"\x17\x03\x03\xff", api.ErrLong},
			{"\x16\x03\x03\x40\x01" + drawn(1, 16385), api.ErrLong},
		} {
			dies(t, placeName(place), x, c.s, c.why, nil)
			dies(t, placeName(place), x, c.s+our.records(t, atHello, atOpen), c.why, nil)
			if len(c.s) > 1 {
				waits := x
				waits.Buf = c.s[:len(c.s)-1]
				if _, _, e := rec.Unframe(waits.Buf); e == api.ErrShort {
					dies(t, placeName(place)+", with bytes that wait", waits, c.s[len(c.s)-1:], c.why, nil)
				}
			}
			if place < atOpen {
				y := our.ends[place+1]
				y.State, y.Why = api.TsDead, c.why
				said := ""
				if place == atFinish {
					said = our.ended
				}
				goes(t, placeName(place)+", behind a record", x, our.record(t, place)+c.s, y, said, "")
			}
		}
	}
}

// P16.2: plain records of each kind in each state.
func TestPlainRecords(t *testing.T) {
	our := talked(t)
	for place, x := range our.ends {
		for kind := 21; kind <= 23; kind++ {
			for _, body := range []string{"", "\x02\x28", "\x01\x00", our.messages[min(place, atFinish)], drawn(1, 300), drawn(2, 16384)} {
				why := api.ErrKind
				switch {
				case place == atHello && kind == 21:
					why = api.ErrState
				case place == atHello && kind == 22:
					continue
				case place != atHello && kind == 23 && len(body) < 16:
					why = tooShort(t, x)
				case place != atHello && kind == 23:
					why = api.ErrSeal
				}
				dies(t, recordName(place, kind), x, headed(kind, body), why, nil)
				dies(t, recordName(place, kind), x, headed(kind, body)+our.record(t, min(place, atFinish)), why, nil)
			}
		}
	}
}

// tooShort is what chapter 9 says of what has no room for a tag.
func tooShort(t testing.TB, x api.Tls) api.Errno {
	t.Helper()
	_, e := openedRecord(t, x.In, api.Record{Kind: 23, Body: "short"})
	if e == api.OK || e == api.ErrKind {
		t.Fatal(e)
	}
	return e
}

// P16.2: what records of each kind within, and of none, make of an end in each state in which they are sealed; the direction has gone on, but where what is within was no record.
func TestSealedRecords(t *testing.T) {
	our := talked(t)
	for place := atExt; place <= atOpen; place++ {
		x := our.ends[place]
		bodies := []string{"", "\x02\x28", drawn(1, 300), our.messages[min(place, atFinish)]}
		for _, body := range bodies {
			dies(t, recordName(place, 21), x, sealed(t, x.In, 21, body), api.ErrState, opens(1))
			if place == atOpen {
				dies(t, recordName(place, 22), x, sealed(t, x.In, 22, body), api.ErrKind, opens(1))
			} else {
				dies(t, recordName(place, 23), x, sealed(t, x.In, 23, body), api.ErrKind, opens(1))
			}
		}
		for _, kind := range []int{1, 20, 24, 255} {
			dies(t, "another kind within", x, sealed(t, x.In, kind, "abc"), api.ErrKind, nil)
		}
		for _, zeros := range []int{0, 1, 16385} {
			dies(t, "nothing but zeros within", x, sealedWithin(t, x.In, strings.Repeat("\x00", zeros)), api.ErrForm, nil)
		}
		dies(t, "too much within", x, sealedWithin(t, x.In, drawn(1, 16385)+"\x16"), api.ErrLong, nil)
		dies(t, "too many zeros within", x, sealedWithin(t, x.In, "\x16"+strings.Repeat("\x00", 16385)), api.ErrLong, nil)
	}
}

// P16.2: a message part that is empty, at each place, also where a part of a message waits.
func TestEmptyPart(t *testing.T) {
	our := talked(t)
	for place, x := range our.ends[:atOpen] {
		change := opens(1)
		if place == atHello {
			change = nil
		}
		dies(t, placeName(place), x, part(t, x, ""), api.ErrForm, change)
		x.Hands = our.messages[place][:6]
		dies(t, placeName(place)+", with a part that waits", x, part(t, x, ""), api.ErrForm, change)
		if place != atHello {
			dies(t, placeName(place)+", padded", x, sealedWithin(t, x.In, "\x16\x00\x00\x00"), api.ErrForm, change)
		}
	}
}

// P16.2: parts that no messages are in: the end dies of hand.All's error, and the part stays in Hands; messages that stand ahead of it are not gone through.
func TestNoMessage(t *testing.T) {
	our := talked(t)
	for place, x := range our.ends[:atOpen] {
		ahead := our.messages[place]
		for _, c := range []struct {
			body string
			why  api.Errno
		}{
			{"\x00", api.ErrKind}, {"\x03", api.ErrKind}, {"\xff", api.ErrKind}, {"\x04\x00\x00\x00", api.ErrKind},
			{"\x14\x01", api.ErrLong}, {"\x02\x00\x41", api.ErrLong}, {"\x0b\x00\x40\x01", api.ErrLong},
			{"\x14\x00\x00\x00", api.ErrForm}, {"\x14\x00\x00\x1f" + drawn(1, 31), api.ErrForm}, {"\x02\x00\x00\x01x", api.ErrForm},
			{changed(ahead, 5, 1)[:len(ahead)-1] + "?", api.OK},
			{ahead + "\x00", api.ErrKind}, {ahead + "\x08\x00\x00\x00", api.ErrForm}, {ahead + ahead + "\x14\x01", api.ErrLong},
			{strings.Repeat(agrees(t, "a"), 33), api.ErrMany}, {ahead + strings.Repeat(agrees(t, "a"), 32) + "\x08", api.ErrMany},
		} {
			change := func(y *api.Tls) {
				y.Hands += c.body
				if place != atHello {
					y.In.Seq++
				}
			}
			if c.why == api.OK { // whatever it is of, the words know
				hold(t, x, part(t, x, c.body))
				continue
			}
			dies(t, placeName(place), x, part(t, x, c.body), c.why, change)
			waits := x
			waits.Hands = c.body[:len(c.body)-1]
			if waits.Hands != "" && isPart(waits.Hands) {
				dies(t, placeName(place)+", with a part that waits", waits, part(t, x, c.body[len(c.body)-1:]), c.why, func(y *api.Tls) { change(y); y.Hands = c.body })
			}
		}
	}
}

// P16.2: thirty-two messages are not too many, but only the first is one that belongs there.
func TestManyMessages(t *testing.T) {
	our := talked(t)
	x := our.ends[atExt]
	dies(t, "32 messages", x, part(t, x, strings.Repeat(our.messages[atExt], 32)), api.ErrOrder, func(y *api.Tls) {
		y.In.Seq, y.Step, y.Log = 1, 1, our.ends[atCert].Log
	})
	dies(t, "32 messages and a part of one", x, part(t, x, strings.Repeat(our.messages[atExt], 32)+"\x0b\x00"), api.ErrOrder, func(y *api.Tls) {
		y.In.Seq, y.Step, y.Log, y.Hands = 1, 1, our.ends[atCert].Log, "\x0b\x00"
	})
}

// kinds is a message of each kind that is as right as it can be where an end is.
func kinds(t testing.TB, x api.Tls) map[int]string {
	t.Helper()
	our := talked(t)
	keys := x
	keys.Keys.Server = our.ends[atExt].Keys.Server
	return map[int]string{
		api.HsClient: our.ends[atHello].Log,
		api.HsServer: our.messages[atHello],
		api.HsExt:    our.messages[atExt],
		api.HsCert:   our.messages[atCert],
		api.HsVerify: verifies(t, x, serverSecret()),
		api.HsFinish: finishes(t, keys),
	}
}

// P16.2: at each place each message that does not belong there, alone, with others behind it, and with bytes behind it.
func TestMessagesOutOfPlace(t *testing.T) {
	our := talked(t)
	belongs := [...]int{api.HsServer, api.HsExt, api.HsCert, api.HsVerify, api.HsFinish}
	for place, x := range our.ends[:atOpen] {
		for kind, text := range kinds(t, x) {
			if kind == belongs[place] {
				continue
			}
			for _, behind := range []string{"", our.messages[place], text, "\x14", our.messages[place][:5]} {
				dies(t, placeName(place)+", another message", x, part(t, x, text+behind), api.ErrOrder, func(y *api.Tls) {
					if place != atHello {
						y.In.Seq++
					}
					if behind == "\x14" || len(behind) == 5 {
						y.Hands = behind
					}
				})
			}
		}
	}
	for kind, text := range kinds(t, our.ends[atOpen]) {
		x := our.ends[atOpen]
		dies(t, "open, a message "+strconv.Itoa(kind), x, part(t, x, text), api.ErrKind, opens(1))
	}
}

// P16.2: behind a message that belongs there: nothing may stand behind a server's hello and its HsFinish, be it a message or a part of one; behind the others all may that is in order.
func TestMessagesWithMoreBehind(t *testing.T) {
	our := talked(t)
	for place, x := range our.ends[:atOpen] {
		text := our.messages[place]
		change := opens(1)
		if place == atHello {
			change = nil
		}
		for kind, other := range kinds(t, x) {
			for _, behind := range []string{other, other[:1], other[:4], other[:len(other)-1], other + other} {
				if place == atHello || place == atFinish {
					dies(t, placeName(place)+", and more", x, part(t, x, text+behind), api.ErrOrder, func(y *api.Tls) {
						if change != nil {
							change(y)
						}
						if len(behind) < len(other) {
							y.Hands = behind
						}
					})
					continue
				}
				y, _, _ := hold(t, x, part(t, x, text+behind))
				switch {
				case len(behind) < len(other):
					if y.State != api.TsHand || y.Step != place || y.Hands != behind {
						t.Errorf("%s, and a part of a message %d: the state %d, step %d, %v", placeName(place), kind, y.State, y.Step, y.Why)
					}
				case y.State != api.TsDead && kind != api.HsCert:
					t.Errorf("%s, and a message %d: the state %d, step %d, %v", placeName(place), kind, y.State, y.Step, y.Why)
				}
			}
		}
	}
}

// P16.2: what stands behind the record of a server's hello is no longer of TsWait, and what stands behind that of its HsFinish no longer of TsHand.
func TestRecordsBehind(t *testing.T) {
	our := talked(t)
	for _, c := range []struct {
		place int
		more  string
		why   api.Errno
	}{
		{atHello, headed(21, "\x02\x28"), api.ErrKind},
		{atHello, headed(22, our.messages[atExt]), api.ErrKind},
		{atHello, headed(23, our.messages[atExt]), api.ErrSeal},
		{atFinish, headed(21, "\x02\x28"), api.ErrKind},
		{atFinish, headed(22, our.messages[atExt]), api.ErrKind},
		{atFinish, sealed(t, func() api.Side { x := our.ends[atFinish].In; x.Seq++; return x }(), 23, "tick"), api.ErrSeal},
	} {
		want := our.ends[c.place+1]
		want.State, want.Why = api.TsDead, c.why
		said := ""
		if c.place == atFinish {
			said = our.ended
		}
		goes(t, placeName(c.place), our.ends[c.place], our.record(t, c.place)+c.more, want, said, "")
	}
}

// P16.2: a hello of another Session: another one as long, a longer and a shorter one; an end without one takes none.
func TestSession(t *testing.T) {
	x := talked(t).ends[atHello]
	share := publicOf(t, drawn(4, 32))
	for _, session := range []string{"", x.Session[:31], x.Session[1:], changed(x.Session, 0, 1), changed(x.Session, 31, 0x80), strings.Repeat("\x00", 32)} {
		dies(t, "another session", x, headed(22, hello(t, session, share)), api.ErrName, nil)
		dies(t, "another session, no share", x, headed(22, hello(t, session, strings.Repeat("\x00", 32))), api.ErrName, nil)
		dies(t, "another session, more behind", x, headed(22, hello(t, session, share)+"\x08"), api.ErrOrder, func(y *api.Tls) { y.Hands = "\x08" })
		y := x
		y.Session = session
		z, _, _ := hold(t, y, headed(22, hello(t, session, share)))
		if z.State != api.TsHand {
			t.Errorf("the session %s: the state %d, %v", hexed(session), z.State, z.Why)
		}
		dies(t, "another session", y, headed(22, hello(t, x.Session, share)), api.ErrName, nil)
	}
}

// P16.2: Shares that xdh.Shared refuses: all that are of a little order, with and without the bit that plays no part.
func TestShare(t *testing.T) {
	x := talked(t).ends[atHello]
	p := new(big.Int).Sub(new(big.Int).Lsh(big.NewInt(1), 255), big.NewInt(19))
	var low []*big.Int
	for _, d := range []int64{-1, 0, 1} {
		low = append(low, new(big.Int).Add(p, big.NewInt(d)))
	}
	low = append(low, big.NewInt(0), big.NewInt(1))
	for _, s := range []string{"325606250916557431795983626356110631294008115727848805560023387167927233504", "39382357235489614581723060781553021112529911719440698176882885853963445705823"} {
		v, _ := new(big.Int).SetString(s, 10)
		low = append(low, v)
	}
	for _, v := range low {
		bytes := v.FillBytes(make([]byte, 32))
		share := make([]byte, 32)
		for i, b := range bytes {
			share[31-i] = b
		}
		for _, high := range []byte{0, 0x80} {
			s := changed(string(share), 31, high)
			dies(t, "a share of a little order", x, headed(22, hello(t, x.Session, s)), api.ErrPoint, nil)
			dies(t, "a share of a little order, more behind", x, headed(22, hello(t, x.Session, s)+hello(t, x.Session, s)), api.ErrOrder, nil)
		}
	}
	for i := range int64(5) {
		if y, _, _ := hold(t, x, headed(22, hello(t, x.Session, drawn(i, 32)))); y.State != api.TsHand || y.Keys == talked(t).ends[atExt].Keys {
			t.Errorf("another share: the state %d, %v", y.State, y.Why)
		}
	}
}

// P16.2: HsExt of another protocol.
func TestAlpn(t *testing.T) {
	x := talked(t).ends[atExt]
	for _, alpn := range []string{"ntske/2", "ntske/", "ntske/1 ", "NTSKE/1", "\x00", "ntske/1\x00", strings.Repeat("n", 32)} {
		dies(t, alpn, x, part(t, x, agrees(t, alpn)), api.ErrName, opens(1))
		dies(t, alpn+", and more", x, part(t, x, agrees(t, alpn)+talked(t).messages[atCert]+"\x0f"), api.ErrName, func(y *api.Tls) { y.In.Seq, y.Hands = 1, "\x0f" })
	}
}

// P16.2: chains that are not trusted, each for another reason.
func TestChain(t *testing.T) {
	our := talked(t)
	good := certified(t, leaf(t), rootSecret())
	make := func(change func(*api.Cert), by api.Num) string {
		c := leaf(t)
		change(&c)
		return certified(t, c, by)
	}
	nothing := func(*api.Cert) {}
	middle := api.Cert{Issuer: "r", Subject: "m", To: 1000, Key: pointOf(t, api.Num{8}), Ca: true}
	under := func(c *api.Cert) { c.Issuer = "m" }
	for _, c := range []struct {
		what  string
		certs []string
		why   api.Errno
	}{
		{"no certificate", []string{"none"}, api.ErrForm},
		{"nothing behind a certificate", []string{good, "none"}, api.ErrForm},
		{"another name", []string{make(func(c *api.Cert) { c.Names = []string{"y.a"} }, rootSecret())}, api.ErrName},
		{"no name", []string{make(func(c *api.Cert) { c.Names = nil }, rootSecret())}, api.ErrName},
		{"not yet", []string{make(func(c *api.Cert) { c.From = moment + 1 }, rootSecret())}, api.ErrTime},
		{"no longer", []string{make(func(c *api.Cert) { c.To = moment - 1 }, rootSecret())}, api.ErrTime},
		{"another root", []string{make(func(c *api.Cert) { c.Issuer = "q" }, rootSecret())}, api.ErrTrust},
		{"by nobody", []string{make(nothing, api.Num{6})}, api.ErrTrust},
		{"no link", []string{make(under, api.Num{8}), good}, api.ErrTrust},
		{"a link by another", []string{make(under, api.Num{9}), certified(t, middle, rootSecret())}, api.ErrSign},
	} {
		for _, behind := range []string{"", "\x0f\x00"} {
			x := our.ends[atCert]
			dies(t, c.what, x, part(t, x, shows(t, c.certs...)+behind), c.why, func(y *api.Tls) { y.In.Seq++; y.Hands = behind })
		}
	}
	for name, change := range map[string]func(*api.Tls) api.Errno{
		"no roots":      func(x *api.Tls) api.Errno { x.Roots = nil; return api.ErrTrust },
		"another root":  func(x *api.Tls) api.Errno { x.Roots = []api.Cert{leaf(t)}; return api.ErrTrust },
		"another name":  func(x *api.Tls) api.Errno { x.Name = "y.a"; return api.ErrName },
		"too early":     func(x *api.Tls) api.Errno { x.Now = 99; return api.ErrTime },
		"too late":      func(x *api.Tls) api.Errno { x.Now = 1001; return api.ErrTime },
		"another, name": func(x *api.Tls) api.Errno { x.Name, x.Now = "", 99; return api.ErrName },
	} {
		x := our.ends[atCert]
		why := change(&x)
		dies(t, name, x, part(t, x, our.messages[atCert]), why, opens(1))
	}
	for _, now := range []int64{100, 1000} {
		x := our.ends[atCert]
		x.Now, x.Name, x.Roots = now, "X.A", []api.Cert{leaf(t), root(t)}
		want := our.ends[atVerify]
		want.Now, want.Name, want.Roots = x.Now, x.Name, x.Roots
		goes(t, "the name and the time's edges", x, part(t, x, our.messages[atCert]), want, "", "")
	}
}

// P16.2: signatures that do not hold: by another number, of what was said with more or less, and numbers that make none.
func TestSignature(t *testing.T) {
	our := talked(t)
	x := our.ends[atVerify]
	of := func(change func(*api.Tls), by api.Num) string {
		y := x
		change(&y)
		return verifies(t, y, by)
	}
	nothing := func(*api.Tls) {}
	order, _ := num.Parse("ffffffff00000000ffffffffffffffffbce6faada7179e84f3b9cac2fc632551")
	sign := func(r, s api.Num) string {
		return written(t, api.Msg{Kind: api.HsVerify, Sign: api.Sign{R: r, S: s}})
	}
	for _, c := range []struct {
		what, text string
		why        api.Errno
	}{
		{"by another", of(nothing, rootSecret()), api.ErrSign},
		{"of less", of(func(y *api.Tls) { y.Log = our.ends[atCert].Log }, serverSecret()), api.ErrSign},
		{"of more", of(func(y *api.Tls) { y.Log += our.messages[atVerify] }, serverSecret()), api.ErrSign},
		{"of nothing", of(func(y *api.Tls) { y.Log = "" }, serverSecret()), api.ErrSign},
		{"of numbers", sign(api.Num{1}, api.Num{1}), api.ErrSign},
		{"of no R", sign(api.Num{}, api.Num{1}), api.ErrNumber},
		{"of no S", sign(api.Num{1}, api.Num{}), api.ErrNumber},
		{"of an R too great", sign(order, api.Num{1}), api.ErrNumber},
		{"of an S too great", sign(api.Num{1}, order), api.ErrNumber},
	} {
		for _, behind := range []string{"", our.messages[atFinish]} {
			dies(t, c.what, x, part(t, x, c.text+behind), c.why, opens(1))
		}
	}
	other := x
	other.Peer = pointOf(t, rootSecret())
	dies(t, "by another's key", other, part(t, other, our.messages[atVerify]), api.ErrSign, opens(1))
	want := our.ends[atFinish]
	want.Peer = other.Peer
	text := of(nothing, rootSecret())
	want.Log = x.Log + text
	goes(t, "by another's key", other, part(t, other, text), want, "", "")
}

// P16.2: a Mac that does not hold: altered in each bit, that of the client, and of what was said with more or less.
func TestMac(t *testing.T) {
	our := talked(t)
	x := our.ends[atFinish]
	of := func(mac string) string { return written(t, api.Msg{Kind: api.HsFinish, Mac: mac}) }
	right := endOf(t, x.Keys.Server, x.Log)
	wrong := []string{
		endOf(t, x.Keys.Client, x.Log),
		endOf(t, x.Keys.Base, x.Log),
		endOf(t, x.Keys.Server, our.ends[atVerify].Log),
		endOf(t, x.Keys.Server, x.Log+our.messages[atFinish]),
		strings.Repeat("\x00", 32),
	}
	for bit := range 256 {
		wrong = append(wrong, changed(right, bit/8, 1<<(bit%8)))
	}
	for _, mac := range wrong {
		dies(t, "another Mac", x, part(t, x, of(mac)), api.ErrSeal, opens(1))
	}
	dies(t, "another Mac, and more", x, part(t, x, of(wrong[0])+of(right)), api.ErrOrder, opens(1))
	goes(t, "the Mac", x, part(t, x, of(right)), our.ends[atOpen], our.ended, "")
}

// P16.2: a record that does not open: each bit altered in turn, one that came already, one that comes too early, one sealed by another direction.
func TestUnopened(t *testing.T) {
	our := talked(t)
	for place := atExt; place <= atOpen; place++ {
		x := our.ends[place]
		kind, body := 22, our.messages[min(place, atFinish)]
		if place == atOpen {
			kind = 23
		}
		text := sealed(t, x.In, kind, body)
		for i := 5; i < len(text); i++ {
			dies(t, placeName(place)+", an altered byte", x, changed(text, i, 1<<(i%8)), api.ErrSeal, nil)
		}
		for _, side := range []func(*api.Side){
			func(s *api.Side) { s.Seq++ },
			func(s *api.Side) { s.Seq-- },
			func(s *api.Side) { *s = x.Out },
			func(s *api.Side) { s.Key = changed(s.Key, 15, 1) },
			func(s *api.Side) { s.Iv = changed(s.Iv, 0, 1) },
		} {
			y := x.In
			side(&y)
			dies(t, placeName(place)+", another direction", x, sealed(t, y, kind, body), api.ErrSeal, nil)
		}
		twice := x
		twice.In.Seq++
		if place == atOpen {
			twice.State, twice.Why = api.TsDead, api.ErrSeal
			goes(t, "data twice", x, text+text, twice, "", body)
		}
	}
}

// P16.2: what an end that died holds of what the step had changed: messages ahead of the one that it died of are gone through, those behind it are not, and both are taken off.
func TestWhatTheDeadHold(t *testing.T) {
	our := talked(t)
	x := our.ends[atExt]
	badCert := shows(t, "none")
	badVerify := verifies(t, our.ends[atVerify], rootSecret())
	badFinish := written(t, api.Msg{Kind: api.HsFinish, Mac: drawn(1, 32)})
	m := our.messages
	for _, c := range []struct {
		what, body, left string
		like             int
		why              api.Errno
	}{
		{"a chain", m[atExt] + badCert, "", atCert, api.ErrForm},
		{"a chain, and more", m[atExt] + badCert + m[atVerify] + m[atFinish], "", atCert, api.ErrForm},
		{"a chain, and a part", m[atExt] + badCert + m[atVerify][:9], m[atVerify][:9], atCert, api.ErrForm},
		{"a signature", m[atExt] + m[atCert] + badVerify, "", atVerify, api.ErrSign},
		{"a signature, and more", m[atExt] + m[atCert] + badVerify + m[atFinish] + "\x14\x00", "\x14\x00", atVerify, api.ErrSign},
		{"a Mac", m[atExt] + m[atCert] + m[atVerify] + badFinish, "", atFinish, api.ErrSeal},
		{"a Mac, and more", m[atExt] + m[atCert] + m[atVerify] + badFinish + "\x14", "\x14", atFinish, api.ErrOrder},
		{"more behind the end", m[atExt] + m[atCert] + m[atVerify] + m[atFinish] + "\x14", "\x14", atFinish, api.ErrOrder},
		{"an order", m[atExt] + m[atVerify] + m[atCert], "", atCert, api.ErrOrder},
		{"a message twice", m[atExt] + m[atExt] + m[atCert][:1], "\x0b", atCert, api.ErrOrder},
	} {
		for _, rest := range []string{"", "\x17\x03", headed(21, "\x02\x28"), headed(23, drawn(1, 50))} {
			dies(t, c.what, x, part(t, x, c.body)+rest, c.why, func(y *api.Tls) {
				like := our.ends[c.like]
				y.In.Seq, y.Step, y.Log, y.Peer, y.Hands = 1, like.Step, like.Log, like.Peer, c.left
			})
		}
	}
}

// P16.2: what was told, and what was said, ahead of what an end died of stays so.
func TestWhatWasToldStays(t *testing.T) {
	our := talked(t)
	x := our.ends[atOpen]
	second := x.In
	second.Seq++
	third := second
	third.Seq++
	for _, c := range []struct {
		what, s string
		opened  uint64
		why     api.Errno
	}{
		{"no record", "\x00", 2, api.ErrKind},
		{"a plain record", headed(21, "\x02\x28"), 2, api.ErrKind},
		{"an alert", sealed(t, third, 21, "\x01\x00"), 3, api.ErrState},
		{"a message", sealed(t, third, 22, our.messages[atExt]), 3, api.ErrKind},
		{"what does not open", sealed(t, second, 23, "again"), 2, api.ErrSeal},
	} {
		data := sealed(t, x.In, 23, "tick") + sealed(t, second, 23, "tock")
		behind := sealed(t, third, 23, "never")
		want := x
		want.State, want.Why, want.In.Seq = api.TsDead, c.why, c.opened
		goes(t, c.what, x, data+c.s+behind, want, "", "ticktock")
		goes(t, c.what+", behind the handshake", our.ends[atFinish], our.record(t, atFinish)+data+c.s+behind, want, our.ended, "ticktock")
		y, _, _ := tlsc.Feed(x, data+c.s)
		stays(t, y, behind)
	}
}
