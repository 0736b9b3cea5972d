package tlss_test

import (
	"crypto/elliptic"
	"math/big"
	"slices"
	"strconv"
	"strings"
	"testing"

	"pendulum/api"
	"pendulum/rec"
	"pendulum/tlss"
)

// recordName is a record of a kind, for what a test says.
func recordName(place, kind int) string {
	return placeName(place) + ", a record " + strconv.Itoa(kind)
}

// P17.2: bytes that are no record, in each state, ahead of all else that is in them, and behind a whole record.
func TestNoRecord(t *testing.T) {
	our := talked(t)
	for place, x := range our.ends {
		for _, c := range []struct {
			s   string
			why api.Errno
		}{
			{"\x00", api.ErrKind}, {"\x14", api.ErrKind}, {"\x18", api.ErrKind}, {"\xff", api.ErrKind},
			{"\x14\x03\x03\x00\x01\x01", api.ErrKind},
			{"\x15\x02", api.ErrForm}, {"\x16\x04", api.ErrForm}, {"\x17\x00", api.ErrForm},
			{"\x15\x03\x01", api.ErrForm}, {"\x16\x03\x02", api.ErrForm}, {"\x17\x03\x04", api.ErrForm},
			{"\x15\x03\x03\x41", api.ErrLong}, {"\x16\x03\x03\x40\x01", api.ErrLong}, {"\x17\x03\x03\x41\x01", api.ErrLong}, {"\x17\x03\x03\xff", api.ErrLong},
			{"\x16\x03\x03\x40\x01" + drawn(1, 16385), api.ErrLong},
		} {
			dies(t, placeName(place), x, c.s, c.why, nil)
			dies(t, placeName(place), x, c.s+our.records(t), c.why, nil)
			if len(c.s) > 1 {
				waits := x
				waits.Buf = c.s[:len(c.s)-1]
				if _, _, e := rec.Unframe(waits.Buf); e == api.ErrShort {
					dies(t, placeName(place)+", with bytes that wait", waits, c.s[len(c.s)-1:], c.why, nil)
				}
			}
			if place < atOpen {
				y := our.ends[place+1]
				y.State, y.Why = api.TsDead, c.why
				said := ""
				if place == atHello {
					said = our.said
				}
				goes(t, placeName(place)+", behind a record", x, our.record(t, place)+c.s, y, said, "")
			}
		}
	}
}

// P17.2: plain records of each kind in each state.
func TestPlainRecords(t *testing.T) {
	our := talked(t)
	for place, x := range our.ends {
		for kind := 21; kind <= 23; kind++ {
			for _, body := range []string{"", "\x02\x28", "\x01\x00", our.messages[min(place, atFinish)], drawn(1, 300), drawn(2, 16384)} {
				why := api.ErrKind
				switch {
				case place == atHello && kind == 21:
					why = api.ErrState
				case place == atHello && kind == 22:
					continue
				case place != atHello && kind == 23 && len(body) < 16:
					why = tooShort(t, x)
				case place != atHello && kind == 23:
					why = api.ErrSeal
				}
				dies(t, recordName(place, kind), x, headed(kind, body), why, nil)
				dies(t, recordName(place, kind), x, headed(kind, body)+our.record(t, min(place, atFinish)), why, nil)
			}
		}
	}
}

// tooShort is what chapter 9 says of what has no room for a tag.
func tooShort(t testing.TB, x api.Tls) api.Errno {
	t.Helper()
	_, e := openedRecord(t, x.In, api.Record{Kind: 23, Body: "short"})
	if e == api.OK || e == api.ErrKind {
		t.Fatal(e)
	}
	return e
}

// P17.2: what records of each kind within, and of none, make of an end in both states in which they are sealed; the direction has gone on, but where what is within was no record.
func TestSealedRecords(t *testing.T) {
	our := talked(t)
	for place := atFinish; place <= atOpen; place++ {
		x := our.ends[place]
		for _, body := range []string{"", "\x02\x28", drawn(1, 300), our.messages[atFinish]} {
			dies(t, recordName(place, 21), x, sealed(t, x.In, 21, body), api.ErrState, opens(1))
			if place == atOpen {
				dies(t, recordName(place, 22), x, sealed(t, x.In, 22, body), api.ErrKind, opens(1))
			} else {
				dies(t, recordName(place, 23), x, sealed(t, x.In, 23, body), api.ErrKind, opens(1))
			}
		}
		for _, kind := range []int{1, 20, 24, 255} {
			dies(t, "another kind within", x, sealed(t, x.In, kind, "abc"), api.ErrKind, nil)
		}
		for _, zeros := range []int{0, 1, 16385} {
			dies(t, "nothing but zeros within", x, sealedWithin(t, x.In, strings.Repeat("\x00", zeros)), api.ErrForm, nil)
		}
		dies(t, "too much within", x, sealedWithin(t, x.In, drawn(1, 16385)+"\x16"), api.ErrLong, nil)
		dies(t, "too many zeros within", x, sealedWithin(t, x.In, "\x16"+strings.Repeat("\x00", 16385)), api.ErrLong, nil)
	}
}

// P17.2: a message part that is empty, in both states, also where a part of a message waits.
func TestEmptyPart(t *testing.T) {
	our := talked(t)
	for place, x := range our.ends[:atOpen] {
		dies(t, placeName(place), x, part(t, x, ""), api.ErrForm, opensAt(place, ""))
		x.Hands = our.messages[place][:6]
		dies(t, placeName(place)+", with a part that waits", x, part(t, x, ""), api.ErrForm, opensAt(place, x.Hands))
		if place != atHello {
			dies(t, placeName(place)+", padded", x, sealedWithin(t, x.In, "\x16\x00\x00\x00"), api.ErrForm, opensAt(place, x.Hands))
		}
	}
}

// P17.2: parts that no messages are in: the end dies of hand.All's error, and the part stays in Hands; messages that stand ahead of it are not gone through.
func TestNoMessage(t *testing.T) {
	our := talked(t)
	ext := written(t, api.Msg{Kind: api.HsExt, Alpn: "a"})
	for place, x := range our.ends[:atOpen] {
		ahead := our.messages[place]
		for _, c := range []struct {
			body string
			why  api.Errno
		}{
			{"\x00", api.ErrKind}, {"\x03", api.ErrKind}, {"\xff", api.ErrKind}, {"\x04\x00\x00\x00", api.ErrKind},
			{"\x14\x01", api.ErrLong}, {"\x01\x00\x41", api.ErrLong}, {"\x0b\x00\x40\x01", api.ErrLong},
			{"\x14\x00\x00\x00", api.ErrForm}, {"\x14\x00\x00\x1f" + drawn(1, 31), api.ErrForm}, {"\x01\x00\x00\x01x", api.ErrForm},
			{changed(our.messages[atHello], 5, 1), api.ErrForm},
			{ahead + "\x00", api.ErrKind}, {ahead + "\x08\x00\x00\x00", api.ErrForm}, {ahead + ahead + "\x14\x01", api.ErrLong},
			{strings.Repeat(ext, 33), api.ErrMany}, {ahead + strings.Repeat(ext, 32) + "\x08", api.ErrMany},
		} {
			dies(t, placeName(place), x, part(t, x, c.body), c.why, opensAt(place, c.body))
			waits := x
			waits.Hands = c.body[:len(c.body)-1]
			if waits.Hands != "" && isPart(waits.Hands) {
				dies(t, placeName(place)+", with a part that waits", waits, part(t, x, c.body[len(c.body)-1:]), c.why, opensAt(place, c.body))
			}
		}
	}
}

// P17.2: thirty-two messages are not too many, but the first one has to be alone.
func TestManyMessages(t *testing.T) {
	our := talked(t)
	for place, x := range our.ends[:atOpen] {
		text := our.messages[place]
		dies(t, "32 messages", x, part(t, x, strings.Repeat(text, 32)), api.ErrOrder, opensAt(place, ""))
		dies(t, "32 messages and a part of one", x, part(t, x, strings.Repeat(text, 32)+text[:2]), api.ErrOrder, opensAt(place, text[:2]))
		dies(t, "33 messages", x, part(t, x, strings.Repeat(text, 33)), api.ErrMany, opensAt(place, strings.Repeat(text, 33)))
	}
}

// kinds is a message of each kind that is as right as it can be where an end is.
func kinds(t testing.TB, x api.Tls) map[int]string {
	t.Helper()
	our := talked(t)
	s, e := signature(t, serverSecret(), api.Num{3}, signed(x.Log))
	if e != api.OK {
		t.Fatal(e)
	}
	keys := x
	keys.Keys = our.ends[atFinish].Keys
	return map[int]string{
		api.HsClient: our.messages[atHello],
		api.HsServer: written(t, api.Msg{Kind: api.HsServer, Random: drawn(5, 32), Session: drawn(3, 32), Share: publicOf(t, drawn(1, 32))}),
		api.HsExt:    written(t, api.Msg{Kind: api.HsExt, Alpn: "ntske/1"}),
		api.HsCert:   written(t, api.Msg{Kind: api.HsCert, Certs: x.Certs}),
		api.HsVerify: written(t, api.Msg{Kind: api.HsVerify, Sign: s}),
		api.HsFinish: finishes(t, keys),
	}
}

// P17.2: in both states each message that does not belong there, alone, with others behind it, and with bytes behind it; to an open end none belongs.
func TestMessagesOutOfPlace(t *testing.T) {
	our := talked(t)
	belongs := [...]int{api.HsClient, api.HsFinish}
	for place, x := range our.ends[:atOpen] {
		for kind, text := range kinds(t, x) {
			if kind == belongs[place] {
				continue
			}
			for _, behind := range []string{"", our.messages[place], text, "\x14", our.messages[place][:5]} {
				left := behind
				if len(behind) > 5 {
					left = ""
				}
				dies(t, placeName(place)+", another message", x, part(t, x, text+behind), api.ErrOrder, opensAt(place, left))
			}
		}
	}
	for kind, text := range kinds(t, our.ends[atOpen]) {
		x := our.ends[atOpen]
		dies(t, "open, a message "+strconv.Itoa(kind), x, part(t, x, text), api.ErrKind, opens(1))
	}
}

// P17.2: behind a client's hello and its HsFinish nothing may stand, be it a message or a part of one, also where the rest of them has come in records of their own.
func TestMessagesWithMoreBehind(t *testing.T) {
	our := talked(t)
	for place, x := range our.ends[:atOpen] {
		text := our.messages[place]
		for _, other := range kinds(t, x) {
			for _, behind := range []string{other, other[:1], other[:4], other[:len(other)-1], other + other, other + "\x14"} {
				left := ""
				switch {
				case len(behind) < len(other):
					left = behind
				case len(behind) == len(other)+1:
					left = "\x14"
				}
				dies(t, placeName(place)+", and more", x, part(t, x, text+behind), api.ErrOrder, opensAt(place, left))
				waits := x
				waits.Hands = text[:9]
				dies(t, placeName(place)+", and more", waits, part(t, x, text[9:]+behind), api.ErrOrder, opensAt(place, left))
			}
		}
	}
}

// P17.2: what stands behind the record of a hello is no longer of TsWait, and what stands behind that of an HsFinish no longer of TsHand; what was said ahead stays said.
func TestRecordsBehind(t *testing.T) {
	our := talked(t)
	for _, c := range []struct {
		place int
		more  string
		why   api.Errno
	}{
		{atHello, headed(21, "\x02\x28"), api.ErrKind},
		{atHello, headed(22, our.messages[atHello]), api.ErrKind},
		{atHello, headed(22, our.messages[atFinish]), api.ErrKind},
		{atHello, headed(23, our.messages[atFinish]), api.ErrSeal},
		{atFinish, headed(21, "\x02\x28"), api.ErrKind},
		{atFinish, headed(22, our.messages[atFinish]), api.ErrKind},
		{atFinish, sealed(t, func() api.Side { x := our.ends[atFinish].In; x.Seq++; return x }(), 23, "tick"), api.ErrSeal},
	} {
		want := our.ends[c.place+1]
		want.State, want.Why = api.TsDead, c.why
		said := ""
		if c.place == atHello {
			said = our.said
		}
		goes(t, placeName(c.place), our.ends[c.place], our.record(t, c.place)+c.more, want, said, "")
		goes(t, placeName(c.place), our.ends[c.place], our.record(t, c.place)+c.more+our.record(t, atFinish), want, said, "")
	}
}

// lowShares are the Shares that xdh.Shared refuses: all that are of a little order, with and without the bit that plays no part.
func lowShares() []string {
	p := new(big.Int).Sub(new(big.Int).Lsh(big.NewInt(1), 255), big.NewInt(19))
	low := []*big.Int{big.NewInt(0), big.NewInt(1)}
	for _, d := range []int64{-1, 0, 1} {
		low = append(low, new(big.Int).Add(p, big.NewInt(d)))
	}
	for _, s := range []string{"325606250916557431795983626356110631294008115727848805560023387167927233504", "39382357235489614581723060781553021112529911719440698176882885853963445705823"} {
		v, _ := new(big.Int).SetString(s, 10)
		low = append(low, v)
	}
	var out []string
	for _, v := range low {
		bytes := v.FillBytes(make([]byte, 32))
		share := make([]byte, 32)
		for i, b := range bytes {
			share[31-i] = b
		}
		out = append(out, string(share), changed(string(share), 31, 0x80))
	}
	return out
}

// P17.2, rule 0.2: hellos that are refused, each for another reason, and which reason comes first: what stands behind, the protocol, the Share, the certificates, the numbers. Nothing is said, and nothing is changed.
func TestHelloRefused(t *testing.T) {
	our := talked(t)
	low := lowShares()[0]
	other := func(m *api.Msg) { m.Alpn = "ntske/2" }
	pointless := func(m *api.Msg) { m.Share = low }
	both := func(m *api.Msg) { other(m); pointless(m) }
	right := func(*api.Msg) {}
	unfit := func(x *api.Tls) { x.Certs = nil }
	unsigned := func(x *api.Tls) { x.Draw = api.Num{} }
	neither := func(x *api.Tls) { unfit(x); unsigned(x) }
	fine := func(*api.Tls) {}
	for _, c := range []struct {
		change func(*api.Msg)
		end    func(*api.Tls)
		why    api.Errno
	}{
		{other, fine, api.ErrName}, {other, neither, api.ErrName}, {both, fine, api.ErrName}, {both, neither, api.ErrName},
		{pointless, fine, api.ErrPoint}, {pointless, unfit, api.ErrPoint}, {pointless, unsigned, api.ErrPoint}, {pointless, neither, api.ErrPoint},
		{right, unfit, api.ErrForm}, {right, neither, api.ErrForm}, {right, unsigned, api.ErrNumber},
	} {
		x := our.ends[atHello]
		c.end(&x)
		text := greets(t, c.change)
		dies(t, "a hello", x, headed(22, text), c.why, nil)
		dies(t, "a hello, and records behind", x, headed(22, text)+headed(22, text)+"\x00", c.why, nil)
		dies(t, "a hello, and a part of a record", x, headed(22, text)+"\x16\x03", c.why, nil)
		dies(t, "a hello, and another one", x, headed(22, text+text), api.ErrOrder, nil)
		dies(t, "a hello, and a part of another one", x, headed(22, text+text[:7]), api.ErrOrder, func(y *api.Tls) { y.Hands = text[:7] })
		dies(t, "a hello, and no message", x, headed(22, text+"\x00"), api.ErrKind, func(y *api.Tls) { y.Hands = text + "\x00" })
		dies(t, "an alert", x, headed(21, text), api.ErrState, nil)
	}
}

// P17.2: hellos of other protocols.
func TestAlpn(t *testing.T) {
	x := talked(t).ends[atHello]
	for _, alpn := range []string{"ntske/2", "ntske/", "ntske/1 ", "NTSKE/1", "\x00", "ntske/1\x00", strings.Repeat("n", 32)} {
		dies(t, alpn, x, headed(22, greets(t, func(m *api.Msg) { m.Alpn = alpn })), api.ErrName, nil)
	}
}

// P17.2: Shares that xdh.Shared refuses.
func TestShare(t *testing.T) {
	x := talked(t).ends[atHello]
	for _, share := range lowShares() {
		dies(t, "a share of a little order", x, headed(22, greets(t, func(m *api.Msg) { m.Share = share })), api.ErrPoint, nil)
	}
}

// P17.2: certificates of which no HsCert is fit: none, too many, empty ones, and too long ones, at each place; so all that would take more than one record.
func TestCerts(t *testing.T) {
	hello := talked(t).record(t, atHello)
	long := drawn(1, 2049)
	for _, certs := range [][]string{
		nil, {}, {""}, {long}, {strings.Repeat("x", 20000)},
		{"", "b", "c", "d"}, {"a", "", "c", "d"}, {"a", "b", "", "d"}, {"a", "b", "c", ""},
		{long, "b", "c", "d"}, {"a", long}, {"a", "b", long, "d"}, {"a", "b", "c", long},
		{"a", "b", "c", "d", "e"}, {"a", "b", "c", "d", ""}, {long, long, long, long}, slices.Repeat([]string{drawn(1, 2048)}, 9), slices.Repeat([]string{"x"}, 40),
	} {
		x := waiting(certs...)
		dies(t, strconv.Itoa(len(certs))+" certificates", x, hello, api.ErrForm, nil)
		x.Key, x.Draw = api.Num{}, api.Num{}
		dies(t, strconv.Itoa(len(certs))+" certificates, no number", x, hello, api.ErrForm, nil)
	}
}

// P17.2: numbers of which ecdsa.Sign makes no signature: those that are none, and one by which S is 0.
func TestNumbers(t *testing.T) {
	our := talked(t)
	order := orderOf(t)
	above := order
	above[0]++
	most := api.Num{1<<64 - 1, 1<<64 - 1, 1<<64 - 1, 1<<64 - 1}
	for _, n := range []api.Num{{}, order, above, most} {
		for _, other := range []api.Num{{1}, {12345}, n} {
			x := our.ends[atHello]
			x.Key, x.Draw = n, other
			dies(t, "a Key that is none", x, our.record(t, atHello), api.ErrNumber, nil)
			x.Key, x.Draw = other, n
			dies(t, "a Draw that is none", x, our.record(t, atHello), api.ErrNumber, nil)
		}
	}
	x := our.ends[atHello]
	x.Key = emptying(t, our)
	dies(t, "an S of 0", x, our.record(t, atHello), api.ErrNumber, nil)
	x.Key[0]++
	if y, _, _ := hold(t, x, our.record(t, atHello)); y.State != api.TsHand {
		t.Errorf("a Key beside that one: the state %d, %v", y.State, y.Why)
	}
}

// emptying is the Key by which S of what is signed is 0: with R of Draw, and z of the digest, z and R times it are.
func emptying(t testing.TB, our talk) api.Num {
	t.Helper()
	log := our.ends[atFinish].Log
	_, texts := messagesOf(t, log)
	ahead := strings.Join(texts[:4], "")
	s, e := signature(t, api.Num{1}, our.ends[atHello].Draw, signed(ahead))
	if e != api.OK {
		t.Fatal(e)
	}
	n := elliptic.P256().Params().N
	d := new(big.Int).SetBytes([]byte(signed(ahead)))
	d.Neg(d)
	d.Mul(d, new(big.Int).ModInverse(value(s.R), n))
	return number(t, d.Mod(d, n))
}

// P17.2: a Mac that does not hold: altered in each bit, that of the server, and of what was said with more or less.
func TestMac(t *testing.T) {
	our := talked(t)
	x := our.ends[atFinish]
	of := func(mac string) string { return written(t, api.Msg{Kind: api.HsFinish, Mac: mac}) }
	_, texts := messagesOf(t, x.Log)
	right := endOf(t, x.Keys.Client, x.Log)
	wrong := []string{
		endOf(t, x.Keys.Server, x.Log),
		endOf(t, x.Keys.Base, x.Log),
		endOf(t, x.App.Client, x.Log),
		endOf(t, x.Keys.Client, strings.Join(texts[:5], "")),
		endOf(t, x.Keys.Client, x.Log+our.messages[atFinish]),
		strings.Repeat("\x00", 32),
	}
	for bit := range 256 {
		wrong = append(wrong, changed(right, bit/8, 1<<(bit%8)))
	}
	for _, mac := range wrong {
		dies(t, "another Mac", x, part(t, x, of(mac)), api.ErrSeal, opens(1))
	}
	dies(t, "another Mac, and more", x, part(t, x, of(wrong[0])+of(right)), api.ErrOrder, opens(1))
	goes(t, "the Mac", x, part(t, x, of(right)), our.ends[atOpen], "", "")
}

// P17.2: a record that does not open: each byte altered in turn, one that came already, one that comes too early, one sealed by another direction.
func TestUnopened(t *testing.T) {
	our := talked(t)
	for place := atFinish; place <= atOpen; place++ {
		x := our.ends[place]
		kind, body := 22, our.messages[atFinish]
		if place == atOpen {
			kind = 23
		}
		text := sealed(t, x.In, kind, body)
		for i := 5; i < len(text); i++ {
			dies(t, placeName(place)+", an altered byte", x, changed(text, i, 1<<(i%8)), api.ErrSeal, nil)
		}
		for _, side := range []func(*api.Side){
			func(s *api.Side) { s.Seq++ },
			func(s *api.Side) { s.Seq-- },
			func(s *api.Side) { *s = x.Out },
			func(s *api.Side) { *s = sideOf(t, x.Keys.Server) },
			func(s *api.Side) { *s = our.ends[atFinish+atOpen-place].In },
			func(s *api.Side) { s.Key = changed(s.Key, 15, 1) },
			func(s *api.Side) { s.Iv = changed(s.Iv, 0, 1) },
		} {
			y := x.In
			side(&y)
			dies(t, placeName(place)+", another direction", x, sealed(t, y, kind, body), api.ErrSeal, nil)
		}
	}
	x := our.ends[atOpen]
	text := sealed(t, x.In, 23, "tick")
	want := x
	want.State, want.Why, want.In.Seq = api.TsDead, api.ErrSeal, 1
	goes(t, "data twice", x, text+text, want, "", "tick")
}

// P17.2: what was told, and what was said, ahead of what an end died of stays so.
func TestWhatWasToldStays(t *testing.T) {
	our := talked(t)
	x := our.ends[atOpen]
	second := x.In
	second.Seq++
	third := second
	third.Seq++
	for _, c := range []struct {
		what, s string
		opened  uint64
		why     api.Errno
	}{
		{"no record", "\x00", 2, api.ErrKind},
		{"a plain record", headed(21, "\x02\x28"), 2, api.ErrKind},
		{"an alert", sealed(t, third, 21, "\x01\x00"), 3, api.ErrState},
		{"a message", sealed(t, third, 22, our.messages[atFinish]), 3, api.ErrKind},
		{"what does not open", sealed(t, second, 23, "again"), 2, api.ErrSeal},
	} {
		data := sealed(t, x.In, 23, "tick") + sealed(t, second, 23, "tock")
		behind := sealed(t, third, 23, "never")
		want := x
		want.State, want.Why, want.In.Seq = api.TsDead, c.why, c.opened
		goes(t, c.what, x, data+c.s+behind, want, "", "ticktock")
		goes(t, c.what+", behind the end of a handshake", our.ends[atFinish], our.record(t, atFinish)+data+c.s+behind, want, "", "ticktock")
		goes(t, c.what+", behind a handshake", our.ends[atHello], our.records(t)+data+c.s+behind, want, our.said, "ticktock")
		y, _, _ := tlss.Feed(x, data+c.s)
		stays(t, y, behind)
	}
}
