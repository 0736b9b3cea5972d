package tlss_test

import (
	"strings"
	"testing"

	"pendulum/api"
	"pendulum/hand"
	"pendulum/rec"
	"pendulum/tlsc"
	"pendulum/tlss"
)

// P17.2: a client's hello leads a server's end into the handshake, and its HsFinish opens it.
func TestHandshake(t *testing.T) {
	our := talked(t)
	x, e := tlss.Listen(our.ends[atHello].Certs, serverSecret(), api.Num{12345}, drawn(5, 32), drawn(4, 32))
	if e != api.OK {
		t.Fatal(e)
	}
	goes(t, "a hello", x, our.record(t, atHello), our.ends[atFinish], our.said, "")
	x, said, _ := tlss.Feed(x, our.record(t, atHello))
	if x.State != api.TsHand || x.Step != 0 || x.Name != host || x.Session != drawn(3, 32) || x.Out.Seq != 0 || x.In.Seq != 0 || said == "" {
		t.Errorf("behind a hello the end is in the state %d, step %d", x.State, x.Step)
	}
	goes(t, "an end of the handshake", x, our.record(t, atFinish), our.ends[atOpen], "", "")
	x, _, _ = tlss.Feed(x, our.record(t, atFinish))
	if x.State != api.TsOpen || x.Step != 1 || x.Hands != "" || x.Buf != "" || x.Why != api.OK || x.In.Seq != 0 || x.Out.Seq != 0 || x.Peer != (api.Point{}) {
		t.Errorf("the end is in the state %d, step %d", x.State, x.Step)
	}
}

// P17.2: the handshake, and data behind it, at once.
func TestHandshakeAtOnce(t *testing.T) {
	our := talked(t)
	goes(t, "two records at once", our.ends[atHello], our.records(t), our.ends[atOpen], our.said, "")
	side := our.ends[atOpen].In
	next := side
	next.Seq++
	want := our.ends[atOpen]
	want.In.Seq = 2
	data := sealed(t, side, 23, "tick") + sealed(t, next, 23, "tock")
	goes(t, "the handshake and data at once", our.ends[atHello], our.records(t)+data, want, our.said, "ticktock")
	goes(t, "an end of the handshake and data at once", our.ends[atFinish], our.record(t, atFinish)+data, want, "", "ticktock")
	want.Buf = "\x17\x03\x03\x00\x20"
	goes(t, "the handshake, data, and what is no whole record", our.ends[atHello], our.records(t)+data+want.Buf, want, our.said, "ticktock")
}

// messagesOf are those of a text, each with its bytes.
func messagesOf(t testing.TB, text string) ([]api.Msg, []string) {
	t.Helper()
	list, left, e := hand.All(text)
	if e != api.OK || left != "" {
		t.Fatalf("%s: %s is left, %v", hexed(text), hexed(left), e)
	}
	var texts []string
	for range list {
		size := 4 + int(text[1])<<16 + int(text[2])<<8 + int(text[3])
		texts = append(texts, text[:size])
		text = text[size:]
	}
	return list, texts
}

// holdAnswer goes through what a server says to a hello as its client does, record by record and message by message.
func holdAnswer(t *testing.T, x api.Tls, hello, said string, certs []string, session string) {
	t.Helper()
	first, rest, e := rec.Unframe(said)
	if e != api.OK || first.Kind != api.RecHand {
		t.Fatalf("the first record is of the kind %d, %v", first.Kind, e)
	}
	list, _ := messagesOf(t, first.Body)
	if len(list) != 1 || !hand.Same(list[0], api.Msg{Kind: api.HsServer, Random: x.Random, Session: session, Share: publicOf(t, x.Secret)}) {
		t.Errorf("the first record has %v", list)
	}
	shared, e := sharedBy(t, drawn(1, 32), list[0].Share)
	if e != api.OK {
		t.Fatal(e)
	}
	log := hello + first.Body
	keys := handSecrets(t, shared, log)
	side := sideOf(t, keys.Server)
	flight := ""
	for rest != "" {
		r, behind, e := rec.Unframe(rest)
		if e != api.OK || r.Kind != api.RecData {
			t.Fatalf("a record of the kind %d, %v", r.Kind, e)
		}
		inner, e := openedRecord(t, side, r)
		if e != api.OK || inner.Kind != api.RecHand || len(inner.Body) != len(r.Body)-17 {
			t.Fatalf("a record of the kind %d within, %d bytes of %d, %v", inner.Kind, len(inner.Body), len(r.Body), e)
		}
		if len(inner.Body) < 16384 && behind != "" {
			t.Errorf("a record of %d bytes has another one behind it", len(inner.Body))
		}
		flight, rest = flight+inner.Body, behind
		side.Seq++
	}
	list, texts := messagesOf(t, flight)
	if len(list) != 4 || list[2].Kind != api.HsVerify || !holds(t, x.Key, log+texts[0]+texts[1], list[2].Sign) {
		t.Fatalf("the messages are %v", list)
	}
	for i, want := range []api.Msg{
		{Kind: api.HsExt, Alpn: "ntske/1"},
		{Kind: api.HsCert, Certs: certs},
		{Kind: api.HsVerify, Sign: list[2].Sign},
		{Kind: api.HsFinish, Mac: endOf(t, keys.Server, log+texts[0]+texts[1]+texts[2])},
	} {
		if !hand.Same(list[i], want) {
			t.Errorf("the message %d is %v; want %v", i, list[i], want)
		}
	}
}

// P17.2: what is said to a hello, with certificates of any length that is fit: whatever they are, their texts are not looked into.
func TestAnswer(t *testing.T) {
	good := certified(t, leaf(t), rootSecret())
	for _, certs := range [][]string{
		{good}, {good, good}, {"x"}, {drawn(1, 2048)}, {"a", "b", "c", "d"},
		{drawn(1, 2048), drawn(2, 2048), drawn(3, 2048), drawn(4, 2048)},
		{drawn(1, 2047), "x", drawn(2, 2048), strings.Repeat("\x00", 2048)},
	} {
		x := waiting(certs...)
		our := talkWith(t, x, greeting(t))
		goes(t, "a hello", x, our.record(t, atHello), our.ends[atFinish], our.said, "")
		goes(t, "an end of the handshake", our.ends[atFinish], our.record(t, atFinish), our.ends[atOpen], "", "")
		_, said, _ := tlss.Feed(x, our.record(t, atHello))
		holdAnswer(t, x, our.messages[atHello], said, certs, drawn(3, 32))
	}
}

// P17.2: numbers that make a signature, up to the edges.
func TestAnswerNumbers(t *testing.T) {
	last := orderOf(t)
	last[0]--
	for _, n := range []api.Num{{1}, {2}, {1, 2, 3, 4}, {0, 0, 0, 1 << 63}, last} {
		for _, k := range []api.Num{{1}, {5, 6, 7, 8}, last} {
			x := waiting("x")
			x.Key, x.Draw = n, k
			our := talkWith(t, x, greeting(t))
			goes(t, "a hello", x, our.record(t, atHello), our.ends[atFinish], our.said, "")
			holdAnswer(t, x, our.messages[atHello], our.said, []string{"x"}, drawn(3, 32))
		}
	}
}

// P17.2: hellos of any Session, Name and Random; a server says the Session again, and keeps the Name.
func TestHellos(t *testing.T) {
	var hellos []api.Msg
	for _, size := range []int{0, 1, 8, 31, 32} {
		m := greeting(t)
		m.Session = drawn(7, size)
		hellos = append(hellos, m)
	}
	for _, name := range []string{"a", "!", "~", "time.example.org", "X.A", strings.Repeat("n", 64)} {
		m := greeting(t)
		m.Name, m.Random = name, strings.Repeat(name[:1], 32)
		hellos = append(hellos, m)
	}
	for i := range int64(4) {
		m := greeting(t)
		m.Share = drawn(20+i, 32)
		hellos = append(hellos, m)
	}
	each(len(hellos), func(i int) {
		x := waiting("x")
		our := talkWith(t, x, hellos[i])
		goes(t, "a hello", x, our.record(t, atHello), our.ends[atFinish], our.said, "")
		y, said, _ := tlss.Feed(x, our.record(t, atHello))
		if y.Session != hellos[i].Session || y.Name != hellos[i].Name {
			t.Errorf("the Session is %s, the Name %q", hexed(y.Session), y.Name)
		}
		if hellos[i].Share == greeting(t).Share {
			holdAnswer(t, x, our.messages[atHello], said, []string{"x"}, hellos[i].Session)
		}
		goes(t, "an end of the handshake", y, our.record(t, atFinish), our.ends[atOpen], "", "")
	})
}

// P17.2: what a server says hangs on its secret, its random, and its numbers.
func TestAnswersDiffer(t *testing.T) {
	seen := map[string]bool{}
	for _, change := range []func(*api.Tls){
		func(*api.Tls) {},
		func(x *api.Tls) { x.Secret = drawn(40, 32) },
		func(x *api.Tls) { x.Random = drawn(40, 32) },
		func(x *api.Tls) { x.Key = api.Num{3} },
		func(x *api.Tls) { x.Draw = api.Num{3} },
		func(x *api.Tls) { x.Certs = []string{"y"} },
		func(x *api.Tls) { x.Certs = []string{"x", "x"} },
	} {
		x := waiting("x")
		change(&x)
		_, said, _ := hold(t, x, headed(22, written(t, greeting(t))))
		if said == "" || seen[said] {
			t.Errorf("a server says %s, as another one does", hexed(said))
		}
		seen[said] = true
	}
}

// P17.2: bits of a secret that play no part (chapter 3) are kept, and what is said and agreed upon is alike.
func TestSecretsAlike(t *testing.T) {
	x, y := waiting("x"), waiting("x")
	y.Secret = changed(changed(x.Secret, 0, 7), 31, 0x80)
	hello := headed(22, written(t, greeting(t)))
	a, said, _ := hold(t, x, hello)
	b, other, _ := hold(t, y, hello)
	if said != other || b.Secret != y.Secret || a.App != b.App || a.Log != b.Log {
		t.Errorf("secrets alike make unlike answers")
	}
}

// P17.2: padding plays no part.
func TestPadding(t *testing.T) {
	our := talked(t)
	for _, pad := range []int{1, 2, 100, 16000} {
		zeros := strings.Repeat("\x00", pad)
		goes(t, "a padded message", our.ends[atFinish], sealedWithin(t, our.ends[atFinish].In, our.messages[atFinish]+"\x16"+zeros), our.ends[atOpen], "", "")
		want := our.ends[atOpen]
		want.In.Seq = 1
		goes(t, "padded data", our.ends[atOpen], sealedWithin(t, our.ends[atOpen].In, "tick\x17"+zeros), want, "", "tick")
		goes(t, "padded data of nothing", our.ends[atOpen], sealedWithin(t, our.ends[atOpen].In, "\x17"+zeros), want, "", "")
	}
}

// P17.2: nothing that comes changes nothing, in each state.
func TestFeedOfNothing(t *testing.T) {
	our := talked(t)
	for place, x := range our.ends {
		goes(t, placeName(place), x, "", x, "", "")
		x.Buf = headed(23, drawn(1, 100))[:50]
		goes(t, placeName(place)+", with bytes that wait", x, "", x, "", "")
	}
}

// P17.2: bytes that are no whole record yet wait in Buf, in each state, up to the record's last byte.
func TestFeedOfPartOfARecord(t *testing.T) {
	our := talked(t)
	for place, x := range our.ends[:atOpen] {
		s := our.record(t, place)
		for n := range len(s) {
			want := x
			want.Buf = s[:n]
			goes(t, placeName(place), x, s[:n], want, "", "")
		}
	}
	long := sealed(t, our.ends[atOpen].In, 23, drawn(1, 16384))
	for _, n := range []int{0, 1, 4, 5, 6, 16384, len(long) - 1} {
		want := our.ends[atOpen]
		want.Buf = long[:n]
		goes(t, "open", our.ends[atOpen], long[:n], want, "", "")
	}
}

// P17.2: one byte at a time.
func TestFeedOfBytes(t *testing.T) {
	our := talked(t)
	x := our.ends[atHello]
	stream := our.records(t) + sealed(t, our.ends[atOpen].In, 23, "tick")
	allSaid, allTold := "", ""
	for i := range len(stream) {
		y, said, told := hold(t, x, stream[i:i+1])
		x, allSaid, allTold = y, allSaid+said, allTold+told
	}
	want := our.ends[atOpen]
	want.In.Seq = 1
	if differ := differences(x, want); differ != "" || allSaid != our.said || allTold != "tick" {
		t.Errorf("one byte at a time:%s said %s, told %s", differ, hexed(allSaid), hexed(allTold))
	}
}

// singly is a text's bytes, each alone.
func singly(text string) []string {
	var out []string
	for i := range len(text) {
		out = append(out, text[i:i+1])
	}
	return out
}

// P17.2: messages that are cut between records, at each place, and in records of one byte; what is no whole message waits in Hands.
func TestMessagesCut(t *testing.T) {
	our := talked(t)
	for place, x := range our.ends[:atOpen] {
		text := our.messages[place]
		next := our.ends[place+1]
		said := ""
		if place == atHello {
			said = our.said
		}
		each(len(text)-1, func(i int) {
			n := i + 1
			want := x
			opensAt(place, text[:n])(&want)
			goes(t, "a part of a message", x, part(t, x, text[:n]), want, "", "")
			goes(t, "a message cut in two", x, parts(t, x, text[:n], text[n:]), next, said, "")
			goes(t, "the rest of a message", want, part(t, want, text[n:]), next, said, "")
		})
		goes(t, "a message of single bytes", x, parts(t, x, singly(text)...), next, said, "")
	}
}

// P17.2: data is told in the order in which it came, whatever its length, and nothing else changes.
func TestData(t *testing.T) {
	x := talked(t).ends[atOpen]
	stream, all := "", ""
	side := x.In
	for i, size := range []int{0, 1, 2, 0, 255, 256, 16383, 16384, 5, 16384, 0} {
		body := drawn(int64(i), size)
		stream += sealed(t, side, 23, body)
		all += body
		side.Seq++
	}
	want := x
	want.In = side
	goes(t, "data", x, stream, want, "", all)
	want.Buf = "\x17\x03\x03\x00\x20"
	goes(t, "data, and what is no whole record", x, stream+want.Buf, want, "", all)
}

// P17.2: data goes on at any place of a direction.
func TestDataPlaces(t *testing.T) {
	for _, seq := range []uint64{1, 255, 256, 1 << 32, 1 << 63, 1<<64 - 2} {
		x := talked(t).ends[atOpen]
		x.In.Seq = seq
		want := x
		want.In.Seq++
		goes(t, "data", x, sealed(t, x.In, 23, "tick"), want, "", "tick")
	}
	x := talked(t).ends[atOpen]
	x.In.Seq = 1<<64 - 1
	dies(t, "behind the last place", x, headed(23, drawn(1, 30)), api.ErrMany, nil)
	dies(t, "behind the last place", x, headed(22, drawn(1, 30)), api.ErrKind, nil)
}

// P17.2: an end of which a text was sent hears as it did, and what it sends is sealed by its own direction.
func TestSendBesideFeed(t *testing.T) {
	x := talked(t).ends[atOpen]
	for i := range 4 {
		y, said, e := tlsc.Send(x, drawn(int64(i), i*9000))
		if e != api.OK || (said == "") != (i == 0) {
			t.Fatalf("Send: %v, said %d bytes", e, len(said))
		}
		for s := said; s != ""; {
			r, rest, _ := rec.Unframe(s)
			inner, e := openedRecord(t, x.Out, r)
			if e != api.OK || inner.Kind != api.RecData {
				t.Errorf("a record of Send is of the kind %d within, %v", inner.Kind, e)
			}
			x.Out.Seq++
			s = rest
		}
		want := y
		want.In.Seq++
		goes(t, "data behind Send", y, sealed(t, y.In, 23, "tick"), want, "", "tick")
		x = want
	}
}
