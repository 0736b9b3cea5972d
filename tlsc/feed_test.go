package tlsc_test

import (
	"strings"
	"testing"

	"pendulum/api"
	"pendulum/tlsc"
)

// P16.2: each message in a record of its own leads an end to the next place; behind the last one it says its own end, and is open.
func TestHandshake(t *testing.T) {
	our := talked(t)
	x, said, e := tlsc.Start(host, []api.Cert{root(t)}, moment, drawn(2, 32), drawn(3, 32), drawn(1, 32))
	if said != our.said || e != api.OK {
		t.Fatalf("Start says %s, %v", hexed(said), e)
	}
	for place := range our.messages {
		wantSaid := ""
		if place == atFinish {
			wantSaid = our.ended
		}
		goes(t, placeName(place), x, our.record(t, place), our.ends[place+1], wantSaid, "")
		x, _, _ = tlsc.Feed(x, our.record(t, place))
	}
	if x.State != api.TsOpen || x.Step != 4 || x.Hands != "" || x.Buf != "" || x.Why != api.OK || x.In.Seq != 0 || x.Out.Seq != 0 {
		t.Errorf("the end is in the state %d, step %d", x.State, x.Step)
	}
}

// P16.2: the state of an end tells what comes next, whatever came along: all at once, and all of the sealed messages in one record.
func TestHandshakeAtOnce(t *testing.T) {
	our := talked(t)
	goes(t, "five records at once", our.ends[atHello], our.records(t, atHello, atOpen), our.ends[atOpen], our.ended, "")
	flight := strings.Join(our.messages[atExt:], "")
	goes(t, "four messages in a record", our.ends[atExt], part(t, our.ends[atExt], flight), our.ends[atOpen], our.ended, "")
	goes(t, "two records at once", our.ends[atHello], our.record(t, atHello)+part(t, our.ends[atExt], flight), our.ends[atOpen], our.ended, "")
	data := sealed(t, our.ends[atOpen].In, 23, "tick")
	want := our.ends[atOpen]
	want.In.Seq = 1
	goes(t, "the handshake and data at once", our.ends[atHello], our.records(t, atHello, atOpen)+data, want, our.ended, "tick")
}

// P16.2: a server's chain of as many certificates as there may be.
func TestHandshakeWithChain(t *testing.T) {
	var certs []string
	signer := func(i int) api.Num { return api.Num{100 + uint64(i)} }
	name := func(i int) string { return strings.Repeat("c", i) + strings.Repeat("x", 60) }
	for i := range 4 {
		c := api.Cert{Issuer: name(i + 1), Subject: name(i), To: 1000, Key: pointOf(t, signer(i)), Ca: i > 0, Names: []string{"one", "*.a"}}
		by := signer(i + 1)
		if i == 0 {
			c.Key = pointOf(t, serverSecret())
		}
		if i == 3 {
			c.Issuer, by = "r", rootSecret()
		}
		certs = append(certs, certified(t, c, by))
	}
	our := talkWith(t, certs...)
	goes(t, "a chain of four", our.ends[atHello], our.records(t, atHello, atOpen), our.ends[atOpen], our.ended, "")
}

// P16.2: padding plays no part.
func TestPadding(t *testing.T) {
	our := talked(t)
	for _, pad := range []int{1, 2, 100, 16000} {
		zeros := strings.Repeat("\x00", pad)
		goes(t, "a padded message", our.ends[atExt], sealedWithin(t, our.ends[atExt].In, our.messages[atExt]+"\x16"+zeros), our.ends[atCert], "", "")
		want := our.ends[atOpen]
		want.In.Seq = 1
		goes(t, "padded data", our.ends[atOpen], sealedWithin(t, our.ends[atOpen].In, "tick\x17"+zeros), want, "", "tick")
		goes(t, "padded data of nothing", our.ends[atOpen], sealedWithin(t, our.ends[atOpen].In, "\x17"+zeros), want, "", "")
	}
}

// P16.2: nothing that comes changes nothing, in each state.
func TestFeedOfNothing(t *testing.T) {
	our := talked(t)
	for place, x := range our.ends {
		goes(t, placeName(place), x, "", x, "", "")
		x.Buf = headed(23, drawn(1, 100))[:50]
		goes(t, placeName(place)+", with bytes that wait", x, "", x, "", "")
	}
}

// P16.2: bytes that are no whole record yet wait in Buf, in each state, up to the record's last byte.
func TestFeedOfPartOfARecord(t *testing.T) {
	our := talked(t)
	for place, x := range our.ends[:atOpen] {
		s := our.record(t, place)
		for n := range len(s) {
			want := x
			want.Buf = s[:n]
			goes(t, placeName(place), x, s[:n], want, "", "")
		}
	}
	long := sealed(t, our.ends[atOpen].In, 23, drawn(1, 16384))
	for _, n := range []int{0, 1, 4, 5, 6, 16384, len(long) - 1} {
		want := our.ends[atOpen]
		want.Buf = long[:n]
		goes(t, "open", our.ends[atOpen], long[:n], want, "", "")
	}
}

// P16.2: one byte at a time.
func TestFeedOfBytes(t *testing.T) {
	our := talked(t)
	x := our.ends[atHello]
	stream := our.records(t, atHello, atOpen) + sealed(t, our.ends[atOpen].In, 23, "tick")
	allSaid, allTold := "", ""
	for i := range len(stream) {
		y, said, told := hold(t, x, stream[i:i+1])
		x, allSaid, allTold = y, allSaid+said, allTold+told
	}
	want := our.ends[atOpen]
	want.In.Seq = 1
	if differ := differences(x, want); differ != "" || allSaid != our.ended || allTold != "tick" {
		t.Errorf("one byte at a time:%s said %s, told %s", differ, hexed(allSaid), hexed(allTold))
	}
}

// P16.2: a hello that is cut between records, at each place, and in records of one byte; what is no whole message waits in Hands.
func TestHelloCut(t *testing.T) {
	our := talked(t)
	x, text := our.ends[atHello], our.messages[atHello]
	each(len(text)-1, func(i int) {
		n := i + 1
		want := x
		want.Hands = text[:n]
		goes(t, "a part of the hello", x, headed(22, text[:n]), want, "", "")
		goes(t, "a hello cut in two", x, headed(22, text[:n])+headed(22, text[n:]), our.ends[atExt], "", "")
		goes(t, "the rest of the hello", want, headed(22, text[n:]), our.ends[atExt], "", "")
	})
	stream := ""
	for i := range len(text) {
		stream += headed(22, text[i:i+1])
	}
	goes(t, "a hello of single bytes", x, stream, our.ends[atExt], "", "")
}

// P16.2: sealed messages that are cut between records, at each place, and in records of one byte.
func TestFlightCut(t *testing.T) {
	our := talked(t)
	x, text := our.ends[atExt], strings.Join(our.messages[atExt:], "")
	each(len(text)-1, func(i int) {
		n := i + 1
		goes(t, "messages cut in two", x, parts(t, x, text[:n], text[n:]), our.ends[atOpen], our.ended, "")
	})
	var single []string
	for i := range len(text) {
		single = append(single, text[i:i+1])
	}
	goes(t, "messages of single bytes", x, parts(t, x, single...), our.ends[atOpen], our.ended, "")
	cut := len(our.messages[atExt]) + 7
	want := our.ends[atCert]
	want.Hands = text[len(our.messages[atExt]):cut]
	goes(t, "a message and a part of the next", x, part(t, x, text[:cut]), want, "", "")
}

// P16.2: data is told in the order in which it came, whatever its length, and nothing else changes.
func TestData(t *testing.T) {
	our := talked(t)
	x := our.ends[atOpen]
	stream, all := "", ""
	side := x.In
	for i, size := range []int{0, 1, 2, 0, 255, 256, 16383, 16384, 5, 16384, 0} {
		body := drawn(int64(i), size)
		stream += sealed(t, side, 23, body)
		all += body
		side.Seq++
	}
	want := x
	want.In = side
	goes(t, "data", x, stream, want, "", all)
	for _, size := range []int{0, 1, 16384} {
		want := x
		want.In.Seq = 1
		goes(t, "data", x, sealed(t, x.In, 23, drawn(1, size)), want, "", drawn(1, size))
	}
	want.Buf = "\x17\x03\x03\x00\x20"
	goes(t, "data, and what is no whole record", x, stream+want.Buf, want, "", all)
}

// P16.2: data goes on at any place of a direction.
func TestDataPlaces(t *testing.T) {
	for _, seq := range []uint64{1, 255, 256, 1 << 32, 1 << 63, 1<<64 - 2} {
		x := talked(t).ends[atOpen]
		x.In.Seq = seq
		want := x
		want.In.Seq++
		goes(t, "data", x, sealed(t, x.In, 23, "tick"), want, "", "tick")
	}
	x := talked(t).ends[atOpen]
	x.In.Seq = 1<<64 - 1
	dies(t, "behind the last place", x, headed(23, drawn(1, 30)), api.ErrMany, nil)
	dies(t, "behind the last place", x, headed(22, drawn(1, 30)), api.ErrKind, nil)
}

// P16.2: a server's end, as chapter 17 makes it, is gone by as a client's, and keeps what it has.
func TestServersEnds(t *testing.T) {
	our := talked(t)
	server := api.Tls{State: api.TsWait, Certs: []string{"one", "two"}, Key: api.Num{3}, Draw: api.Num{4}, Random: drawn(1, 32), Secret: drawn(4, 32)}
	hold(t, server, our.said)
	dies(t, "a client's hello", server, our.said, api.ErrOrder, nil)
	dies(t, "a hello of another session", server, our.record(t, atHello), api.ErrName, nil)
	text := hello(t, "", publicOf(t, drawn(1, 32)))
	y, _, _ := hold(t, server, headed(22, text))
	if y.State != api.TsHand || y.Log != text || y.Key != server.Key || y.Draw != server.Draw || len(y.Certs) != 2 {
		t.Errorf("a server's end with a server's hello is in the state %d", y.State)
	}

	server.State, server.Session, server.Name, server.Log = api.TsHand, drawn(3, 32), host, our.ends[atFinish].Log
	server.Keys, server.App = our.ends[atFinish].Keys, our.ends[atOpen].App
	server.In, server.Out = sideOf(t, server.Keys.Client), sideOf(t, server.App.Server)
	dies(t, "a client's end of the handshake", server, our.ended, api.ErrOrder, opens(1))
	hold(t, server, part(t, server, agrees(t, api.Alpn)))

	server.State, server.Step, server.In = api.TsOpen, 1, sideOf(t, server.App.Client)
	want := server
	want.In.Seq = 1
	goes(t, "data for a server", server, sealed(t, our.ends[atOpen].Out, 23, "tick"), want, "", "tick")
	goes(t, "records that wait", func() api.Tls { x := server; x.Buf = sealed(t, our.ends[atOpen].Out, 23, "tick"); return x }(), "", want, "", "tick")
}
