package tlss_test

import (
	"math/rand"
	"strings"
	"testing"

	"pendulum/api"
	"pendulum/tlsc"
	"pendulum/tlss"
)

// asks is a client's end that waits for the server's hello, and what it says first.
func asks(t testing.TB, name string, roots []api.Cert, now int64, random, session, secret string) (api.Tls, string) {
	t.Helper()
	c, said, e := tlsc.Start(name, roots, now, random, session, secret)
	if e != api.OK {
		t.Fatal(e)
	}
	return c, said
}

// listens is a server's end that waits.
func listens(t testing.TB, certs []string, key, draw api.Num, random, secret string) api.Tls {
	t.Helper()
	s, e := tlss.Listen(certs, key, draw, random, secret)
	if e != api.OK {
		t.Fatal(e)
	}
	return s
}

// client is the one that the server of all these tests is made for.
func client(t testing.TB) (api.Tls, string) {
	t.Helper()
	return asks(t, host, []api.Cert{root(t)}, moment, drawn(2, 32), drawn(3, 32), drawn(1, 32))
}

// met is what Meet has to tell, by turns.
func met(t testing.TB, c api.Tls, said string, s api.Tls) (api.Tls, api.Tls) {
	t.Helper()
	for turn := 0; turn < 16 && said != ""; turn++ {
		if turn%2 == 0 {
			s, said, _ = fed(t, s, said)
		} else {
			c, said, _ = tlsc.Feed(c, said)
		}
	}
	return c, s
}

// holdMeet lets two ends meet, and holds them against what they should be.
func holdMeet(t testing.TB, what string, c api.Tls, said string, s api.Tls) (api.Tls, api.Tls) {
	t.Helper()
	oldC, oldS := plain(c), plain(s)
	gotC, gotS := tlss.Meet(c, said, s)
	wantC, wantS := met(t, c, said, s)
	if differ := differences(gotC, wantC); differ != "" {
		t.Errorf("%s: Meet's client:%s", what, differ)
	}
	if differ := differences(gotS, wantS); differ != "" {
		t.Errorf("%s: Meet's server:%s", what, differ)
	}
	if differ := differences(c, oldC) + differences(s, oldS); differ != "" {
		t.Errorf("%s: Meet changes what it is given:%s", what, differ)
	}
	return gotC, gotS
}

// agree says that two ends are open, and go by the same keys.
func agree(t testing.TB, what string, c, s api.Tls) {
	t.Helper()
	if c.State != api.TsOpen || s.State != api.TsOpen {
		t.Fatalf("%s: the client's state is %d, %v, the server's %d, %v", what, c.State, c.Why, s.State, s.Why)
	}
	if c.Log != s.Log || c.App != s.App || c.In != s.Out || c.Out != s.In || c.Keys != s.Keys {
		t.Errorf("%s: the ends don't agree", what)
	}
	if c.Name != s.Name || c.Session != s.Session || c.Buf+s.Buf+c.Hands+s.Hands != "" || c.Step != 4 || s.Step != 1 {
		t.Errorf("%s: the ends are of %q and %q, at the steps %d and %d", what, c.Name, s.Name, c.Step, s.Step)
	}
}

// hears says that what one end sends is told to the other one, which says nothing.
func hears(t testing.TB, text string, from, to api.Tls, feed func(api.Tls, string) (api.Tls, string, string)) (api.Tls, api.Tls) {
	t.Helper()
	from, said, e := tlsc.Send(from, text)
	if e != api.OK {
		t.Fatal(e)
	}
	to, answer, told := feed(to, said)
	if told != text || answer != "" || to.State != api.TsOpen || to.In != from.Out {
		t.Errorf("%d bytes are sent, and %d told, in the state %d, %v; said %s", len(text), len(told), to.State, to.Why, hexed(answer))
	}
	return from, to
}

// speak says that both ends hear each other, and export the same.
func speak(t testing.TB, c, s api.Tls) {
	t.Helper()
	for _, size := range []int{4, 0, 16385, 1} {
		c, s = hears(t, drawn(int64(size), size), c, s, tlss.Feed)
		s, c = hears(t, drawn(int64(size)+1, size+7), s, c, tlsc.Feed)
	}
	for _, label := range []string{"", "EXPORTER-network-time-security", drawn(1, 249)} {
		for _, context := range []string{"", "\x00\x00\x00\x0f\x00", "\x00\x00\x00\x0f\x01"} {
			a, e := tlsc.Export(c, label, context, 64)
			b, f := tlsc.Export(s, label, context, 64)
			if e != api.OK || f != api.OK || a != b || a != exported(t, s.App, label, context, 64) {
				t.Errorf("Export(%s, %s): %s, %v, and %s, %v", hexed(label), hexed(context), hexed(a), e, hexed(b), f)
			}
		}
	}
}

// The chapter's example.
func TestExample(t *testing.T) {
	c, said := client(t)
	good := talked(t).ends[atHello]
	s := listens(t, good.Certs, good.Key, good.Draw, good.Random, good.Secret)
	x, y := tlss.Meet(c, said, s)
	if x.State != api.TsOpen || y.State != api.TsOpen {
		t.Errorf("the states are %d and %d", x.State, y.State)
	}
	c, said = asks(t, "x.b", []api.Cert{root(t)}, moment, drawn(2, 32), drawn(3, 32), drawn(1, 32))
	if x, _ := tlss.Meet(c, said, s); x.State != api.TsDead || x.Why != api.ErrName {
		t.Errorf("with another name: the state %d, %v", x.State, x.Why)
	}
}

// P17.3, P17.4: a client and a server that it trusts.
func TestMeet(t *testing.T) {
	our := talked(t)
	c, said := client(t)
	x, y := holdMeet(t, "both", c, said, our.ends[atHello])
	agree(t, "both", x, y)
	if differ := differences(y, our.ends[atOpen]); differ != "" {
		t.Errorf("the server's end:%s", differ)
	}
	if x.Peer != pointOf(t, serverSecret()) {
		t.Errorf("the server's point is %v", x.Peer)
	}
	speak(t, x, y)
}

// P17.4: what both ends are made of may be any: drawn numbers and texts, chains of each length, sessions of each length, names that fit by a star.
func TestAgreement(t *testing.T) {
	each(24, func(i int) {
		r := rand.New(rand.NewSource(int64(i)))
		number := func() api.Num { return api.Num{r.Uint64(), r.Uint64(), r.Uint64(), r.Uint64() >> 1} }
		key, name := number(), "h"+strings.Repeat("x", r.Intn(20))
		links := 1 + i%4
		signers := []api.Num{key}
		for range links - 1 {
			signers = append(signers, number())
		}
		signers = append(signers, rootSecret())
		subject := func(i int) string {
			if i == links {
				return "r"
			}
			return strings.Repeat("c", i+1)
		}
		var certs []string
		for i := range links {
			certs = append(certs, certified(t, api.Cert{Serial: number(), Issuer: subject(i + 1), Subject: subject(i), To: 1000, Key: pointOf(t, signers[i]), Ca: i > 0, Names: []string{"one", "*.a"}}, signers[i+1]))
		}
		text := func(n int) string { return drawn(r.Int63(), n) }
		c, said := asks(t, name+".a", []api.Cert{leaf(t), root(t)}, int64(r.Intn(1001)), text(32), text(r.Intn(33)), text(32))
		s := listens(t, certs, key, number(), text(32), text(32))
		x, y := holdMeet(t, "drawn ends", c, said, s)
		agree(t, "drawn ends", x, y)
		speak(t, x, y)
	})
}

// P17.4: the same two ends meet in the same way each time; with another secret, random or draw they agree upon other keys.
func TestAgreementsDiffer(t *testing.T) {
	c, said := client(t)
	seen := map[api.Secrets]bool{}
	for _, change := range []func(*api.Tls){
		func(*api.Tls) {},
		func(x *api.Tls) { x.Secret = drawn(40, 32) },
		func(x *api.Tls) { x.Random = drawn(40, 32) },
		func(x *api.Tls) { x.Draw = api.Num{77} },
	} {
		s := talked(t).ends[atHello]
		change(&s)
		x, y := tlss.Meet(c, said, s)
		agree(t, "two ends", x, y)
		again, other := tlss.Meet(c, said, s)
		if !tlsc.Same(x, again) || !tlsc.Same(y, other) {
			t.Error("the same two ends meet otherwise")
		}
		if seen[x.App] {
			t.Error("other ends agree upon the same keys")
		}
		seen[x.App] = true
	}
}

// P17.3: where nothing is said, or no more than a part of a record, both ends stay as they are, but what waits.
func TestMeetOfNothing(t *testing.T) {
	our := talked(t)
	c, said := client(t)
	open, _ := tlss.Meet(c, said, our.ends[atHello])
	shaking, _, _ := tlsc.Feed(c, our.said[:len(our.said)-1])
	dead, _, _ := tlsc.Feed(c, "\x00")
	killed, _, _ := tlss.Feed(our.ends[atHello], "\x00")
	for _, a := range []api.Tls{c, shaking, open, dead} {
		for _, b := range append([]api.Tls{killed}, our.ends[:]...) {
			for _, s := range []string{"", "\x16", headed(22, our.messages[atHello])[:60]} {
				x, y := holdMeet(t, "little", a, s, b)
				want := b
				if b.State != api.TsDead {
					want.Buf = s
				}
				if !tlsc.Same(x, a) || !tlsc.Same(y, want) {
					t.Errorf("Meet of %s in the states %d and %d changes the ends to %d and %d", hexed(s), a.State, b.State, x.State, y.State)
				}
			}
		}
	}
}

// P17.3: a meeting goes on where it was left: what was said has come in part, on either side.
func TestMeetGoesOn(t *testing.T) {
	our := talked(t)
	c, said := client(t)
	for _, n := range []int{1, 5, 60, len(said) - 1} {
		_, s := tlss.Meet(c, said[:n], our.ends[atHello])
		x, y := holdMeet(t, "the rest of a hello", c, said[n:], s)
		agree(t, "the rest of a hello", x, y)
	}
	for _, n := range []int{0, 1, 130, len(our.said) - 1} {
		x, more, _ := tlsc.Feed(c, our.said[:n])
		if x.State == api.TsDead || more != "" {
			t.Fatalf("a part of an answer leads to the state %d", x.State)
		}
		x, more, _ = tlsc.Feed(x, our.said[n:])
		y, z := holdMeet(t, "the end of a handshake", x, more, our.ends[atFinish])
		agree(t, "the end of a handshake", y, z)
	}
	x, y := tlss.Meet(c, said, our.ends[atHello])
	sent, text, e := tlsc.Send(x, "tick")
	if e != api.OK {
		t.Fatal(e)
	}
	want := y
	want.In.Seq = 1
	if a, b := holdMeet(t, "data", sent, text, y); !tlsc.Same(a, sent) || !tlsc.Same(b, want) {
		t.Errorf("data leads to the states %d and %d", a.State, b.State)
	}
	if a, b := holdMeet(t, "a hello with data behind it", c, said+text, our.ends[atHello]); a.State != api.TsOpen || b.State != api.TsDead {
		t.Errorf("a hello with data behind it leads to the states %d and %d", a.State, b.State)
	}
}

// P17.3: ends that die; what was said ahead of that comes to the other one.
func TestMeetOfTheDead(t *testing.T) {
	our := talked(t)
	s := our.ends[atHello]
	alter := func(change func(*api.Tls)) api.Tls {
		x := s
		change(&x)
		return x
	}
	good := func() (api.Tls, string) { return client(t) }
	named := func(name string, now int64, roots ...api.Cert) func() (api.Tls, string) {
		return func() (api.Tls, string) {
			return asks(t, name, roots, now, drawn(2, 32), drawn(3, 32), drawn(1, 32))
		}
	}
	for _, c := range []struct {
		what   string
		client func() (api.Tls, string)
		ahead  string
		s      api.Tls
		states [2]int
		whys   [2]api.Errno
	}{
		{"another name", named("x.b", moment, root(t)), "", s, [...]int{api.TsDead, api.TsHand}, [...]api.Errno{api.ErrName, api.OK}},
		{"too late", named(host, 1001, root(t)), "", s, [...]int{api.TsDead, api.TsHand}, [...]api.Errno{api.ErrTime, api.OK}},
		{"nobody is trusted", named(host, moment), "", s, [...]int{api.TsDead, api.TsHand}, [...]api.Errno{api.ErrTrust, api.OK}},
		{"another key", good, "", alter(func(x *api.Tls) { x.Key = api.Num{3} }), [...]int{api.TsDead, api.TsHand}, [...]api.Errno{api.ErrSign, api.OK}},
		{"no certificate is one", good, "", alter(func(x *api.Tls) { x.Certs = []string{"x"} }), [...]int{api.TsDead, api.TsHand}, [...]api.Errno{api.ErrForm, api.OK}},
		{"no certificate", good, "", alter(func(x *api.Tls) { x.Certs = nil }), [...]int{api.TsWait, api.TsDead}, [...]api.Errno{api.OK, api.ErrForm}},
		{"no draw", good, "", alter(func(x *api.Tls) { x.Draw = api.Num{} }), [...]int{api.TsWait, api.TsDead}, [...]api.Errno{api.OK, api.ErrNumber}},
		{"an alert", good, headed(21, "\x02\x28"), s, [...]int{api.TsWait, api.TsDead}, [...]api.Errno{api.OK, api.ErrState}},
		{"no record", good, "\x00", s, [...]int{api.TsWait, api.TsDead}, [...]api.Errno{api.OK, api.ErrKind}},
		{"a hello ahead", good, our.record(t, atHello), s, [...]int{api.TsOpen, api.TsDead}, [...]api.Errno{api.OK, api.ErrKind}},
	} {
		end, said := c.client()
		x, y := holdMeet(t, c.what, end, c.ahead+said, c.s)
		if x.State != c.states[0] || y.State != c.states[1] || x.Why != c.whys[0] || y.Why != c.whys[1] {
			t.Errorf("%s: the states %d, %v, and %d, %v", c.what, x.State, x.Why, y.State, y.Why)
		}
	}
	c, said := client(t)
	dead, _, _ := tlsc.Feed(c, "\x00")
	x, y := holdMeet(t, "a dead client", dead, said, s)
	if !tlsc.Same(x, dead) || !tlsc.Same(y, our.ends[atFinish]) {
		t.Errorf("a dead client: the states %d and %d", x.State, y.State)
	}
	killed, _, _ := tlss.Feed(s, "\x00")
	x, y = holdMeet(t, "a dead server", c, said, killed)
	if !tlsc.Same(x, c) || !tlsc.Same(y, killed) {
		t.Errorf("a dead server: the states %d and %d", x.State, y.State)
	}
}

// P17.3: when two ends are quiet, another meeting of them changes nothing. No end says something twice, so that none is fed a third time, and 8 times are never reached.
func TestMeetIsQuiet(t *testing.T) {
	our := talked(t)
	c, said := client(t)
	for _, s := range []string{said, said + said, said + "\x00", said + our.record(t, atFinish), said[:70]} {
		x, y := holdMeet(t, "ends", c, s, our.ends[atHello])
		a, b := holdMeet(t, "quiet ends", x, "", y)
		if !tlsc.Same(a, x) || !tlsc.Same(b, y) {
			t.Errorf("quiet ends in the states %d and %d go on to %d and %d", x.State, y.State, a.State, b.State)
		}
	}
}
