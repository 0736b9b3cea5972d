package tlsc_test

import (
	"math/rand"
	"strings"
	"testing"

	"pendulum/api"
	"pendulum/tlsc"
)

// cut says that bytes in two pieces make the same of an end as at once, what comes of which is told.
func cut(t testing.TB, what string, x api.Tls, s string, n int, want api.Tls, said, told string) {
	t.Helper()
	y, firstSaid, firstTold := tlsc.Feed(x, s[:n])
	z, secondSaid, secondTold := tlsc.Feed(y, s[n:])
	if differ := differences(z, want); differ != "" || !tlsc.Same(z, want) || firstSaid+secondSaid != said || firstTold+secondTold != told {
		t.Errorf("%s, cut at %d of %d:%s said %s (want %s), told %s (want %s)", what, n, len(s), differ, hexed(firstSaid+secondSaid), hexed(said), hexed(firstTold+secondTold), hexed(told))
	}
	if y.State == api.TsDead && (!tlsc.Same(y, z) || secondSaid != "" || secondTold != "") {
		t.Errorf("%s, cut at %d of %d: the dead end takes something", what, n, len(s))
	}
}

// everywhere cuts bytes at every place.
func everywhere(t testing.TB, what string, x api.Tls, s string) {
	t.Helper()
	want, said, told := hold(t, x, s)
	each(len(s)+1, func(n int) { cut(t, what, x, s, n, want, said, told) })
}

// rows is messages in records of a few bytes each, so that neither begins where the other does.
func rows(t testing.TB, x api.Tls, text string, size int) string {
	t.Helper()
	var bodies []string
	for text != "" {
		n := min(len(text), size)
		bodies = append(bodies, text[:n])
		text = text[n:]
	}
	return parts(t, x, bodies...)
}

// P16.4: a whole handshake, data behind it, and what is no whole record.
func TestPieces(t *testing.T) {
	our := talked(t)
	flight := strings.Join(our.messages[atExt:], "")
	next := our.ends[atOpen].In
	next.Seq++
	stream := rows(t, our.ends[atHello], our.messages[atHello], 50) + rows(t, our.ends[atExt], flight, 150) +
		sealed(t, our.ends[atOpen].In, 23, "tick") + sealed(t, next, 23, "tock") + "\x17\x03\x03\x00\x30..."
	x, said, told := tlsc.Feed(our.ends[atHello], stream)
	if x.State != api.TsOpen || said != our.ended || told != "ticktock" || x.Buf != "\x17\x03\x03\x00\x30..." {
		t.Fatalf("the stream leads to the state %d, %v, told %s", x.State, x.Why, told)
	}
	everywhere(t, "a whole handshake", our.ends[atHello], stream)
}

// P16.4, P16.5: streams in each of which an end dies somewhere, with more behind.
func TestPiecesOfTheDead(t *testing.T) {
	our := talked(t)
	m := our.messages
	open := our.ends[atOpen]
	next := open.In
	next.Seq++
	data := sealed(t, open.In, 23, "tick")
	for _, c := range []struct {
		what  string
		place int
		s     string
		why   api.Errno
	}{
		{"an alert", atHello, headed(22, m[atHello][:40]) + headed(21, "\x02\x28") + headed(22, m[atHello][40:]), api.ErrState},
		{"no record", atHello, headed(22, m[atHello]) + "\x14\x03\x03\x00\x01\x01" + our.record(t, atExt), api.ErrKind},
		{"a record too long", atHello, headed(22, m[atHello]) + "\x17\x03\x03\x41\x01" + our.record(t, atExt), api.ErrLong},
		{"another session", atHello, headed(22, hello(t, "", drawn(1, 32))) + our.record(t, atExt), api.ErrName},
		{"two hellos", atHello, headed(22, m[atHello][:50]) + headed(22, m[atHello][50:]+m[atHello]) + our.record(t, atExt), api.ErrOrder},
		{"a message without its seal", atExt, our.record(t, atExt) + headed(22, m[atCert]), api.ErrKind},
		{"another protocol", atExt, part(t, our.ends[atExt], agrees(t, "x")) + our.record(t, atCert), api.ErrName},
		{"no chain", atExt, part(t, our.ends[atExt], m[atExt]+shows(t, "x")+"\x0f") + our.record(t, atCert), api.ErrForm},
		{"no message", atExt, parts(t, our.ends[atExt], m[atExt][:3], m[atExt][3:]+"\x00") + our.record(t, atCert), api.ErrKind},
		{"an empty part", atExt, parts(t, our.ends[atExt], m[atExt][:3], "", m[atExt][3:]), api.ErrForm},
		{"more behind the end", atFinish, part(t, our.ends[atFinish], m[atFinish]+"\x14") + data, api.ErrOrder},
		{"another Mac", atFinish, part(t, our.ends[atFinish], changed(m[atFinish], 35, 1)) + data, api.ErrSeal},
		{"data twice", atFinish, our.record(t, atFinish) + data + data + sealed(t, next, 23, "never"), api.ErrSeal},
		{"an alert behind data", atOpen, data + sealed(t, next, 21, "\x01\x00") + sealed(t, next, 23, "never"), api.ErrState},
		{"a message behind data", atOpen, data + sealed(t, next, 22, m[atFinish]) + "\x00", api.ErrKind},
		{"a plain record behind data", atOpen, data + headed(22, "\x01") + data, api.ErrKind},
	} {
		x := our.ends[c.place]
		y, _, _ := tlsc.Feed(x, c.s)
		if y.State != api.TsDead || y.Why != c.why {
			t.Errorf("%s: the state %d, %v; want %v", c.what, y.State, y.Why, c.why)
		}
		everywhere(t, c.what, x, c.s)
		stays(t, y, c.s)
	}
}

// P16.4: long records, cut near their ends.
func TestPiecesOfLongRecords(t *testing.T) {
	x := talked(t).ends[atOpen]
	next := x.In
	next.Seq++
	s := sealed(t, x.In, 23, drawn(1, 16384)) + sealed(t, next, 23, drawn(2, 16384))
	want, said, told := hold(t, x, s)
	if told != drawn(1, 16384)+drawn(2, 16384) || want.State != api.TsOpen {
		t.Fatalf("two records: the state %d, %d bytes told", want.State, len(told))
	}
	half := len(s) / 2
	for _, n := range []int{0, 1, 2, 3, 4, 5, 6, 16384, half - 1, half, half + 1, half + 3, half + 5, half + 6, len(s) - 1, len(s)} {
		cut(t, "long records", x, s, n, want, said, told)
	}
}

// P16.4: in many pieces, empty ones among them, drawn in each run alike.
func TestManyPieces(t *testing.T) {
	our := talked(t)
	flight := strings.Join(our.messages[atExt:], "")
	each(40, func(i int) {
		r := rand.New(rand.NewSource(int64(i)))
		stream := rows(t, our.ends[atHello], our.messages[atHello], 1+r.Intn(100)) + rows(t, our.ends[atExt], flight, 1+r.Intn(400)) +
			sealed(t, our.ends[atOpen].In, 23, drawn(int64(i), r.Intn(300)))
		if i%2 == 1 {
			stream = changed(stream, r.Intn(len(stream)), 1<<r.Intn(8))
		}
		want, said, told := hold(t, our.ends[atHello], stream)
		x, allSaid, allTold := our.ends[atHello], "", ""
		for rest := stream; rest != ""; {
			n := min(len(rest), r.Intn(1+r.Intn(200)))
			y, s, o := hold(t, x, rest[:n])
			x, allSaid, allTold, rest = y, allSaid+s, allTold+o, rest[n:]
		}
		if differ := differences(x, want); differ != "" || allSaid != said || allTold != told {
			t.Errorf("stream %d in many pieces:%s said %s, told %s", i, differ, hexed(allSaid), hexed(allTold))
		}
	})
}

// P16.5: what was told is told once: a whole talk in pieces tells each text a single time, and a dead end none again.
func TestToldOnce(t *testing.T) {
	x := talked(t).ends[atOpen]
	side, stream, all := x.In, "", ""
	for i := range 20 {
		body := string(rune('a'+i)) + drawn(int64(i), i)
		stream += sealed(t, side, 23, body)
		all += body
		side.Seq++
	}
	stream += "\x00"
	got := ""
	for i := 0; i < len(stream); i += 13 {
		var told string
		x, _, told = hold(t, x, stream[i:min(i+13, len(stream))])
		got += told
	}
	if got != all || x.State != api.TsDead {
		t.Errorf("told %d of %d bytes, the state %d", len(got), len(all), x.State)
	}
	stays(t, x, stream)
}

// Rule 0.1: an end that is none, with anything in each field, makes no call panic.
func TestAnyEnd(t *testing.T) {
	our := talked(t)
	stream := our.records(t, atHello, atOpen)
	feed := func(x api.Tls) {
		for _, s := range []string{"", "\x00", "\x16", stream, stream[5:], headed(21, "ab"), headed(22, our.messages[atHello]), headed(22, our.messages[atExt]), headed(23, drawn(1, 40))} {
			tlsc.Feed(x, s)
		}
		if len(x.In.Key) == 16 && len(x.In.Iv) == 12 {
			for _, m := range our.messages {
				tlsc.Feed(x, sealed(t, x.In, 22, m))
			}
			tlsc.Feed(x, sealed(t, x.In, 23, "tick"))
		}
		tlsc.Send(x, "text")
		tlsc.Export(x, "label", "context", 32)
	}
	var ends []api.Tls
	for _, x := range append([]api.Tls{{}, full(t)}, our.ends[:]...) {
		for _, state := range []int{-1 << 63, -1, 0, 1, 2, 3, 4, 5, 6, 1<<63 - 1} {
			y := x
			y.State = state
			ends = append(ends, y)
		}
		for _, step := range []int{-1 << 63, -1, 0, 1, 2, 3, 4, 5, 1<<63 - 1} {
			y := x
			y.Step = step
			ends = append(ends, y)
		}
	}
	for _, place := range []int{atExt, atFinish, atOpen} {
		altered(our.ends[place], func(_ string, y api.Tls) { ends = append(ends, y) })
	}
	each(len(ends), func(i int) { feed(ends[i]) })
}

// Rule 0.1, and how Feed is here where nothing is promised: an end in no state takes nothing, a step that is none takes no message, and secrets that are none end nothing.
func TestNoEnd(t *testing.T) {
	our := talked(t)
	for _, state := range []int{-1, 0, 5} {
		x := our.ends[atOpen]
		x.State = state
		y, said, told := tlsc.Feed(x, sealed(t, x.In, 23, "tick"))
		if differ := differences(y, x); differ != "" || said != "" || told != "" {
			t.Errorf("Feed in the state %d:%s told %s", state, differ, told)
		}
	}
	for _, step := range []int{-1, 4, 5} {
		x := our.ends[atFinish]
		x.Step = step
		if y, said, _ := tlsc.Feed(x, our.record(t, atFinish)); y.State != api.TsDead || y.Why != api.ErrOrder || said != "" {
			t.Errorf("Feed at the step %d: the state %d, %v", step, y.State, y.Why)
		}
	}
	x := our.ends[atFinish]
	x.Keys.Server = ""
	if y, said, _ := tlsc.Feed(x, our.record(t, atFinish)); y.State != api.TsDead || y.Why != api.ErrSeal || said != "" {
		t.Errorf("Feed without a secret: the state %d, %v", y.State, y.Why)
	}
	x = our.ends[atOpen]
	x.Out.Key = ""
	if y, said, e := tlsc.Send(x, "text"); e != api.ErrForm || said != "" || y.State != 0 {
		t.Errorf("Send without a direction: %v, said %s", e, hexed(said))
	}
}

// FuzzFeed looks for bytes, plain or sealed, at each place and cut anywhere, of which an end makes something else than the chapter's words, or than of both pieces at once.
func FuzzFeed(f *testing.F) {
	our := talked(f)
	for place := range our.messages {
		f.Add(place, our.messages[place], 22, 5, "")
		f.Add(place, our.messages[place]+our.messages[min(place+1, atFinish)], 22, 5, "\x16\x03\x03")
	}
	f.Add(atOpen, "tick", 23, 1, "\x00")
	f.Add(atOpen, "\x02\x28", 21, 3, "\x17")
	f.Fuzz(func(t *testing.T, place int, body string, kind, at int, behind string) {
		if place < 0 || place > atOpen || len(body) > 16384 || at < 0 {
			t.Skip()
		}
		x := our.ends[place]
		side := x.In
		side.Seq++
		for _, s := range []string{body, headed(kind, body), headed(22, body), headed(22, body) + behind} {
			s += behind
			want, said, told := hold(t, x, s)
			cut(t, "drawn bytes", x, s, at%(len(s)+1), want, said, told)
		}
		if place == atHello {
			return
		}
		s := sealed(t, x.In, kind, body) + sealed(t, side, 22, behind)
		want, said, told := hold(t, x, s)
		cut(t, "drawn records", x, s, at%(len(s)+1), want, said, told)
	})
}

// FuzzSend looks for texts that are sent otherwise than by the chapter's words.
func FuzzSend(f *testing.F) {
	f.Add("text", uint64(0), 1)
	f.Add("", uint64(1<<63), 2)
	f.Add("text", uint64(1<<63+1), 20000)
	x := talked(f).ends[atOpen]
	f.Fuzz(func(t *testing.T, s string, seq uint64, times int) {
		if times < 0 || times > 1<<20 || times*len(s) > 1<<20 {
			t.Skip()
		}
		x := x
		x.Out.Seq = seq
		if seq > 1<<63 {
			if _, _, e := tlsc.Send(x, s); e != api.ErrMany {
				t.Errorf("Send with the Seq %d: %v", seq, e)
			}
			return
		}
		holdSend(t, x, strings.Repeat(s, times))
	})
}

func BenchmarkHandshake(b *testing.B) {
	our := talked(b)
	stream := our.records(b, atHello, atOpen)
	for range b.N {
		tlsc.Feed(our.ends[atHello], stream)
	}
}

func BenchmarkData(b *testing.B) {
	x := talked(b).ends[atOpen]
	text := drawn(1, 1<<18)
	b.SetBytes(1 << 18)
	for range b.N {
		y, said, _ := tlsc.Send(x, text)
		tlsc.Feed(api.Tls{State: api.TsOpen, In: x.Out, Out: y.Out}, said)
	}
}
