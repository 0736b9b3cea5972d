package tlss_test

import (
	"math/rand"
	"reflect"
	"strings"
	"testing"

	"pendulum/api"
	"pendulum/tlsc"
	"pendulum/tlss"
)

// cut says that bytes in two pieces make the same of an end as at once, what comes of which is told.
func cut(t testing.TB, what string, x api.Tls, s string, n int, want api.Tls, said, told string) {
	t.Helper()
	y, firstSaid, firstTold := tlss.Feed(x, s[:n])
	z, secondSaid, secondTold := tlss.Feed(y, s[n:])
	if differ := differences(z, want); differ != "" || !tlsc.Same(z, want) || firstSaid+secondSaid != said || firstTold+secondTold != told {
		t.Errorf("%s, cut at %d of %d:%s said %s (want %s), told %s (want %s)", what, n, len(s), differ, hexed(firstSaid+secondSaid), hexed(said), hexed(firstTold+secondTold), hexed(told))
	}
	if y.State == api.TsDead && (!tlsc.Same(y, z) || secondSaid != "" || secondTold != "") {
		t.Errorf("%s, cut at %d of %d: the dead end takes something", what, n, len(s))
	}
}

// everywhere cuts bytes at every place.
func everywhere(t testing.TB, what string, x api.Tls, s string) {
	t.Helper()
	want, said, told := hold(t, x, s)
	each(len(s)+1, func(n int) { cut(t, what, x, s, n, want, said, told) })
}

// rows is messages in records of a few bytes each, so that neither begins where the other does.
func rows(t testing.TB, x api.Tls, text string, size int) string {
	t.Helper()
	var bodies []string
	for text != "" {
		n := min(len(text), size)
		bodies = append(bodies, text[:n])
		text = text[n:]
	}
	return parts(t, x, bodies...)
}

// P17.5: a whole handshake, data behind it, and what is no whole record.
func TestPieces(t *testing.T) {
	our := talked(t)
	next := our.ends[atOpen].In
	next.Seq++
	stream := rows(t, our.ends[atHello], our.messages[atHello], 50) + rows(t, our.ends[atFinish], our.messages[atFinish], 15) +
		sealed(t, our.ends[atOpen].In, 23, "tick") + sealed(t, next, 23, "tock") + "\x17\x03\x03\x00\x30..."
	x, said, told := tlss.Feed(our.ends[atHello], stream)
	if x.State != api.TsOpen || said != our.said || told != "ticktock" || x.Buf != "\x17\x03\x03\x00\x30..." {
		t.Fatalf("the stream leads to the state %d, %v, told %s", x.State, x.Why, told)
	}
	everywhere(t, "a whole handshake", our.ends[atHello], stream)
	everywhere(t, "two records and data", our.ends[atHello], our.records(t)+sealed(t, our.ends[atOpen].In, 23, "tick"))
}

// P17.5: streams in each of which an end dies somewhere, with more behind.
func TestPiecesOfTheDead(t *testing.T) {
	our := talked(t)
	m := our.messages
	hello := our.record(t, atHello)
	open := our.ends[atOpen]
	next := open.In
	next.Seq++
	data := sealed(t, open.In, 23, "tick")
	alter := func(change func(*api.Tls)) api.Tls {
		x := our.ends[atHello]
		change(&x)
		return x
	}
	for _, c := range []struct {
		what string
		x    api.Tls
		s    string
		why  api.Errno
	}{
		{"an alert", our.ends[atHello], headed(22, m[atHello][:40]) + headed(21, "\x02\x28") + headed(22, m[atHello][40:]), api.ErrState},
		{"no record", our.ends[atHello], hello + "\x14\x03\x03\x00\x01\x01" + our.record(t, atFinish), api.ErrKind},
		{"a record too long", our.ends[atHello], hello + "\x17\x03\x03\x41\x01" + our.record(t, atFinish), api.ErrLong},
		{"another protocol", our.ends[atHello], headed(22, greets(t, func(m *api.Msg) { m.Alpn = "x" })) + hello, api.ErrName},
		{"no point", our.ends[atHello], headed(22, greets(t, func(m *api.Msg) { m.Share = strings.Repeat("\x00", 32) })) + hello, api.ErrPoint},
		{"no certificate", alter(func(x *api.Tls) { x.Certs = nil }), hello + hello, api.ErrForm},
		{"no signature", alter(func(x *api.Tls) { x.Draw = api.Num{} }), hello + hello, api.ErrNumber},
		{"two hellos", our.ends[atHello], headed(22, m[atHello][:50]) + headed(22, m[atHello][50:]+m[atHello]) + hello, api.ErrOrder},
		{"two records of hellos", our.ends[atHello], hello + hello, api.ErrKind},
		{"no message", our.ends[atFinish], parts(t, our.ends[atFinish], m[atFinish][:3], m[atFinish][3:]+"\x00") + data, api.ErrKind},
		{"an empty part", our.ends[atFinish], parts(t, our.ends[atFinish], m[atFinish][:3], "", m[atFinish][3:]), api.ErrForm},
		{"more behind the end", our.ends[atFinish], part(t, our.ends[atFinish], m[atFinish]+"\x14") + data, api.ErrOrder},
		{"another Mac", our.ends[atFinish], part(t, our.ends[atFinish], changed(m[atFinish], 35, 1)) + data, api.ErrSeal},
		{"data twice", our.ends[atFinish], our.record(t, atFinish) + data + data + sealed(t, next, 23, "never"), api.ErrSeal},
		{"an alert behind data", open, data + sealed(t, next, 21, "\x01\x00") + sealed(t, next, 23, "never"), api.ErrState},
		{"a message behind data", open, data + sealed(t, next, 22, m[atFinish]) + "\x00", api.ErrKind},
		{"a plain record behind data", open, data + headed(22, "\x01") + data, api.ErrKind},
	} {
		y, _, _ := tlss.Feed(c.x, c.s)
		if y.State != api.TsDead || y.Why != c.why {
			t.Errorf("%s: the state %d, %v; want %v", c.what, y.State, y.Why, c.why)
		}
		everywhere(t, c.what, c.x, c.s)
		stays(t, y, c.s)
	}
}

// P17.5: long records, cut near their ends.
func TestPiecesOfLongRecords(t *testing.T) {
	x := talked(t).ends[atOpen]
	next := x.In
	next.Seq++
	s := sealed(t, x.In, 23, drawn(1, 16384)) + sealed(t, next, 23, drawn(2, 16384))
	want, said, told := hold(t, x, s)
	if told != drawn(1, 16384)+drawn(2, 16384) || want.State != api.TsOpen {
		t.Fatalf("two records: the state %d, %d bytes told", want.State, len(told))
	}
	half := len(s) / 2
	for _, n := range []int{0, 1, 2, 3, 4, 5, 6, 16384, half - 1, half, half + 1, half + 3, half + 5, half + 6, len(s) - 1, len(s)} {
		cut(t, "long records", x, s, n, want, said, told)
	}
}

// P17.5: in many pieces, empty ones among them, drawn in each run alike.
func TestManyPieces(t *testing.T) {
	our := talked(t)
	each(60, func(i int) {
		r := rand.New(rand.NewSource(int64(i)))
		stream := rows(t, our.ends[atHello], our.messages[atHello], 1+r.Intn(200)) + rows(t, our.ends[atFinish], our.messages[atFinish], 1+r.Intn(40)) +
			sealed(t, our.ends[atOpen].In, 23, drawn(int64(i), r.Intn(300)))
		if i%2 == 1 {
			stream = changed(stream, r.Intn(len(stream)), 1<<r.Intn(8))
		}
		want, said, told := hold(t, our.ends[atHello], stream)
		x, allSaid, allTold := our.ends[atHello], "", ""
		for rest := stream; rest != ""; {
			n := min(len(rest), r.Intn(1+r.Intn(200)))
			y, s, o := hold(t, x, rest[:n])
			x, allSaid, allTold, rest = y, allSaid+s, allTold+o, rest[n:]
		}
		if differ := differences(x, want); differ != "" || allSaid != said || allTold != told {
			t.Errorf("many pieces of the stream %d:%s said %s, told %s", i, differ, hexed(allSaid), hexed(allTold))
		}
	})
}

// altered hands out an end with each single thing within it altered in turn, and which one it is.
func altered(x api.Tls, yield func(string, api.Tls)) {
	var walk func(name string, v reflect.Value)
	x = plain(x)
	walk = func(name string, v reflect.Value) {
		was := reflect.New(v.Type()).Elem()
		was.Set(v)
		put := func(to any) {
			v.Set(reflect.ValueOf(to).Convert(v.Type()))
			yield(name, plain(x))
			v.Set(was)
		}
		switch v.Kind() {
		case reflect.Struct:
			for i := range v.NumField() {
				walk(name+"."+v.Type().Field(i).Name, v.Field(i))
			}
		case reflect.Array:
			for i := range v.Len() {
				walk(name+"[]", v.Index(i))
			}
		case reflect.Slice:
			for i := range v.Len() {
				walk(name+"[]", v.Index(i))
			}
			for i := range v.Len() {
				v.Set(was.Slice(0, i))
				yield(name+" cut", plain(x))
			}
			v.Set(reflect.Append(was.Slice3(0, was.Len(), was.Len()), reflect.Zero(v.Type().Elem())))
			yield(name+" and more", plain(x))
			v.Set(was)
		case reflect.String:
			s := v.String()
			put(s + "\x00")
			if s != "" {
				put("")
				put(s[:len(s)-1])
				put(changed(s, 0, 1))
				put(changed(s, len(s)-1, 0x80))
			}
		case reflect.Int, reflect.Int64:
			put(v.Int() + 1)
			put(-v.Int() - 1)
		case reflect.Uint64:
			put(v.Uint() + 1)
			put(v.Uint() ^ 1<<63)
		case reflect.Bool:
			put(!v.Bool())
		default:
			panic("another kind: " + v.Kind().String())
		}
	}
	walk("", reflect.ValueOf(&x).Elem())
}

// Rule 0.1: an end that is none, with anything in each field, makes no call panic.
func TestAnyEnd(t *testing.T) {
	our := talked(t)
	feed := func(x api.Tls) {
		for _, s := range []string{"", "\x00", our.records(t), headed(21, "ab"), headed(22, our.messages[atFinish]), headed(23, drawn(1, 40))} {
			tlss.Feed(x, s)
		}
		if len(x.In.Key) == 16 && len(x.In.Iv) == 12 {
			tlss.Feed(x, sealed(t, x.In, 22, our.messages[atFinish]))
			tlss.Feed(x, sealed(t, x.In, 22, our.messages[atHello]))
			tlss.Feed(x, sealed(t, x.In, 23, "tick"))
		}
		tlss.Meet(x, "", x)
		tlss.Meet(our.ends[atOpen], our.record(t, atHello), x)
		tlss.Meet(x, our.record(t, atHello), our.ends[atHello])
	}
	ends := []api.Tls{{}, full(t)}
	for _, x := range append([]api.Tls{{}, full(t)}, our.ends[:]...) {
		for _, state := range []int{-1 << 63, -1, 0, 1, 2, 3, 4, 5, 6, 1<<63 - 1} {
			y := x
			y.State = state
			ends = append(ends, y)
		}
		x.Buf, x.Hands = headed(22, our.messages[atHello]), our.messages[atHello][:7]
		ends = append(ends, x)
	}
	for _, x := range our.ends {
		altered(x, func(_ string, y api.Tls) { ends = append(ends, y) })
	}
	each(len(ends), func(i int) { feed(ends[i]) })
}

// FuzzFeed looks for bytes, plain or sealed, at each place and cut anywhere, of which an end makes something else than the chapter's words, or than of both pieces at once.
func FuzzFeed(f *testing.F) {
	our := talked(f)
	for place := range our.messages {
		f.Add(place, our.messages[place], 22, 5, "")
		f.Add(place, our.messages[place]+our.messages[atFinish], 22, 5, "\x16\x03\x03")
	}
	f.Add(atOpen, "tick", 23, 1, "\x00")
	f.Add(atOpen, "\x02\x28", 21, 3, "\x17")
	f.Fuzz(func(t *testing.T, place int, body string, kind, at int, behind string) {
		if place < 0 || place > atOpen || len(body) > 16384 || at < 0 {
			t.Skip()
		}
		x := our.ends[place]
		side := x.In
		side.Seq++
		for _, s := range []string{body, headed(kind, body), headed(22, body), headed(22, body) + behind} {
			s += behind
			want, said, told := hold(t, x, s)
			cut(t, "drawn bytes", x, s, at%(len(s)+1), want, said, told)
		}
		if place == atHello {
			return
		}
		s := sealed(t, x.In, kind, body) + sealed(t, side, 22, behind)
		want, said, told := hold(t, x, s)
		cut(t, "drawn records", x, s, at%(len(s)+1), want, said, told)
	})
}

func BenchmarkHandshake(b *testing.B) {
	our := talked(b)
	stream := our.records(b)
	for range b.N {
		tlss.Feed(our.ends[atHello], stream)
	}
}
