package tlsc_test

import (
	"math"
	"reflect"
	"strings"
	"testing"

	"pendulum/api"
	"pendulum/hand"
	"pendulum/rec"
	"pendulum/tlsc"
)

// The chapter's example.
func TestExample(t *testing.T) {
	x, said, e := tlsc.Start(host, nil, 0, drawn(1, 32), drawn(2, 32), drawn(3, 32))
	r, rest, f := rec.Unframe(said)
	if e != api.OK || f != api.OK || r.Kind != api.RecHand || rest != "" || !strings.HasPrefix(r.Body, "\x01") {
		t.Errorf("Start says %s, %v", hexed(said), e)
	}
	y, said, told := tlsc.Feed(x, "\x15\x03\x03\x00\x02\x02\x28")
	if y.State != api.TsDead || y.Why != api.ErrState || said != "" || told != "" {
		t.Errorf("Feed of an alert: the state %d, %v, said %s, told %s", y.State, y.Why, hexed(said), hexed(told))
	}
}

// holdStart says that Start tells an end with what it was given, and nothing else, and a record of its hello.
func holdStart(t *testing.T, name string, roots []api.Cert, now int64, random, session, secret string) {
	t.Helper()
	got, said, e := tlsc.Start(name, roots, now, random, session, secret)
	want := api.Tls{State: 1, Name: name, Now: now, Roots: roots, Random: random, Session: session, Secret: secret}
	want.Log = written(t, api.Msg{Kind: 1, Random: random, Session: session, Share: publicOf(t, secret), Name: name, Alpn: "ntske/1"})
	if differ := differences(got, want); differ != "" || said != headed(22, want.Log) || e != api.OK {
		t.Errorf("Start of %q:%s said %s, %v", name, differ, hexed(said), e)
	}
	list, left, e := hand.All(got.Log)
	if len(list) != 1 || left != "" || e != api.OK || list[0].Name != name || list[0].Share != publicOf(t, secret) || list[0].Alpn != api.Alpn {
		t.Errorf("Start of %q: its hello is %v", name, list)
	}
}

// P16.1: ends of all that may be.
func TestStart(t *testing.T) {
	long := strings.Repeat("a", 64)
	for _, name := range []string{"a", host, "time.example.org", "!", "~", "!~", long, long[:63]} {
		holdStart(t, name, nil, 0, drawn(1, 32), drawn(2, 32), drawn(3, 32))
	}
	for size := range 33 {
		holdStart(t, host, nil, 0, drawn(1, 32), drawn(2, size), drawn(3, 32))
	}
	for _, now := range []int64{0, 1, -1, moment, math.MaxInt64, math.MinInt64} {
		holdStart(t, host, []api.Cert{root(t)}, now, drawn(1, 32), "", drawn(3, 32))
	}
	for _, s := range []string{strings.Repeat("\x00", 32), strings.Repeat("\xff", 32), strings.Repeat(" ", 32), drawn(7, 32)} {
		holdStart(t, host, nil, 0, s, s, s)
	}
	unfit := api.Cert{Subject: drawn(1, 3000), From: 2, To: 1, Names: []string{"", drawn(1, 100)}}
	for _, roots := range [][]api.Cert{nil, {}, {root(t)}, {root(t), leaf(t), root(t)}, {{}, unfit, {Names: []string{}}}} {
		holdStart(t, host, roots, 7, drawn(1, 32), drawn(2, 32), drawn(3, 32))
	}
	x, said, e := tlsc.Start(host, talked(t).ends[0].Roots, moment, drawn(2, 32), drawn(3, 32), drawn(1, 32))
	if differ := differences(x, talked(t).ends[0]); differ != "" || said != talked(t).said || e != api.OK {
		t.Errorf("Start:%s said %s, %v", differ, hexed(said), e)
	}
}

// P16.1, rules 0.2 and 0.3: a secret that is none is told ahead of a message that is not fit; beside an error there is no end, and nothing is said.
func TestStartRefuses(t *testing.T) {
	type call struct {
		name                    string
		random, session, secret int
		want                    api.Errno
	}
	calls := []call{{host, 32, 32, 32, api.OK}}
	for _, size := range []int{0, 1, 16, 31, 33, 64, 288} {
		fault := api.ErrShort
		if size > 32 {
			fault = api.ErrLong
		}
		calls = append(calls, call{host, 32, 32, size, fault}, call{"", 32, 32, size, fault}, call{host, 31, 32, size, fault},
			call{host, 32, 33, size, fault}, call{" ", 0, 40, size, fault}, call{host, 32, size, 32, api.ErrForm}, call{host, size, 32, 32, api.ErrForm})
		if size <= 32 {
			calls[len(calls)-2].want = api.OK
		}
	}
	for _, name := range []string{"", " ", "\x00", "\x7f", "\xff", "a b", " a", "a ", "a\x1f", "a\x7f", "\u00e4", strings.Repeat("a", 65), strings.Repeat("a", 320)} {
		calls = append(calls, call{name, 32, 32, 32, api.ErrForm}, call{name, 31, 32, 32, api.ErrForm}, call{name, 32, 32, 31, api.ErrShort}, call{name, 32, 32, 33, api.ErrLong})
	}
	for _, c := range calls {
		x, said, e := tlsc.Start(c.name, []api.Cert{root(t)}, 5, drawn(1, c.random), drawn(2, c.session), drawn(3, c.secret))
		if e != c.want {
			t.Errorf("Start of %v: %v", c, e)
		}
		if e != api.OK && (!reflect.DeepEqual(x, api.Tls{}) || said != "") {
			t.Errorf("Start of %v tells an end in the state %d, and %s", c, x.State, hexed(said))
		}
	}
}

// P16.1: each byte in a name is fit from 33 to 126.
func TestStartNames(t *testing.T) {
	for b := range 256 {
		want := api.ErrForm
		if b >= 33 && b <= 126 {
			want = api.OK
		}
		name := "a" + string([]byte{byte(b)}) + "b"
		if _, _, e := tlsc.Start(name, nil, 0, drawn(1, 32), "", drawn(3, 32)); e != want {
			t.Errorf("Start of the name %q: %v; want %v", name, e, want)
		}
	}
}

// full is an end of which no field is empty.
func full(t testing.TB) api.Tls {
	t.Helper()
	x := talked(t).ends[atOpen]
	x.Roots = []api.Cert{root(t), leaf(t)}
	x.Roots[1].Names = []string{"one", "two"}
	x.Certs = []string{"first", "second"}
	x.Key, x.Draw = api.Num{1, 2, 3, 4}, api.Num{5, 6, 7, 8}
	x.Buf, x.Hands, x.Why = "\x17\x03", "\x14\x00", api.ErrTrust
	x.In.Seq, x.Out.Seq = 3, 4
	return plain(x)
}

// altered hands out an end with each single thing within it altered in turn, and which one it is.
func altered(x api.Tls, yield func(string, api.Tls)) {
	var walk func(name string, v reflect.Value)
	x = plain(x)
	walk = func(name string, v reflect.Value) {
		was := reflect.New(v.Type()).Elem()
		was.Set(v)
		put := func(to any) {
			v.Set(reflect.ValueOf(to).Convert(v.Type()))
			yield(name, plain(x))
			v.Set(was)
		}
		switch v.Kind() {
		case reflect.Struct:
			for i := range v.NumField() {
				walk(name+"."+v.Type().Field(i).Name, v.Field(i))
			}
		case reflect.Array:
			for i := range v.Len() {
				walk(name+"[]", v.Index(i))
			}
		case reflect.Slice:
			for i := range v.Len() {
				walk(name+"[]", v.Index(i))
			}
			for i := range v.Len() {
				v.Set(was.Slice(0, i))
				yield(name+" cut", plain(x))
			}
			v.Set(reflect.Append(was.Slice3(0, was.Len(), was.Len()), reflect.Zero(v.Type().Elem())))
			yield(name+" and more", plain(x))
			v.Set(was)
		case reflect.String:
			s := v.String()
			put(s + "\x00")
			if s != "" {
				put("")
				put(s[:len(s)-1])
				put(changed(s, 0, 1))
				put(changed(s, len(s)-1, 0x80))
			}
		case reflect.Int, reflect.Int64:
			put(v.Int() + 1)
			put(-v.Int() - 1)
		case reflect.Uint64:
			put(v.Uint() + 1)
			put(v.Uint() ^ 1<<63)
		case reflect.Bool:
			put(!v.Bool())
		default:
			panic("another kind: " + v.Kind().String())
		}
	}
	walk("", reflect.ValueOf(&x).Elem())
}

// P16.1: ends that differ in one thing alone, each in turn, are not the same.
func TestSame(t *testing.T) {
	for _, x := range []api.Tls{{}, full(t), talked(t).ends[0], talked(t).ends[5]} {
		if !tlsc.Same(x, plain(x)) || !tlsc.Same(plain(x), x) {
			t.Errorf("Same of an end and itself: false")
		}
		names := map[string]bool{}
		altered(x, func(name string, y api.Tls) {
			if reflect.DeepEqual(plain(x), y) {
				t.Errorf("nothing is altered at %s", name)
			}
			names[strings.FieldsFunc(name, func(r rune) bool { return strings.ContainsRune(".[] ", r) })[0]] = true
			if tlsc.Same(x, y) || tlsc.Same(y, x) {
				t.Errorf("Same of ends that differ at %s: true", name)
			}
			if !tlsc.Same(y, plain(y)) {
				t.Errorf("Same of an end altered at %s and itself: false", name)
			}
		})
		if fields := reflect.TypeOf(x).NumField(); len(names) != fields {
			t.Errorf("only %d of %d fields are altered", len(names), fields)
		}
	}
}

// P16.1: lists in another order are others; an empty list is none.
func TestSameLists(t *testing.T) {
	x, y := full(t), full(t)
	y.Roots[0], y.Roots[1] = y.Roots[1], y.Roots[0]
	if tlsc.Same(x, y) {
		t.Error("Same with the Roots exchanged: true")
	}
	y = full(t)
	y.Certs[0], y.Certs[1] = y.Certs[1], y.Certs[0]
	if tlsc.Same(x, y) {
		t.Error("Same with the Certs exchanged: true")
	}
	y = full(t)
	y.Roots[1].Names[0], y.Roots[1].Names[1] = y.Roots[1].Names[1], y.Roots[1].Names[0]
	if tlsc.Same(x, y) {
		t.Error("Same with Names exchanged: true")
	}
	y = full(t)
	y.Keys, y.App = y.App, y.Keys
	if tlsc.Same(x, y) {
		t.Error("Same with the secrets exchanged: true")
	}
	y = full(t)
	y.In, y.Out = y.Out, y.In
	if tlsc.Same(x, y) {
		t.Error("Same with the directions exchanged: true")
	}
	if a, b := (api.Tls{Roots: []api.Cert{}, Certs: []string{}}), (api.Tls{}); !tlsc.Same(a, b) || !tlsc.Same(b, a) {
		t.Error("Same of empty lists and none: false")
	}
	if a, b := (api.Tls{Roots: []api.Cert{{Names: []string{}}}}), (api.Tls{Roots: []api.Cert{{}}}); !tlsc.Same(a, b) || !tlsc.Same(b, a) {
		t.Error("Same of roots with empty Names and none: false")
	}
}

// Rule 0.5: what Start, Feed and Send tell shares no list with what they were given.
func TestNewMemory(t *testing.T) {
	spoil := func(x api.Tls) {
		for i := range x.Roots {
			for j := range x.Roots[i].Names {
				x.Roots[i].Names[j] = "spoiled"
			}
			x.Roots[i].Subject = "spoiled"
		}
		for i := range x.Certs {
			x.Certs[i] = "spoiled"
		}
	}
	calls := map[string]func(x api.Tls) api.Tls{
		"Start": func(x api.Tls) api.Tls {
			y, _, _ := tlsc.Start(host, x.Roots, 0, drawn(1, 32), "", drawn(1, 32))
			return y
		},
		"Feed": func(x api.Tls) api.Tls {
			y, _, _ := tlsc.Feed(x, "")
			return y
		},
		"Feed of what kills": func(x api.Tls) api.Tls {
			y, _, _ := tlsc.Feed(x, "\x00\x00\x00\x00")
			return y
		},
		"Feed of a dead end": func(x api.Tls) api.Tls {
			x.State, x.Buf = api.TsDead, ""
			y, _, _ := tlsc.Feed(x, "\x00")
			return y
		},
		"Send": func(x api.Tls) api.Tls {
			y, _, e := tlsc.Send(x, "text")
			if e != api.OK {
				t.Fatal(e)
			}
			return y
		},
		"Send of nothing": func(x api.Tls) api.Tls {
			y, _, _ := tlsc.Send(x, "")
			return y
		},
	}
	for name, call := range calls {
		x := full(t)
		y := call(x)
		if len(y.Roots) != 2 || len(y.Roots[1].Names) != 2 {
			t.Fatalf("%s tells %v", name, y.Roots)
		}
		kept := plain(y)
		spoil(x)
		if differ := differences(y, kept); differ != "" {
			t.Errorf("%s tells what its argument has:%s", name, differ)
		}
		x = full(t)
		kept = plain(x)
		y = call(x)
		if differ := differences(x, kept); differ != "" {
			t.Errorf("%s changes what it is given:%s", name, differ)
		}
		spoil(y)
		if differ := differences(x, kept); differ != "" {
			t.Errorf("%s tells what its argument has:%s", name, differ)
		}
	}
}

// LANGUAGE: an empty list is none, also where one was given, and room behind a list's end is not written into.
func TestListsOfTheirOwn(t *testing.T) {
	roomy := make([]api.Cert, 1, 4)
	roomy[0] = root(t)
	x, _, e := tlsc.Start(host, roomy, 0, drawn(1, 32), "", drawn(1, 32))
	if e != api.OK {
		t.Fatal(e)
	}
	x.Roots = append(x.Roots, leaf(t))
	if roomy[:2][1].Subject != "" {
		t.Error("Start's Roots have the argument's room")
	}
	if x, _, _ := tlsc.Start(host, []api.Cert{{Names: []string{}}}, 0, drawn(1, 32), "", drawn(1, 32)); x.Roots[0].Names != nil || x.Certs != nil {
		t.Error("Start keeps empty lists")
	}
	if x, _, _ := tlsc.Start(host, []api.Cert{}, 0, drawn(1, 32), "", drawn(1, 32)); x.Roots != nil {
		t.Error("Start keeps an empty list")
	}
}
