package tlss_test

import (
	"math"
	"reflect"
	"strings"
	"testing"

	"pendulum/api"
	"pendulum/num"
	"pendulum/tlsc"
	"pendulum/tlss"
)

// holdListen says that Listen tells an end that waits with what it was given, and nothing else.
func holdListen(t *testing.T, certs []string, key, draw api.Num, random, secret string) {
	t.Helper()
	got, e := tlss.Listen(certs, key, draw, random, secret)
	want := api.Tls{State: 1, Certs: certs, Key: key, Draw: draw, Random: random, Secret: secret}
	if differ := differences(got, want); differ != "" || e != api.OK {
		t.Errorf("Listen:%s %v", differ, e)
	}
}

// P17.1: ends of all that may be; nothing is asked yet of certificates and numbers.
func TestListen(t *testing.T) {
	most := api.Num{math.MaxUint64, math.MaxUint64, math.MaxUint64, math.MaxUint64}
	for _, certs := range [][]string{nil, {}, {""}, {certified(t, leaf(t), rootSecret())}, {"one", "two", "one"}, {"", drawn(1, 5000), "", "", "", ""}} {
		holdListen(t, certs, serverSecret(), api.Num{3}, drawn(1, 32), drawn(2, 32))
	}
	for _, n := range []api.Num{{}, {1}, {1, 2, 3, 4}, orderOf(t), most} {
		holdListen(t, nil, n, api.Num{3}, drawn(1, 32), drawn(2, 32))
		holdListen(t, nil, api.Num{3}, n, drawn(1, 32), drawn(2, 32))
		holdListen(t, []string{"x"}, n, n, drawn(1, 32), drawn(2, 32))
	}
	for _, s := range []string{strings.Repeat("\x00", 32), strings.Repeat("\xff", 32), strings.Repeat(" ", 32), drawn(7, 32)} {
		holdListen(t, []string{"x"}, api.Num{1}, api.Num{2}, s, drawn(1, 32))
		holdListen(t, []string{"x"}, api.Num{1}, api.Num{2}, drawn(1, 32), s)
		holdListen(t, []string{"x"}, api.Num{1}, api.Num{2}, s, s)
	}
	x := talked(t).ends[atHello]
	got, e := tlss.Listen(x.Certs, x.Key, x.Draw, x.Random, x.Secret)
	if differ := differences(got, x); differ != "" || e != api.OK {
		t.Errorf("Listen:%s %v", differ, e)
	}
}

func orderOf(t testing.TB) api.Num {
	t.Helper()
	n, e := num.Parse("ffffffff00000000ffffffffffffffffbce6faada7179e84f3b9cac2fc632551")
	if e != api.OK {
		t.Fatal(e)
	}
	return n
}

// P17.1, rules 0.2 and 0.3: a random that has not 32 bytes is told ahead of a secret that is none; beside an error there is no end.
func TestListenRefuses(t *testing.T) {
	secrets := map[int]api.Errno{0: api.ErrShort, 1: api.ErrShort, 31: api.ErrShort, 32: api.OK, 33: api.ErrLong, 64: api.ErrLong, 288: api.ErrLong}
	for _, size := range []int{0, 1, 16, 31, 32, 33, 64, 288} {
		for secret, want := range secrets {
			if size != 32 {
				want = api.ErrForm
			}
			x, e := tlss.Listen([]string{"x"}, api.Num{1}, api.Num{2}, drawn(1, size), drawn(2, secret))
			if e != want {
				t.Errorf("Listen of a random of %d bytes, a secret of %d: %v; want %v", size, secret, e, want)
			}
			if e != api.OK && !reflect.DeepEqual(x, api.Tls{}) {
				t.Errorf("Listen of a random of %d bytes, a secret of %d tells an end in the state %d", size, secret, x.State)
			}
		}
	}
}

// full is an end of which no field is empty.
func full(t testing.TB) api.Tls {
	t.Helper()
	x := talked(t).ends[atOpen]
	x.Roots = []api.Cert{root(t), leaf(t)}
	x.Roots[1].Names = []string{"one", "two"}
	x.Certs = []string{"first", "second"}
	x.Now, x.Peer = 5, pointOf(t, rootSecret())
	x.Buf, x.Hands, x.Why = "\x17\x03", "\x14\x00", api.ErrTrust
	x.In.Seq, x.Out.Seq = 3, 4
	return plain(x)
}

// spoil writes into the lists of an end.
func spoil(x api.Tls) {
	for i := range x.Roots {
		for j := range x.Roots[i].Names {
			x.Roots[i].Names[j] = "spoiled"
		}
		x.Roots[i].Subject = "spoiled"
	}
	for i := range x.Certs {
		x.Certs[i] = "spoiled"
	}
}

// Rule 0.5: what Listen, Feed and Meet tell shares no list with what they were given, and both ends of Meet share none.
func TestNewMemory(t *testing.T) {
	our := talked(t)
	feed := func(place int, s string) func(api.Tls) api.Tls {
		return func(x api.Tls) api.Tls {
			x.State, x.Buf, x.Hands, x.In, x.Log = our.ends[place].State, "", "", our.ends[place].In, our.ends[place].Log
			y, _, _ := tlss.Feed(x, s)
			return y
		}
	}
	for name, call := range map[string]func(x api.Tls) api.Tls{
		"Listen": func(x api.Tls) api.Tls {
			y, _ := tlss.Listen(x.Certs, x.Key, x.Draw, x.Random, x.Secret)
			return y
		},
		"Feed of nothing":     feed(atOpen, ""),
		"Feed of a hello":     feed(atHello, our.record(t, atHello)),
		"Feed of no hello":    feed(atHello, "\x00"),
		"Feed of a part":      feed(atHello, "\x16"),
		"Feed of an end":      feed(atFinish, our.record(t, atFinish)),
		"Feed of no end":      feed(atFinish, "\x00"),
		"Feed of data":        feed(atOpen, sealed(t, our.ends[atOpen].In, 23, "tick")),
		"Feed of what is not": feed(atOpen, "\x00"),
		"Feed of a dead end": func(x api.Tls) api.Tls {
			x.State = api.TsDead
			y, _, _ := tlss.Feed(x, "\x00")
			return y
		},
		"Meet's client": func(x api.Tls) api.Tls {
			y, _ := tlss.Meet(x, "", our.ends[atOpen])
			return y
		},
		"Meet's server": func(x api.Tls) api.Tls {
			_, y := tlss.Meet(our.ends[atOpen], "", x)
			return y
		},
		"Meet of one": func(x api.Tls) api.Tls {
			y, z := tlss.Meet(x, "", x)
			spoil(z)
			return y
		},
	} {
		x := full(t)
		y := call(x)
		if len(y.Certs) != 2 || y.Certs[0] != "first" || name != "Listen" && (len(y.Roots) != 2 || len(y.Roots[1].Names) != 2 || y.Roots[1].Names[1] != "two") {
			t.Fatalf("%s tells %v, %v", name, y.Certs, y.Roots)
		}
		kept := plain(y)
		spoil(x)
		if differ := differences(y, kept); differ != "" {
			t.Errorf("%s tells what its argument has:%s", name, differ)
		}
		x = full(t)
		kept = plain(x)
		y = call(x)
		if differ := differences(x, kept); differ != "" {
			t.Errorf("%s changes what it is given:%s", name, differ)
		}
		spoil(y)
		if differ := differences(x, kept); differ != "" {
			t.Errorf("%s tells what its argument has:%s", name, differ)
		}
	}
}

// LANGUAGE: an empty list is none, also where one was given, and room behind a list's end is not written into.
func TestListsOfTheirOwn(t *testing.T) {
	roomy := make([]string, 1, 4)
	x, e := tlss.Listen(roomy, api.Num{}, api.Num{}, drawn(1, 32), drawn(2, 32))
	if e != api.OK {
		t.Fatal(e)
	}
	x.Certs = append(x.Certs, "more")
	if roomy[:2][1] != "" {
		t.Error("Listen's Certs have the argument's room")
	}
	if x, _ := tlss.Listen([]string{}, api.Num{}, api.Num{}, drawn(1, 32), drawn(2, 32)); len(x.Certs) != 0 || len(x.Roots) != 0 {
		t.Error("Listen of an empty list tells one that is none")
	}
	if !tlsc.Same(x, plain(x)) {
		t.Error("an end is not the Same as itself")
	}
}
