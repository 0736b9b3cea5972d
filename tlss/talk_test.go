package tlss_test

import (
	"fmt"
	"reflect"
	"runtime"
	"strings"
	"sync"
	"sync/atomic"
	"testing"

	"pendulum/api"
	"pendulum/cert"
	"pendulum/ecdsa"
	"pendulum/hand"
	"pendulum/tlsc"
	"pendulum/tlss"
)

const (
	host   = "x.a"
	moment = 500 // within the times of all certificates
)

// The places of a handshake at which an end can be.
const (
	atHello  = 0 // TsWait
	atFinish = 1 // TsHand
	atOpen   = 2 // TsOpen
)

// talk is a handshake, made without Feed: the server's end at each place, the client's message that leads from each one to the next, and what the server says to the first one.
type talk struct {
	ends     [3]api.Tls
	messages [2]string
	said     string
}

// The numbers by which the root signs, and the server.
func rootSecret() api.Num   { return api.Num{7} }
func serverSecret() api.Num { return api.Num{2} }

func pointOf(t testing.TB, d api.Num) api.Point {
	t.Helper()
	q, e := ecdsa.Public(d)
	if e != api.OK {
		t.Fatal(e)
	}
	return q
}

func root(t testing.TB) api.Cert {
	t.Helper()
	return api.Cert{Issuer: "r", Subject: "r", To: 1000, Key: pointOf(t, rootSecret()), Ca: true, Names: []string{"no server"}}
}

// certified is a certificate as bytes, signed by a number.
func certified(t testing.TB, c api.Cert, by api.Num) string {
	t.Helper()
	c, e := cert.Make(c, by, api.Num{11})
	if e != api.OK {
		t.Fatal(e)
	}
	text, e := cert.Write(c)
	if e != api.OK {
		t.Fatal(e)
	}
	return text
}

// leaf is the server's certificate, which is not signed yet.
func leaf(t testing.TB) api.Cert {
	t.Helper()
	return api.Cert{Serial: api.Num{9}, Issuer: "r", Subject: "s", From: 100, To: 1000, Key: pointOf(t, serverSecret()), Names: []string{host}}
}

// waiting is a server's end with these certificates that nothing has come to.
func waiting(certs ...string) api.Tls {
	return api.Tls{State: api.TsWait, Certs: certs, Key: serverSecret(), Draw: api.Num{12345}, Random: drawn(5, 32), Secret: drawn(4, 32)}
}

// greeting is a client's hello, as a message.
func greeting(t testing.TB) api.Msg {
	t.Helper()
	return api.Msg{Kind: api.HsClient, Random: drawn(2, 32), Session: drawn(3, 32), Share: publicOf(t, drawn(1, 32)), Name: host, Alpn: "ntske/1"}
}

// greets is such a hello as bytes, altered.
func greets(t testing.TB, change func(*api.Msg)) string {
	t.Helper()
	m := greeting(t)
	change(&m)
	return written(t, m)
}

// finishes is HsFinish of what an end has heard and said.
func finishes(t testing.TB, x api.Tls) string {
	t.Helper()
	return "\x14\x00\x00\x20" + endOf(t, x.Keys.Client, x.Log)
}

// talkWith is a handshake of a server that waits with a client that says this hello.
func talkWith(t testing.TB, x api.Tls, hello api.Msg) talk {
	t.Helper()
	var out talk
	out.ends[atHello] = x
	out.messages[atHello] = written(t, hello)
	y, said, e := answered(t, x, hello, out.messages[atHello])
	if e != api.OK {
		t.Fatal(e)
	}
	out.ends[atFinish], out.said = y, said
	out.messages[atFinish] = finishes(t, y)
	y.Log += out.messages[atFinish]
	y.In = sideOf(t, y.App.Client)
	y.State, y.Step = api.TsOpen, 1
	out.ends[atOpen] = y
	return out
}

var (
	ourTalk talk
	ourOnce sync.Once
)

// talked is a handshake of a server that has one certificate.
func talked(t testing.TB) talk {
	t.Helper()
	ourOnce.Do(func() { ourTalk = talkWith(t, waiting(certified(t, leaf(t), rootSecret())), greeting(t)) })
	return ourTalk
}

// record is the one that leads from a place to the next.
func (x talk) record(t testing.TB, place int) string {
	t.Helper()
	return part(t, x.ends[place], x.messages[place])
}

// records are both, one behind the other.
func (x talk) records(t testing.TB) string {
	t.Helper()
	return x.record(t, atHello) + x.record(t, atFinish)
}

// part is a record with messages as an end takes it: sealed, unless it still waits.
func part(t testing.TB, x api.Tls, body string) string {
	t.Helper()
	if x.State == api.TsWait {
		return headed(22, body)
	}
	return sealed(t, x.In, 22, body)
}

// parts are records with pieces of messages, one behind the other.
func parts(t testing.TB, x api.Tls, bodies ...string) string {
	t.Helper()
	out := ""
	for _, body := range bodies {
		out += part(t, x, body)
		x.In.Seq++
	}
	return out
}

// plain is an end as it is told: no list is empty without being none.
func plain(x api.Tls) api.Tls {
	var roots []api.Cert
	for _, c := range x.Roots {
		c.Names = append([]string(nil), c.Names...)
		roots = append(roots, c)
	}
	x.Roots, x.Certs = roots, append([]string(nil), x.Certs...)
	return x
}

// differences are the fields in which two ends differ.
func differences(got, want api.Tls) string {
	a, b := reflect.ValueOf(plain(got)), reflect.ValueOf(plain(want))
	out := ""
	for i := range a.NumField() {
		p, q := a.Field(i).Interface(), b.Field(i).Interface()
		if reflect.DeepEqual(p, q) {
			continue
		}
		if s, ok := p.(string); ok {
			p, q = hexed(s), hexed(q.(string))
		}
		out += fmt.Sprintf(" %s %v (want %v);", a.Type().Field(i).Name, p, q)
	}
	return out
}

// hold feeds an end, and holds what is told against the chapter's words.
func hold(t testing.TB, x api.Tls, s string) (api.Tls, string, string) {
	t.Helper()
	ahead := plain(x)
	y, said, told := tlss.Feed(x, s)
	want, wantSaid, wantTold := fed(t, x, s)
	if differ := differences(y, want); differ != "" || said != wantSaid || told != wantTold {
		t.Errorf("Feed in the state %d of %s:%s said %s (want %s), told %s (want %s)", x.State, hexed(s), differ, hexed(said), hexed(wantSaid), hexed(told), hexed(wantTold))
	}
	if !tlsc.Same(y, want) {
		t.Errorf("Feed in the state %d of %s: the end is not the Same as it should be", x.State, hexed(s))
	}
	if differ := differences(x, ahead); differ != "" {
		t.Errorf("Feed of %s changes what it is given:%s", hexed(s), differ)
	}
	return y, said, told
}

// goes says that an end goes on to another one, and what is said and told.
func goes(t testing.TB, what string, x api.Tls, s string, want api.Tls, wantSaid, wantTold string) {
	t.Helper()
	y, said, told := hold(t, x, s)
	if differ := differences(y, want); differ != "" || said != wantSaid || told != wantTold {
		t.Errorf("%s:%s said %s (want %s), told %s (want %s)", what, differ, hexed(said), hexed(wantSaid), hexed(told), hexed(wantTold))
	}
}

// dies says that an end dies, has what it had but what changed so far, and takes nothing more.
func dies(t testing.TB, what string, x api.Tls, s string, why api.Errno, change func(*api.Tls)) {
	t.Helper()
	want := x
	want.State, want.Why, want.Buf = api.TsDead, why, ""
	if change != nil {
		change(&want)
	}
	goes(t, what, x, s, want, "", "")
	stays(t, want, s)
}

// opens is a change: records of a direction were opened.
func opens(n uint64) func(*api.Tls) {
	return func(x *api.Tls) { x.In.Seq += n }
}

// opensAt is the change that a record makes that is sealed at this place, or plain, and what of its messages is left.
func opensAt(place int, left string) func(*api.Tls) {
	return func(x *api.Tls) {
		x.Hands = left
		if place != atHello {
			x.In.Seq++
		}
	}
}

// stays says that a dead end takes nothing.
func stays(t testing.TB, x api.Tls, s string) {
	t.Helper()
	for _, more := range []string{"", s, "\x00", "\x16", headed(21, "\x02\x28"), headed(22, "\x01"), talked(t).record(t, atHello), part(t, api.Tls{In: api.Side{Key: drawn(1, 16), Iv: drawn(2, 12)}}, "x")} {
		y, said, told := tlss.Feed(x, more)
		if differ := differences(y, x); differ != "" || said != "" || told != "" {
			t.Errorf("Feed of a dead end:%s said %s, told %s", differ, hexed(said), hexed(told))
		}
	}
}

// each runs a test of each number below n, some at the same time, as a handshake takes long.
func each(n int, test func(i int)) {
	var next atomic.Int64
	var group sync.WaitGroup
	for range runtime.GOMAXPROCS(0) {
		group.Go(func() {
			for i := int(next.Add(1)) - 1; i < n; i = int(next.Add(1)) - 1 {
				test(i)
			}
		})
	}
	group.Wait()
}

func placeName(place int) string {
	return strings.Fields("hello finish open")[place]
}

// isPart tells whether a text is a part of a message, and no more.
func isPart(s string) bool {
	list, _, e := hand.All(s)
	return e == api.OK && len(list) == 0
}
