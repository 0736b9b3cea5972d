package tlsc_test

import (
	"fmt"
	"reflect"
	"runtime"
	"strings"
	"sync"
	"sync/atomic"
	"testing"

	"pendulum/api"
	"pendulum/cert"
	"pendulum/ecdsa"
	"pendulum/hand"
	"pendulum/tlsc"
)

const (
	host   = "x.a"
	moment = 500 // within the times of all certificates
)

// The places of a handshake at which an end can be.
const (
	atHello  = 0 // TsWait
	atExt    = 1 // TsHand, from here on
	atCert   = 2
	atVerify = 3
	atFinish = 4
	atOpen   = 5 // TsOpen
)

// talk is a handshake, made without Feed: the client's end at each place, and the message that leads from each one to the next.
type talk struct {
	ends     [6]api.Tls
	messages [5]string
	said     string // what Start says
	ended    string // the record by which the client ends the handshake
}

// The numbers by which the root signs, and the server.
func rootSecret() api.Num   { return api.Num{7} }
func serverSecret() api.Num { return api.Num{2} }

func pointOf(t testing.TB, d api.Num) api.Point {
	t.Helper()
	q, e := ecdsa.Public(d)
	if e != api.OK {
		t.Fatal(e)
	}
	return q
}

func root(t testing.TB) api.Cert {
	t.Helper()
	return api.Cert{Issuer: "r", Subject: "r", To: 1000, Key: pointOf(t, rootSecret()), Ca: true, Names: []string{"no server"}}
}

// certified is a certificate as bytes, signed by a number.
func certified(t testing.TB, c api.Cert, by api.Num) string {
	t.Helper()
	c, e := cert.Make(c, by, api.Num{11})
	if e != api.OK {
		t.Fatal(e)
	}
	text, e := cert.Write(c)
	if e != api.OK {
		t.Fatal(e)
	}
	return text
}

// leaf is the server's certificate, which is not signed yet.
func leaf(t testing.TB) api.Cert {
	t.Helper()
	return api.Cert{Serial: api.Num{9}, Issuer: "r", Subject: "s", From: 100, To: 1000, Key: pointOf(t, serverSecret()), Names: []string{host}}
}

func written(t testing.TB, m api.Msg) string {
	t.Helper()
	text, e := hand.Write(m)
	if e != api.OK {
		t.Fatalf("%v is not fit", m)
	}
	return text
}

// verifies is HsVerify of what an end has heard, by a number.
func verifies(t testing.TB, x api.Tls, by api.Num) string {
	t.Helper()
	s, e := ecdsa.Sign(by, api.Num{12345}, signed(x.Log))
	if e != api.OK {
		t.Fatal(e)
	}
	return written(t, api.Msg{Kind: api.HsVerify, Sign: s})
}

// finishes is HsFinish of what an end has heard.
func finishes(t testing.TB, x api.Tls) string {
	t.Helper()
	return written(t, api.Msg{Kind: api.HsFinish, Mac: endOf(t, x.Keys.Server, x.Log)})
}

func hello(t testing.TB, session, share string) string {
	t.Helper()
	return written(t, api.Msg{Kind: api.HsServer, Random: drawn(5, 32), Session: session, Share: share})
}

func agrees(t testing.TB, alpn string) string {
	t.Helper()
	return written(t, api.Msg{Kind: api.HsExt, Alpn: alpn})
}

func shows(t testing.TB, certs ...string) string {
	t.Helper()
	return written(t, api.Msg{Kind: api.HsCert, Certs: certs})
}

// talkWith is a handshake with a server that has this chain, whose last one the root has signed.
func talkWith(t testing.TB, certs ...string) talk {
	t.Helper()
	var out talk
	x := api.Tls{State: api.TsWait, Name: host, Now: moment, Roots: []api.Cert{root(t)}, Random: drawn(2, 32), Session: drawn(3, 32), Secret: drawn(1, 32)}
	x.Log = written(t, api.Msg{Kind: api.HsClient, Random: x.Random, Session: x.Session, Share: publicOf(t, x.Secret), Name: host, Alpn: "ntske/1"})
	out.said = headed(22, x.Log)
	out.ends[atHello] = x

	share := publicOf(t, drawn(4, 32))
	shared, _ := sharedBy(t, x.Secret, share)
	out.messages[atHello] = hello(t, x.Session, share)
	x.Log += out.messages[atHello]
	x.State, x.Keys = api.TsHand, handSecrets(t, shared, x.Log)
	x.In, x.Out = sideOf(t, x.Keys.Server), sideOf(t, x.Keys.Client)
	out.ends[atExt] = x

	for place := atExt; place <= atFinish; place++ {
		switch place {
		case atExt:
			out.messages[place] = agrees(t, "ntske/1")
		case atCert:
			out.messages[place] = shows(t, certs...)
			x.Peer = pointOf(t, serverSecret())
		case atVerify:
			out.messages[place] = verifies(t, x, serverSecret())
		case atFinish:
			out.messages[place] = finishes(t, x)
		}
		x.Log += out.messages[place]
		x.Step++
		x.In.Seq++
		out.ends[place+1] = x
	}
	x.App = appSecrets(t, x.Keys, x.Log)
	end := "\x14\x00\x00\x20" + endOf(t, x.Keys.Client, x.Log)
	out.ended = sealed(t, x.Out, 22, end)
	x.Log += end
	x.In, x.Out = sideOf(t, x.App.Server), sideOf(t, x.App.Client)
	x.State = api.TsOpen
	out.ends[atOpen] = x
	return out
}

var (
	ourTalk talk
	ourOnce sync.Once
)

// talked is a handshake with a server that has one certificate.
func talked(t testing.TB) talk {
	t.Helper()
	ourOnce.Do(func() { ourTalk = talkWith(t, certified(t, leaf(t), rootSecret())) })
	return ourTalk
}

// record is the one that leads from a place to the next.
func (x talk) record(t testing.TB, place int) string {
	t.Helper()
	return part(t, x.ends[place], x.messages[place])
}

// records are those that lead from a place to another, one behind the other.
func (x talk) records(t testing.TB, from, to int) string {
	t.Helper()
	out := ""
	for place := from; place < to; place++ {
		out += x.record(t, place)
	}
	return out
}

// part is a record with messages as an end takes it: sealed, unless it still waits.
func part(t testing.TB, x api.Tls, body string) string {
	t.Helper()
	if x.State == api.TsWait {
		return headed(22, body)
	}
	return sealed(t, x.In, 22, body)
}

// parts are records with pieces of messages, one behind the other.
func parts(t testing.TB, x api.Tls, bodies ...string) string {
	t.Helper()
	out := ""
	for _, body := range bodies {
		out += part(t, x, body)
		x.In.Seq++
	}
	return out
}

// plain is an end as it is told: no list is empty without being none.
func plain(x api.Tls) api.Tls {
	var roots []api.Cert
	for _, c := range x.Roots {
		c.Names = append([]string(nil), c.Names...)
		roots = append(roots, c)
	}
	x.Roots, x.Certs = roots, append([]string(nil), x.Certs...)
	return x
}

// differences are the fields in which two ends differ.
func differences(got, want api.Tls) string {
	a, b := reflect.ValueOf(plain(got)), reflect.ValueOf(plain(want))
	out := ""
	for i := range a.NumField() {
		p, q := a.Field(i).Interface(), b.Field(i).Interface()
		if reflect.DeepEqual(p, q) {
			continue
		}
		if s, ok := p.(string); ok {
			p, q = hexed(s), hexed(q.(string))
		}
		out += fmt.Sprintf(" %s %v (want %v);", a.Type().Field(i).Name, p, q)
	}
	return out
}

// hold feeds an end, and holds what is told against the chapter's words.
func hold(t testing.TB, x api.Tls, s string) (api.Tls, string, string) {
	t.Helper()
	ahead := plain(x)
	y, said, told := tlsc.Feed(x, s)
	want, wantSaid, wantTold := fed(t, x, s)
	if differ := differences(y, want); differ != "" || said != wantSaid || told != wantTold {
		t.Errorf("Feed in the state %d, step %d, of %s:%s said %s (want %s), told %s (want %s)", x.State, x.Step, hexed(s), differ, hexed(said), hexed(wantSaid), hexed(told), hexed(wantTold))
	}
	if !tlsc.Same(y, want) {
		t.Errorf("Feed in the state %d, step %d, of %s: the end is not the Same as it should be", x.State, x.Step, hexed(s))
	}
	if differ := differences(x, ahead); differ != "" {
		t.Errorf("Feed of %s changes what it is given:%s", hexed(s), differ)
	}
	return y, said, told
}

// goes says that an end goes on to another one, and what is said and told.
func goes(t testing.TB, what string, x api.Tls, s string, want api.Tls, wantSaid, wantTold string) {
	t.Helper()
	y, said, told := hold(t, x, s)
	if differ := differences(y, want); differ != "" || said != wantSaid || told != wantTold {
		t.Errorf("%s:%s said %s (want %s), told %s (want %s)", what, differ, hexed(said), hexed(wantSaid), hexed(told), hexed(wantTold))
	}
}

// dies says that an end dies, has what it had but what changed so far, and takes nothing more.
func dies(t testing.TB, what string, x api.Tls, s string, why api.Errno, change func(*api.Tls)) {
	t.Helper()
	want := x
	want.State, want.Why, want.Buf = api.TsDead, why, ""
	if change != nil {
		change(&want)
	}
	goes(t, what, x, s, want, "", "")
	stays(t, want, s)
}

// opens is a change: records of a direction were opened.
func opens(n uint64) func(*api.Tls) {
	return func(x *api.Tls) { x.In.Seq += n }
}

// stays says that a dead end takes nothing.
func stays(t testing.TB, x api.Tls, s string) {
	t.Helper()
	for _, more := range []string{"", s, "\x00", "\x16", headed(21, "\x02\x28"), headed(22, "\x14"), part(t, api.Tls{In: api.Side{Key: drawn(1, 16), Iv: drawn(2, 12)}}, "x")} {
		y, said, told := tlsc.Feed(x, more)
		if differ := differences(y, x); differ != "" || said != "" || told != "" {
			t.Errorf("Feed of a dead end:%s said %s, told %s", differ, hexed(said), hexed(told))
		}
	}
}

// each runs a test of each number below n, some at the same time, as a handshake takes long.
func each(n int, test func(i int)) {
	var next atomic.Int64
	var group sync.WaitGroup
	for range runtime.GOMAXPROCS(0) {
		group.Go(func() {
			for i := int(next.Add(1)) - 1; i < n; i = int(next.Add(1)) - 1 {
				test(i)
			}
		})
	}
	group.Wait()
}

func placeName(place int) string {
	return strings.Fields("hello ext cert verify finish open")[place]
}

// isPart tells whether a text is a part of a message, and no more.
func isPart(s string) bool {
	list, _, e := hand.All(s)
	return e == api.OK && len(list) == 0
}
