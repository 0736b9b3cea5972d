package sched_test

import (
	"bytes"
	"crypto/ecdsa"
	"crypto/elliptic"
	"crypto/rand"
	"crypto/tls"
	"crypto/x509"
	"crypto/x509/pkix"
	"io"
	"math/big"
	"net"
	"strings"
	"testing"
	"time"

	"pendulum/api"
	"pendulum/hand"
	"pendulum/rec"
	"pendulum/sched"
	"pendulum/xdh"
)

// asked is how many bytes are exported by a label and a context.
type asked struct {
	label, context string
	n              int
}

func exports() []asked {
	return []asked{
		{ntsLabel, "\x00\x00\x00\x0f\x00", 32},
		{ntsLabel, "\x00\x00\x00\x0f\x01", 32},
		{ntsLabel, "\x00\x00\x00\x11\x00", 64},
		{"", "", 1},
		{"", drawn(1, 5000), 33},
		{drawn(2, 249), "", 8160},
	}
}

// serverEnd is what Go's own server knows when a connection is done: its secrets, a line each, and what it exported.
type serverEnd struct {
	secrets string
	exports []string
	heard   string
	err     error
}

// certified is a certificate of Go's own library.
func certified(t *testing.T) tls.Certificate {
	t.Helper()
	key, err := ecdsa.GenerateKey(elliptic.P256(), rand.Reader)
	if err != nil {
		t.Fatal(err)
	}
	template := x509.Certificate{SerialNumber: big.NewInt(7), Subject: pkix.Name{CommonName: "server"}, NotAfter: time.Unix(4102444800, 0)}
	text, err := x509.CreateCertificate(rand.Reader, &template, &template, &key.PublicKey, key)
	if err != nil {
		t.Fatal(err)
	}
	return tls.Certificate{Certificate: [][]byte{text}, PrivateKey: key}
}

// serves is Go's own server: it hears four bytes, and answers four.
func serves(conn net.Conn, by tls.Certificate) serverEnd {
	var keys bytes.Buffer
	server := tls.Server(conn, &tls.Config{Certificates: []tls.Certificate{by}, NextProtos: []string{api.Alpn}, KeyLogWriter: &keys, SessionTicketsDisabled: true})
	var end serverEnd
	heard := make([]byte, 4)
	if _, end.err = io.ReadFull(server, heard); end.err != nil {
		return end
	}
	end.heard = string(heard)
	if _, end.err = server.Write([]byte("tock")); end.err != nil {
		return end
	}
	state := server.ConnectionState()
	for _, x := range exports() {
		out, err := state.ExportKeyingMaterial(x.label, []byte(x.context), x.n)
		if err != nil {
			end.err = err
			return end
		}
		end.exports = append(end.exports, string(out))
	}
	end.secrets = keys.String()
	return end
}

// secret is the one of a name.
func (x serverEnd) secret(t *testing.T, name string) string {
	t.Helper()
	for _, line := range strings.Split(x.secrets, "\n") {
		if words := strings.Fields(line); len(words) == 3 && words[0] == name {
			return unhexed(t, words[2])
		}
	}
	t.Fatalf("the library's server tells no %s", name)
	return ""
}

// client is a client's end by hand: it has what was said, and the keys of both directions.
type client struct {
	*testing.T
	conn    net.Conn
	log     string
	in, out api.Side
}

// hears is the next record, opened if there are keys; those of a kind that is said for whatever stands between are left out.
func (c *client) hears() api.Record {
	c.Helper()
	head := make([]byte, 5)
	if _, err := io.ReadFull(c.conn, head); err != nil {
		c.Fatal(err)
	}
	body := make([]byte, int(head[3])<<8+int(head[4]))
	if _, err := io.ReadFull(c.conn, body); err != nil {
		c.Fatal(err)
	}
	if head[0] == 20 {
		return c.hears()
	}
	r := api.Record{Kind: int(head[0]), Body: string(body)}
	if c.in.Key == "" {
		return r
	}
	var e api.Errno
	if c.in, r, e = rec.Unprotect(c.in, r); e != api.OK {
		c.Fatalf("a record %d of the library's server is not opened: %v", head[0], e)
	}
	return r
}

// says sends a record, sealed if there are keys.
func (c *client) says(r api.Record) {
	c.Helper()
	text, e := rec.Frame(r)
	if c.out.Key != "" {
		c.out, text, e = rec.Protect(c.out, r, 0)
	}
	if e != api.OK {
		c.Fatal(e)
	}
	if _, err := c.conn.Write([]byte(text)); err != nil {
		c.Fatal(err)
	}
}

// turns takes other secrets for both directions.
func (c *client) turns(x api.Secrets) {
	c.Helper()
	var e, f api.Errno
	c.in, e = sched.Side(x.Server)
	c.out, f = sched.Side(x.Client)
	if e != api.OK || f != api.OK {
		c.Fatal(e, f)
	}
}

// must is a message's bytes.
func (c *client) must(m api.Msg) string {
	c.Helper()
	text, e := hand.Write(m)
	if e != api.OK {
		c.Fatal(e)
	}
	return text
}

// meets exchanges hellos, and is the handshake's secrets.
func (c *client) meets(secret string) api.Secrets {
	c.Helper()
	public, e := xdh.Public(secret)
	if e != api.OK {
		c.Fatal(e)
	}
	c.log = c.must(api.Msg{Kind: api.HsClient, Random: drawn(2, 32), Session: drawn(3, 32), Share: public, Name: "time.example.org", Alpn: api.Alpn})
	c.says(api.Record{Kind: api.RecHand, Body: c.log})
	answer := c.hears().Body
	hello, rest, e := hand.Read(answer)
	if e != api.OK || rest != "" {
		c.Fatalf("the library's hello: %s, %v", hexed(answer), e)
	}
	c.log += answer
	shared, e := xdh.Shared(secret, hello.Share)
	if e != api.OK {
		c.Fatal(e)
	}
	x, e := sched.Handshake(shared, digestOf(c.log))
	if e != api.OK {
		c.Fatal(e)
	}
	return x
}

// ends hears the server's messages up to the end of its handshake, and holds that against Finish; then it says its own.
func (c *client) ends(x api.Secrets) api.Secrets {
	c.Helper()
	waiting, kind := "", 0
	for kind != api.HsFinish {
		for len(waiting) < 4 || len(waiting) < 4+length(waiting) {
			waiting += c.hears().Body
		}
		size := 4 + length(waiting)
		message := waiting[:size]
		waiting, kind = waiting[size:], int(message[0])
		if kind == api.HsFinish {
			if end, e := sched.Finish(x.Server, digestOf(c.log)); e != api.OK || end != message[4:] {
				c.Errorf("Finish = %s, %v; the library's is %s", hexed(end), e, hexed(message[4:]))
			}
		}
		c.log += message
	}
	digest := digestOf(c.log)
	y, e := sched.Master(x, digest)
	end, f := sched.Finish(x.Client, digest)
	if e != api.OK || f != api.OK {
		c.Fatal(e, f)
	}
	c.says(api.Record{Kind: api.RecHand, Body: c.must(api.Msg{Kind: api.HsFinish, Mac: end})})
	return y
}

// length is how many bytes a message has behind the four that tell it.
func length(message string) int {
	return int(message[1])<<16 + int(message[2])<<8 + int(message[3])
}

// P15.1 to P15.5: a server of Go's own library has the same secrets, takes the client's end, opens and seals by the same keys, and exports the same bytes.
func TestLibraryServer(t *testing.T) {
	here, there := net.Pipe()
	defer here.Close()
	here.SetDeadline(time.Now().Add(time.Minute))
	by := certified(t)
	done := make(chan serverEnd, 1)
	go func() {
		defer there.Close()
		done <- serves(there, by)
	}()
	c := &client{T: t, conn: here}
	x := c.meets(drawn(1, 32))
	c.turns(x)
	y := c.ends(x)
	c.turns(y)
	c.says(api.Record{Kind: api.RecData, Body: "tick"})
	if r := c.hears(); r.Kind != api.RecData || r.Body != "tock" {
		t.Errorf("the library's server says %d %q", r.Kind, r.Body)
	}
	end := <-done
	if end.err != nil || end.heard != "tick" {
		t.Fatalf("the library's server hears %q, %v", end.heard, end.err)
	}
	for name, got := range map[string]string{
		"CLIENT_HANDSHAKE_TRAFFIC_SECRET": x.Client,
		"SERVER_HANDSHAKE_TRAFFIC_SECRET": x.Server,
		"CLIENT_TRAFFIC_SECRET_0":         y.Client,
		"SERVER_TRAFFIC_SECRET_0":         y.Server,
	} {
		if want := end.secret(t, name); got != want || len(got) != 32 {
			t.Errorf("%s = %s; the library's is %s", name, hexed(got), hexed(want))
		}
	}
	for i, q := range exports() {
		if got, e := sched.Export(y, q.label, q.context, q.n); e != api.OK || got != end.exports[i] {
			t.Errorf("Export(%s, %s, %d) = %s, %v; the library's is %s", hexed(q.label), hexed(q.context), q.n, hexed(got), e, hexed(end.exports[i]))
		}
	}
}
