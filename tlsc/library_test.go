package tlsc_test

import (
	"bytes"
	libecdsa "crypto/ecdsa"
	"crypto/elliptic"
	"crypto/tls"
	"encoding/hex"
	"io"
	"net"
	"strings"
	"testing"
	"time"

	"pendulum/api"
	"pendulum/hand"
	"pendulum/num"
	"pendulum/tlsc"
)

// asked is how many bytes are exported by a label and a context.
type asked struct {
	label, context string
	n              int
}

func exports() []asked {
	return []asked{
		{"EXPORTER-network-time-security", "\x00\x00\x00\x0f\x00", 32},
		{"EXPORTER-network-time-security", "\x00\x00\x00\x0f\x01", 32},
		{"", drawn(1, 5000), 33},
		{drawn(2, 249), "", 8160},
	}
}

// librarys is what a server of Go's own library knows when a talk is done: its secrets, a line each, what it heard and what it exported.
type librarys struct {
	secrets string
	heard   string
	exports []string
	err     error
}

// serves is such a server, with a certificate of chapter 12: it hears as many bytes as it is told to, and says them again.
func serves(at net.Conn, by tls.Certificate, size int) librarys {
	var keys bytes.Buffer
	server := tls.Server(at, &tls.Config{Certificates: []tls.Certificate{by}, NextProtos: []string{"ntske/1"}, KeyLogWriter: &keys, SessionTicketsDisabled: true})
	var out librarys
	out.err = server.Handshake()
	out.secrets = keys.String()
	if out.err != nil {
		return out
	}
	heard := make([]byte, size)
	if _, out.err = io.ReadFull(server, heard); out.err != nil {
		return out
	}
	out.heard = string(heard)
	if _, out.err = server.Write(heard); out.err != nil {
		return out
	}
	state := server.ConnectionState()
	for _, x := range exports() {
		text, err := state.ExportKeyingMaterial(x.label, []byte(x.context), x.n)
		if err != nil {
			out.err = err
			return out
		}
		out.exports = append(out.exports, string(text))
	}
	return out
}

// secret is the one of a name.
func (x librarys) secret(t *testing.T, name string) string {
	t.Helper()
	for _, line := range strings.Split(x.secrets, "\n") {
		if words := strings.Fields(line); len(words) == 3 && words[0] == name {
			out, err := hex.DecodeString(words[2])
			if err != nil {
				t.Fatal(err)
			}
			return string(out)
		}
	}
	t.Fatalf("the library's server tells no %s", name)
	return ""
}

// meeting is a talk with such a server.
type meeting struct {
	t    *testing.T
	conn net.Conn
	done chan librarys
}

func meet(t *testing.T, size int) meeting {
	t.Helper()
	key, err := libecdsa.ParseRawPrivateKey(elliptic.P256(), []byte(num.Big(serverSecret())))
	if err != nil {
		t.Fatal(err)
	}
	by := tls.Certificate{Certificate: [][]byte{[]byte(certified(t, leaf(t), rootSecret()))}, PrivateKey: key}
	here, there := net.Pipe()
	here.SetDeadline(time.Now().Add(time.Minute))
	done := make(chan librarys, 1)
	go func() {
		out := serves(there, by, size)
		there.Close()
		done <- out
	}()
	t.Cleanup(func() { here.Close() })
	return meeting{t, here, done}
}

func (m meeting) says(s string) {
	m.t.Helper()
	if _, err := m.conn.Write([]byte(s)); err != nil {
		m.t.Fatal(err)
	}
}

// record is the next record, as bytes, but those of a kind that is said for whatever stands between.
func (m meeting) record() string {
	m.t.Helper()
	head := make([]byte, 5)
	if _, err := io.ReadFull(m.conn, head); err != nil {
		m.t.Fatal(err)
	}
	body := make([]byte, int(head[3])<<8+int(head[4]))
	if _, err := io.ReadFull(m.conn, body); err != nil {
		m.t.Fatal(err)
	}
	if head[0] == 20 {
		return m.record()
	}
	return string(head) + string(body)
}

// ext feeds a server's hello and its HsExt. That has what chapter 14 does not know, an answer to the name that was asked for: so the end dies of it, as it should. What the end would be, had it been read, is told.
func (m meeting) ext(x api.Tls) api.Tls {
	m.t.Helper()
	y, said, told := hold(m.t, x, m.record())
	if y.State != api.TsHand || said != "" || told != "" {
		m.t.Fatalf("the library's hello: the state %d, %v", y.State, y.Why)
	}
	z, said, told := hold(m.t, y, m.record())
	_, _, e := hand.Read(z.Hands)
	if z.State != api.TsDead || z.Why != api.ErrForm || e != api.ErrForm || z.In.Seq != 1 || !strings.HasPrefix(z.Hands, "\x08") || said != "" || told != "" {
		m.t.Fatalf("the library's HsExt: the state %d, %v, of %s", z.State, z.Why, hexed(z.Hands))
	}
	y.Log += z.Hands
	y.In.Seq, y.Step = 1, 1
	return y
}

// P16.1 to P16.3: a server of Go's own library takes what Start says, and its hello, its chain, its signature and its end are taken; both ends have the same secrets, hear what the other sends, and export the same bytes.
func TestLibraryServer(t *testing.T) {
	for i, session := range []string{"", drawn(8, 32)} {
		text := drawn(9, 1+i*40000)
		with := meet(t, len(text))
		x, said, e := tlsc.Start(host, []api.Cert{root(t)}, moment, drawn(6, 32), session, drawn(7, 32))
		if e != api.OK {
			t.Fatal(e)
		}
		with.says(said)
		x = with.ext(x)
		for x.State == api.TsHand {
			x, said, _ = hold(t, x, with.record())
		}
		if x.State != api.TsOpen || x.Peer != pointOf(t, serverSecret()) || x.Step != 4 {
			t.Fatalf("the library's handshake: the state %d, step %d, %v", x.State, x.Step, x.Why)
		}
		with.says(said)
		y, said := holdSend(t, x, text)
		with.says(said)
		heard := ""
		for y.State == api.TsOpen && len(heard) < len(text) {
			var told string
			y, _, told = hold(t, y, with.record())
			heard += told
		}
		if heard != text {
			t.Errorf("the library's server says %d bytes of %d again, the state %d, %v", len(heard), len(text), y.State, y.Why)
		}
		end := <-with.done
		if end.err != nil || end.heard != text {
			t.Fatalf("the library's server hears %d bytes of %d, %v", len(end.heard), len(text), end.err)
		}
		for name, got := range map[string]string{
			"CLIENT_HANDSHAKE_TRAFFIC_SECRET": y.Keys.Client,
			"SERVER_HANDSHAKE_TRAFFIC_SECRET": y.Keys.Server,
			"CLIENT_TRAFFIC_SECRET_0":         y.App.Client,
			"SERVER_TRAFFIC_SECRET_0":         y.App.Server,
		} {
			if want := end.secret(t, name); got != want {
				t.Errorf("%s = %s; the library's is %s", name, hexed(got), hexed(want))
			}
		}
		for i, q := range exports() {
			if got, e := tlsc.Export(y, q.label, q.context, q.n); e != api.OK || got != end.exports[i] {
				t.Errorf("Export(%s, %s, %d) = %s, %v; the library's is %s", hexed(q.label), hexed(q.context), q.n, hexed(got), e, hexed(end.exports[i]))
			}
		}
	}
}
