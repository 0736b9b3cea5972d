package hand_test

import (
	"bytes"
	"crypto/ecdh"
	"crypto/ecdsa"
	"crypto/elliptic"
	"crypto/hmac"
	"crypto/rand"
	"crypto/sha256"
	"crypto/tls"
	"crypto/x509"
	"crypto/x509/pkix"
	"io"
	"math/big"
	"net"
	"slices"
	"strings"
	"testing"
	"time"

	"pendulum/api"
	"pendulum/hand"
	"pendulum/hkdf"
	"pendulum/rec"
)

// talk is a connection to somebody who says just this, and then nothing more; what is said to them is kept.
type talk struct {
	net.Conn
	says  io.Reader
	heard bytes.Buffer
}

func (x *talk) Read(b []byte) (int, error)  { return x.says.Read(b) }
func (x *talk) Write(b []byte) (int, error) { return x.heard.Write(b) }
func (x *talk) Close() error                { return nil }

// served is a certificate of Go's own library, and another behind it.
func served(t *testing.T) tls.Certificate {
	t.Helper()
	key, err := ecdsa.GenerateKey(elliptic.P256(), rand.Reader)
	if err != nil {
		t.Fatal(err)
	}
	out := tls.Certificate{PrivateKey: key}
	for _, name := range []string{"server", "root"} {
		template := x509.Certificate{SerialNumber: big.NewInt(7), Subject: pkix.Name{CommonName: name}, NotAfter: time.Unix(4102444800, 0), DNSNames: []string{"time.example.org"}}
		text, err := x509.CreateCertificate(rand.Reader, &template, &template, &key.PublicKey, key)
		if err != nil {
			t.Fatal(err)
		}
		out.Certificate = append(out.Certificate, text)
	}
	return out
}

// heardBy is what a server of Go's own library says to a client's hello: what it took it for, the bytes of its answer, and its secret of the handshake.
func heardBy(t *testing.T, hello string, by tls.Certificate) (*tls.ClientHelloInfo, string, string) {
	t.Helper()
	said, e := rec.Frame(api.Record{Kind: api.RecHand, Body: hello})
	if e != api.OK {
		t.Fatal(e)
	}
	var info *tls.ClientHelloInfo
	var keys bytes.Buffer
	x := &talk{says: strings.NewReader(said)}
	tls.Server(x, &tls.Config{
		Certificates: []tls.Certificate{by},
		NextProtos:   []string{"ntske/1"},
		KeyLogWriter: &keys,
		GetConfigForClient: func(i *tls.ClientHelloInfo) (*tls.Config, error) {
			info = i
			return nil, nil
		},
	}).Handshake() // fails in the end, as the client says no more
	for _, line := range strings.Split(keys.String(), "\n") {
		if words := strings.Fields(line); len(words) == 3 && words[0] == "SERVER_HANDSHAKE_TRAFFIC_SECRET" {
			return info, x.heard.String(), un(words[2])
		}
	}
	t.Fatalf("the library's server takes no %s", hexed(hello))
	return nil, "", ""
}

// opened is what a server says within the handshake's records: its hello, and what is sealed behind it.
func opened(t *testing.T, said, secret string) (string, string) {
	t.Helper()
	var side api.Side
	var e api.Errno
	if side.Key, e = hkdf.Label(secret, "key", "", 16); e != api.OK {
		t.Fatal(e)
	}
	if side.Iv, e = hkdf.Label(secret, "iv", "", 12); e != api.OK {
		t.Fatal(e)
	}
	hello, sealed := "", ""
	for said != "" {
		if strings.HasPrefix(said, "\x14\x03\x03\x00\x01\x01") { // a record of a kind that is said for whatever stands between
			said = said[6:]
			continue
		}
		r, rest, e := rec.Unframe(said)
		if e != api.OK {
			t.Fatal(e)
		}
		said = rest
		if r.Kind == api.RecHand {
			hello += r.Body
			continue
		}
		if side, r, e = rec.Unprotect(side, r); e != api.OK {
			t.Fatal(e)
		}
		if r.Kind == api.RecHand {
			sealed += r.Body
		}
	}
	return hello, sealed
}

func digest(s string) string {
	out := sha256.Sum256([]byte(s))
	return string(out[:])
}

// P14.1, P14.2, P14.3: a server of Go's own library takes what is written for what it is; all that it answers is read, and what it signs is what Signed says.
func TestLibraryServer(t *testing.T) {
	secret, err := ecdh.X25519().NewPrivateKey([]byte(drawn(1, 32)))
	if err != nil {
		t.Fatal(err)
	}
	by := served(t)
	for _, session := range []string{"", "s", drawn(2, 32)} {
		m := api.Msg{Kind: api.HsClient, Random: drawn(3, 32), Session: session, Share: string(secret.PublicKey().Bytes()), Name: "time.example.org", Alpn: "ntske/1"}
		said, e := hand.Write(m)
		if e != api.OK {
			t.Fatal(e)
		}
		info, answer, key := heardBy(t, said, by)
		if info.ServerName != m.Name || !slices.Equal(info.SupportedProtos, []string{"ntske/1"}) || !slices.Equal(info.CipherSuites, []uint16{tls.TLS_AES_128_GCM_SHA256}) ||
			!slices.Equal(info.SupportedVersions, []uint16{tls.VersionTLS13}) || !slices.Equal(info.SupportedCurves, []tls.CurveID{tls.X25519}) ||
			!slices.Equal(info.SignatureSchemes, []tls.SignatureScheme{tls.ECDSAWithP256AndSHA256}) || !slices.Equal(info.Extensions, []uint16{0, 10, 13, 16, 43, 51}) {
			t.Errorf("the library's server hears %+v", info)
		}
		first, sealed := opened(t, answer, key)
		hello, rest, e := hand.Read(first)
		if e != api.OK || rest != "" || hello.Kind != api.HsServer || hello.Session != session {
			t.Fatalf("Read of the library's hello %s = %+v, %s, %v", hexed(first), hello, hexed(rest), e)
		}
		likeLibrary(t, said+first, sealed, by, key)
	}
}

// likeLibrary holds what is read of a server's messages behind its hello against what Go's own library knows of them.
func likeLibrary(t *testing.T, log, sealed string, by tls.Certificate, key string) {
	t.Helper()
	end := 4 + lengthAt(sealed, 1, 3)
	mustBeExt(t, sealed[:end])
	log += sealed[:end]
	list, left, e := hand.All(sealed[end:])
	if e != api.OK || left != "" || len(list) != 3 || list[0].Kind != api.HsCert || list[1].Kind != api.HsVerify || list[2].Kind != api.HsFinish {
		t.Fatalf("All of %s = %d messages, %d left, %v", hexed(sealed[end:]), len(list), len(left), e)
	}
	var logs []string // what was said ahead of each message
	for _, m := range list {
		logs = append(logs, log)
		s, e := hand.Write(m)
		if e != api.OK {
			t.Fatalf("Write(%+v) = %v", m, e)
		}
		log += s
	}
	if len(list[0].Certs) != 2 || list[0].Certs[0] != string(by.Certificate[0]) || list[0].Certs[1] != string(by.Certificate[1]) {
		t.Errorf("the library's certificates are %q", list[0].Certs)
	}
	public := by.PrivateKey.(*ecdsa.PrivateKey).PublicKey
	if !ecdsa.Verify(&public, []byte(digest(hand.Signed(digest(logs[1])))), value(list[1].Sign.R), value(list[1].Sign.S)) {
		t.Error("the library's signature is not one of what Signed says")
	}
	finish, e := hkdf.Label(key, "finished", "", 32)
	mac := hmac.New(sha256.New, []byte(finish))
	mac.Write([]byte(digest(logs[2])))
	if e != api.OK || list[2].Mac != string(mac.Sum(nil)) {
		t.Errorf("the library's end is %s, %v", hexed(list[2].Mac), e)
	}
}

// mustBeExt says that the library's message of a protocol has what HsExt has. The library says besides that it knows the name, which the chapter has no place for.
func mustBeExt(t *testing.T, s string) {
	t.Helper()
	knows := un("00 00 00 00")
	mine, e := hand.Write(api.Msg{Kind: api.HsExt, Alpn: "ntske/1"})
	if e != api.OK || s[:1] != mine[:1] || strings.TrimSuffix(s[6:], knows) != mine[6:] {
		t.Errorf("the library's %s is not %s, %v", hexed(s), hexed(mine), e)
	}
	if s != mine {
		holdRead(t, s, api.ErrForm)
	}
}
