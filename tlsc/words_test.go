package tlsc_test

import (
	libaes "crypto/aes"
	"crypto/cipher"
	"crypto/ecdh"
	libecdsa "crypto/ecdsa"
	"crypto/elliptic"
	libhkdf "crypto/hkdf"
	"crypto/hmac"
	"crypto/sha256"
	"encoding/binary"
	"encoding/hex"
	"math"
	"math/big"
	"math/rand"
	"strings"
	"sync"
	"testing"

	"pendulum/api"
	"pendulum/cert"
	"pendulum/hand"
	"pendulum/num"
	"pendulum/rec"
)

// What the chapter's words say, made anew, with Go's own library for all that is secret, sealed or signed: the tests hold the program against it.

// drawn is a text that is the same in every run.
func drawn(seed int64, size int) string {
	out := make([]byte, size)
	rand.New(rand.NewSource(seed)).Read(out)
	return string(out)
}

func hexed(s string) string {
	if len(s) > 60 {
		return hex.EncodeToString([]byte(s[:60])) + ".."
	}
	return hex.EncodeToString([]byte(s))
}

// changed is a text with its byte i xor what is told.
func changed(s string, i int, by byte) string {
	out := []byte(s)
	out[i] ^= by
	return string(out)
}

func digestOf(s string) string {
	out := sha256.Sum256([]byte(s))
	return string(out[:])
}

func macBy(key, s string) string {
	m := hmac.New(sha256.New, []byte(key))
	m.Write([]byte(s))
	return string(m.Sum(nil))
}

// labelled is n bytes of a secret, as RFC 8446 writes it.
func labelled(t testing.TB, secret, label, context string, n int) string {
	t.Helper()
	label = "tls13 " + label
	info := string([]byte{byte(n >> 8), byte(n), byte(len(label))}) + label + string([]byte{byte(len(context))}) + context
	out, err := libhkdf.Expand(sha256.New, []byte(secret), info, n)
	if err != nil {
		t.Fatal(err)
	}
	return string(out)
}

// handSecrets is what sched.Handshake makes of what is shared and what was said.
func handSecrets(t testing.TB, shared, log string) api.Secrets {
	t.Helper()
	zeros := strings.Repeat("\x00", 32)
	base := macBy(labelled(t, macBy(zeros, zeros), "derived", digestOf(""), 32), shared)
	return api.Secrets{
		Base:   base,
		Client: labelled(t, base, "c hs traffic", digestOf(log), 32),
		Server: labelled(t, base, "s hs traffic", digestOf(log), 32),
	}
}

// appSecrets is what sched.Master makes of a handshake's secrets and what was said.
func appSecrets(t testing.TB, x api.Secrets, log string) api.Secrets {
	t.Helper()
	base := macBy(labelled(t, x.Base, "derived", digestOf(""), 32), strings.Repeat("\x00", 32))
	return api.Secrets{
		Base:   base,
		Client: labelled(t, base, "c ap traffic", digestOf(log), 32),
		Server: labelled(t, base, "s ap traffic", digestOf(log), 32),
		Export: labelled(t, base, "exp master", digestOf(log), 32),
	}
}

func sideOf(t testing.TB, secret string) api.Side {
	t.Helper()
	return api.Side{Key: labelled(t, secret, "key", "", 16), Iv: labelled(t, secret, "iv", "", 12)}
}

// endOf is what ends a handshake, by a secret, of what was said.
func endOf(t testing.TB, secret, log string) string {
	t.Helper()
	return macBy(labelled(t, secret, "finished", "", 32), digestOf(log))
}

// exported is what sched.Export tells.
func exported(t testing.TB, x api.Secrets, label, context string, n int) string {
	t.Helper()
	return labelled(t, labelled(t, x.Export, label, digestOf(""), 32), "exporter", digestOf(context), n)
}

func aead(t testing.TB, x api.Side) (cipher.AEAD, []byte) {
	t.Helper()
	block, err := libaes.NewCipher([]byte(x.Key))
	if err != nil {
		t.Fatal(err)
	}
	by, err := cipher.NewGCM(block)
	if err != nil {
		t.Fatal(err)
	}
	nonce := []byte(x.Iv)
	binary.BigEndian.PutUint64(nonce[4:], binary.BigEndian.Uint64(nonce[4:])^x.Seq)
	return by, nonce
}

// headed is a record as bytes, whatever it has.
func headed(kind int, body string) string {
	return string([]byte{byte(kind), 3, 3, byte(len(body) >> 8), byte(len(body))}) + body
}

// sealedWithin is a record RecData of anything that is sealed by a direction, at its place.
func sealedWithin(t testing.TB, x api.Side, within string) string {
	t.Helper()
	by, nonce := aead(t, x)
	head := headed(23, within+strings.Repeat("-", 16))[:5]
	return head + string(by.Seal(nil, nonce, []byte(within), []byte(head)))
}

// sealed is a record sealed by a direction, at its place.
func sealed(t testing.TB, x api.Side, kind int, body string) string {
	t.Helper()
	return sealedWithin(t, x, body+string([]byte{byte(kind)}))
}

// openedRecord is what rec.Unprotect tells of a record RecData.
func openedRecord(t testing.TB, x api.Side, r api.Record) (api.Record, api.Errno) {
	t.Helper()
	switch {
	case len(x.Key) != 16 || len(x.Iv) != 12:
		return api.Record{}, api.ErrForm
	case x.Seq == math.MaxUint64:
		return api.Record{}, api.ErrMany
	case len(r.Body) < 16:
		_, _, e := rec.Unprotect(x, r) // chapter 9's error, of what has no tag
		return api.Record{}, e
	}
	by, nonce := aead(t, x)
	out, err := by.Open(nil, nonce, []byte(r.Body), []byte(headed(23, r.Body)[:5]))
	if err != nil {
		return api.Record{}, api.ErrSeal
	}
	if len(out) > 16385 {
		return api.Record{}, api.ErrLong
	}
	for len(out) > 0 && out[len(out)-1] == 0 {
		out = out[:len(out)-1]
	}
	if len(out) == 0 {
		return api.Record{}, api.ErrForm
	}
	kind := int(out[len(out)-1])
	if kind < 21 || kind > 23 {
		return api.Record{}, api.ErrKind
	}
	return api.Record{Kind: kind, Body: string(out[:len(out)-1])}, api.OK
}

// sharedBy is what xdh.Shared tells.
func sharedBy(t testing.TB, secret, share string) (string, api.Errno) {
	t.Helper()
	mine, err := ecdh.X25519().NewPrivateKey([]byte(secret))
	if err != nil {
		t.Fatal(err)
	}
	theirs, err := ecdh.X25519().NewPublicKey([]byte(share))
	if err != nil {
		t.Fatal(err)
	}
	out, err := mine.ECDH(theirs)
	if err != nil {
		return "", api.ErrPoint
	}
	return string(out), api.OK
}

func publicOf(t testing.TB, secret string) string {
	t.Helper()
	mine, err := ecdh.X25519().NewPrivateKey([]byte(secret))
	if err != nil {
		t.Fatal(err)
	}
	return string(mine.PublicKey().Bytes())
}

func value(n api.Num) *big.Int {
	return new(big.Int).SetBytes([]byte(num.Big(n)))
}

// signed is what a server signs of what was said, as a digest.
func signed(log string) string {
	return digestOf(strings.Repeat(" ", 64) + "TLS 1.3, server CertificateVerify\x00" + digestOf(log))
}

// checked is what ecdsa.Check tells of a signature of what was said.
func checked(q api.Point, log string, s api.Sign) api.Errno {
	n := elliptic.P256().Params().N
	for _, v := range []*big.Int{value(s.R), value(s.S)} {
		if v.Sign() == 0 || v.Cmp(n) >= 0 {
			return api.ErrNumber
		}
	}
	key := libecdsa.PublicKey{Curve: elliptic.P256(), X: value(q.X), Y: value(q.Y)}
	if !libecdsa.Verify(&key, []byte(signed(log)), value(s.R), value(s.S)) {
		return api.ErrSign
	}
	return api.OK
}

// trusted is what cert.Chain tells; as that takes long, what was asked once is kept.
func trusted(x api.Tls, certs []string) (api.Point, api.Errno) {
	type answer struct {
		key api.Point
		e   api.Errno
	}
	id := strings.Join(certs, "|") + "|" + x.Name + "|" + string(binary.BigEndian.AppendUint64(nil, uint64(x.Now)))
	for _, c := range x.Roots {
		id += "|" + c.Subject + num.Big(c.Key.X)
	}
	if got, ok := chains.Load(id); ok {
		return got.(answer).key, got.(answer).e
	}
	key, e := cert.Chain(certs, x.Roots, x.Name, x.Now)
	chains.Store(id, answer{key, e})
	return key, e
}

var chains sync.Map

// model is an end that goes by the chapter's words, and what it says and was told.
type model struct {
	t testing.TB
	api.Tls
	said, told string
}

// fed is what Feed has to tell.
func fed(t testing.TB, x api.Tls, s string) (api.Tls, string, string) {
	t.Helper()
	m := &model{t: t, Tls: x}
	if x.State == api.TsDead {
		return x, "", ""
	}
	m.Buf += s
	for m.State != api.TsDead {
		r, rest, e := rec.Unframe(m.Buf)
		if e == api.ErrShort {
			break
		}
		if e == api.OK {
			m.Buf = rest
			e = m.through(r)
		}
		if e != api.OK {
			m.State, m.Why, m.Buf = api.TsDead, e, ""
		}
	}
	return m.Tls, m.said, m.told
}

// through goes through a record.
func (m *model) through(r api.Record) api.Errno {
	if m.State == api.TsWait {
		switch r.Kind {
		case 21:
			return api.ErrState
		case 23:
			return api.ErrKind
		}
		return m.part(r.Body)
	}
	if r.Kind != 23 {
		return api.ErrKind
	}
	inner, e := openedRecord(m.t, m.In, r)
	if e != api.OK {
		return e
	}
	m.In.Seq++
	switch {
	case inner.Kind == 21:
		return api.ErrState
	case inner.Kind == 22 && m.State == api.TsHand:
		return m.part(inner.Body)
	case inner.Kind == 23 && m.State == api.TsOpen:
		m.told += inner.Body
		return api.OK
	}
	return api.ErrKind
}

// part takes a message part.
func (m *model) part(body string) api.Errno {
	m.Hands += body
	if body == "" {
		return api.ErrForm
	}
	list, left, e := hand.All(m.Hands)
	if e != api.OK {
		return e
	}
	texts := m.Hands
	m.Hands = left
	for i, x := range list {
		size := 4 + int(texts[1])<<16 + int(texts[2])<<8 + int(texts[3])
		text := texts[:size]
		texts = texts[size:]
		if m.State == api.TsWait {
			return m.hello(x, text, texts)
		}
		if e := m.message(x, text, texts); e != api.OK {
			return e
		}
		if i < len(list)-1 && m.State != api.TsHand {
			m.t.Fatal("the model goes on behind the handshake's end")
		}
	}
	return api.OK
}

// hello takes the first message, with what stands behind it.
func (m *model) hello(x api.Msg, text, behind string) api.Errno {
	if x.Kind != 2 || behind != "" {
		return api.ErrOrder
	}
	if x.Session != m.Session {
		return api.ErrName
	}
	shared, e := sharedBy(m.t, m.Secret, x.Share)
	if e != api.OK {
		return e
	}
	m.Log += text
	m.Keys = handSecrets(m.t, shared, m.Log)
	m.In, m.Out = sideOf(m.t, m.Keys.Server), sideOf(m.t, m.Keys.Client)
	m.State, m.Step = api.TsHand, 0
	return api.OK
}

// message takes a message of the handshake, with what stands behind it.
func (m *model) message(x api.Msg, text, behind string) api.Errno {
	e := api.OK
	switch {
	case m.Step == 0 && x.Kind == 8:
		if x.Alpn != "ntske/1" {
			e = api.ErrName
		}
	case m.Step == 1 && x.Kind == 11:
		var key api.Point
		if key, e = trusted(m.Tls, x.Certs); e == api.OK {
			m.Peer = key
		}
	case m.Step == 2 && x.Kind == 15:
		e = checked(m.Peer, m.Log, x.Sign)
	case m.Step == 3 && x.Kind == 20 && behind == "":
		if x.Mac != endOf(m.t, m.Keys.Server, m.Log) {
			e = api.ErrSeal
		}
	default:
		e = api.ErrOrder
	}
	if e != api.OK {
		return e
	}
	m.Step++
	m.Log += text
	if x.Kind == 20 {
		m.App = appSecrets(m.t, m.Keys, m.Log)
		end := "\x14\x00\x00\x20" + endOf(m.t, m.Keys.Client, m.Log)
		m.said += sealed(m.t, m.Out, 22, end)
		m.Log += end
		m.In, m.Out = sideOf(m.t, m.App.Server), sideOf(m.t, m.App.Client)
		m.State = api.TsOpen
	}
	return api.OK
}
