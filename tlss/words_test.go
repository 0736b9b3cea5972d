package tlss_test

import (
	libaes "crypto/aes"
	"crypto/cipher"
	"crypto/ecdh"
	libecdsa "crypto/ecdsa"
	"crypto/elliptic"
	libhkdf "crypto/hkdf"
	"crypto/hmac"
	"crypto/sha256"
	"encoding/binary"
	"encoding/hex"
	"math"
	"math/big"
	"math/rand"
	"strings"
	"testing"

	"pendulum/api"
	"pendulum/hand"
	"pendulum/num"
	"pendulum/rec"
)

// What the chapter's words say, made anew, with Go's own library for all that is secret, sealed or signed: the tests hold the program against it.

// drawn is a text that is the same in every run.
func drawn(seed int64, size int) string {
	out := make([]byte, size)
	rand.New(rand.NewSource(seed)).Read(out)
	return string(out)
}

func hexed(s string) string {
	if len(s) > 60 {
		return hex.EncodeToString([]byte(s[:60])) + ".."
	}
	return hex.EncodeToString([]byte(s))
}

// changed is a text with its byte i xor what is told.
func changed(s string, i int, by byte) string {
	out := []byte(s)
	out[i] ^= by
	return string(out)
}

func digestOf(s string) string {
	out := sha256.Sum256([]byte(s))
	return string(out[:])
}

func macBy(key, s string) string {
	m := hmac.New(sha256.New, []byte(key))
	m.Write([]byte(s))
	return string(m.Sum(nil))
}

// labelled is n bytes of a secret, as RFC 8446 writes it.
func labelled(t testing.TB, secret, label, context string, n int) string {
	t.Helper()
	label = "tls13 " + label
	info := string([]byte{byte(n >> 8), byte(n), byte(len(label))}) + label + string([]byte{byte(len(context))}) + context
	out, err := libhkdf.Expand(sha256.New, []byte(secret), info, n)
	if err != nil {
		t.Fatal(err)
	}
	return string(out)
}

// handSecrets is what sched.Handshake makes of what is shared and what was said.
func handSecrets(t testing.TB, shared, log string) api.Secrets {
	t.Helper()
	zeros := strings.Repeat("\x00", 32)
	base := macBy(labelled(t, macBy(zeros, zeros), "derived", digestOf(""), 32), shared)
	return api.Secrets{
		Base:   base,
		Client: labelled(t, base, "c hs traffic", digestOf(log), 32),
		Server: labelled(t, base, "s hs traffic", digestOf(log), 32),
	}
}

// appSecrets is what sched.Master makes of a handshake's secrets and what was said.
func appSecrets(t testing.TB, x api.Secrets, log string) api.Secrets {
	t.Helper()
	base := macBy(labelled(t, x.Base, "derived", digestOf(""), 32), strings.Repeat("\x00", 32))
	return api.Secrets{
		Base:   base,
		Client: labelled(t, base, "c ap traffic", digestOf(log), 32),
		Server: labelled(t, base, "s ap traffic", digestOf(log), 32),
		Export: labelled(t, base, "exp master", digestOf(log), 32),
	}
}

func sideOf(t testing.TB, secret string) api.Side {
	t.Helper()
	return api.Side{Key: labelled(t, secret, "key", "", 16), Iv: labelled(t, secret, "iv", "", 12)}
}

// endOf is what ends a handshake, by a secret, of what was said.
func endOf(t testing.TB, secret, log string) string {
	t.Helper()
	return macBy(labelled(t, secret, "finished", "", 32), digestOf(log))
}

// exported is what sched.Export tells.
func exported(t testing.TB, x api.Secrets, label, context string, n int) string {
	t.Helper()
	return labelled(t, labelled(t, x.Export, label, digestOf(""), 32), "exporter", digestOf(context), n)
}

func aead(t testing.TB, x api.Side) (cipher.AEAD, []byte) {
	t.Helper()
	block, err := libaes.NewCipher([]byte(x.Key))
	if err != nil {
		t.Fatal(err)
	}
	by, err := cipher.NewGCM(block)
	if err != nil {
		t.Fatal(err)
	}
	nonce := []byte(x.Iv)
	binary.BigEndian.PutUint64(nonce[4:], binary.BigEndian.Uint64(nonce[4:])^x.Seq)
	return by, nonce
}

// headed is a record as bytes, whatever it has.
func headed(kind int, body string) string {
	return string([]byte{byte(kind), 3, 3, byte(len(body) >> 8), byte(len(body))}) + body
}

// sealedWithin is a record RecData of anything that is sealed by a direction, at its place.
func sealedWithin(t testing.TB, x api.Side, within string) string {
	t.Helper()
	by, nonce := aead(t, x)
	head := headed(23, within+strings.Repeat("-", 16))[:5]
	return head + string(by.Seal(nil, nonce, []byte(within), []byte(head)))
}

// sealed is a record sealed by a direction, at its place.
func sealed(t testing.TB, x api.Side, kind int, body string) string {
	t.Helper()
	return sealedWithin(t, x, body+string([]byte{byte(kind)}))
}

// openedRecord is what rec.Unprotect tells of a record RecData.
func openedRecord(t testing.TB, x api.Side, r api.Record) (api.Record, api.Errno) {
	t.Helper()
	switch {
	case len(x.Key) != 16 || len(x.Iv) != 12:
		return api.Record{}, api.ErrForm
	case x.Seq == math.MaxUint64:
		return api.Record{}, api.ErrMany
	case len(r.Body) < 16:
		_, _, e := rec.Unprotect(x, r) // chapter 9's error, of what has no tag
		return api.Record{}, e
	}
	by, nonce := aead(t, x)
	out, err := by.Open(nil, nonce, []byte(r.Body), []byte(headed(23, r.Body)[:5]))
	if err != nil {
		return api.Record{}, api.ErrSeal
	}
	if len(out) > 16385 {
		return api.Record{}, api.ErrLong
	}
	for len(out) > 0 && out[len(out)-1] == 0 {
		out = out[:len(out)-1]
	}
	if len(out) == 0 {
		return api.Record{}, api.ErrForm
	}
	kind := int(out[len(out)-1])
	if kind < 21 || kind > 23 {
		return api.Record{}, api.ErrKind
	}
	return api.Record{Kind: kind, Body: string(out[:len(out)-1])}, api.OK
}

// sharedBy is what xdh.Shared tells.
func sharedBy(t testing.TB, secret, share string) (string, api.Errno) {
	t.Helper()
	mine, err := ecdh.X25519().NewPrivateKey([]byte(secret))
	if err != nil {
		t.Fatal(err)
	}
	theirs, err := ecdh.X25519().NewPublicKey([]byte(share))
	if err != nil {
		t.Fatal(err)
	}
	out, err := mine.ECDH(theirs)
	if err != nil {
		return "", api.ErrPoint
	}
	return string(out), api.OK
}

func publicOf(t testing.TB, secret string) string {
	t.Helper()
	mine, err := ecdh.X25519().NewPrivateKey([]byte(secret))
	if err != nil {
		t.Fatal(err)
	}
	return string(mine.PublicKey().Bytes())
}

func value(n api.Num) *big.Int {
	return new(big.Int).SetBytes([]byte(num.Big(n)))
}

// signed is what a server signs of what was said, as a digest.
func signed(log string) string {
	return digestOf(strings.Repeat(" ", 64) + "TLS 1.3, server CertificateVerify\x00" + digestOf(log))
}

// signature is what ecdsa.Sign tells of a digest.
func signature(t testing.TB, d, k api.Num, digest string) (api.Sign, api.Errno) {
	t.Helper()
	n := elliptic.P256().Params().N
	for _, v := range []*big.Int{value(d), value(k)} {
		if v.Sign() == 0 || v.Cmp(n) >= 0 {
			return api.Sign{}, api.ErrNumber
		}
	}
	drawn, err := ecdh.P256().NewPrivateKey([]byte(num.Big(k)))
	if err != nil {
		t.Fatal(err)
	}
	r := new(big.Int).SetBytes(drawn.PublicKey().Bytes()[1:33])
	r.Mod(r, n)
	s := new(big.Int).Mul(r, value(d))
	s.Add(s, new(big.Int).SetBytes([]byte(digest)))
	s.Mul(s, new(big.Int).ModInverse(value(k), n))
	s.Mod(s, n)
	if r.Sign() == 0 || s.Sign() == 0 {
		return api.Sign{}, api.ErrNumber
	}
	return api.Sign{R: number(t, r), S: number(t, s)}, api.OK
}

func number(t testing.TB, v *big.Int) api.Num {
	t.Helper()
	n, e := num.FromBig(string(v.FillBytes(make([]byte, 32))))
	if e != api.OK {
		t.Fatal(e)
	}
	return n
}

// holds tells whether a signature is of what was said, by whoever has the secret number.
func holds(t testing.TB, d api.Num, log string, s api.Sign) bool {
	t.Helper()
	key, err := libecdsa.ParseRawPrivateKey(elliptic.P256(), []byte(num.Big(d)))
	if err != nil {
		t.Fatal(err)
	}
	return libecdsa.Verify(&key.PublicKey, []byte(signed(log)), value(s.R), value(s.S))
}

func written(t testing.TB, m api.Msg) string {
	t.Helper()
	text, e := hand.Write(m)
	if e != api.OK {
		t.Fatalf("%v is not fit", m)
	}
	return text
}

// inRecords is messages in records, sealed by a direction.
func inRecords(t testing.TB, x api.Side, text string) string {
	t.Helper()
	out := ""
	for text != "" {
		n := min(len(text), 16384)
		out += sealed(t, x, 22, text[:n])
		x.Seq++
		text = text[n:]
	}
	return out
}

// answered is what a server is behind a client's hello, and what it says.
func answered(t testing.TB, x api.Tls, m api.Msg, text string) (api.Tls, string, api.Errno) {
	t.Helper()
	shared, e := sharedBy(t, x.Secret, m.Share)
	if e != api.OK {
		return x, "", e
	}
	hello := written(t, api.Msg{Kind: 2, Random: x.Random, Session: m.Session, Share: publicOf(t, x.Secret)})
	keys := handSecrets(t, shared, x.Log+text+hello)
	flight := written(t, api.Msg{Kind: 8, Alpn: "ntske/1"})
	certs := api.Msg{Kind: 11, Certs: x.Certs}
	if !hand.Fit(certs) {
		return x, "", api.ErrForm
	}
	flight += written(t, certs)
	s, e := signature(t, x.Key, x.Draw, signed(x.Log+text+hello+flight))
	if e != api.OK {
		return x, "", e
	}
	flight += written(t, api.Msg{Kind: 15, Sign: s})
	flight += "\x14\x00\x00\x20" + endOf(t, keys.Server, x.Log+text+hello+flight)
	x.Name, x.Session, x.Keys = m.Name, m.Session, keys
	x.Log += text + hello + flight
	x.App = appSecrets(t, keys, x.Log)
	x.In, x.Out = sideOf(t, keys.Client), sideOf(t, x.App.Server)
	x.State, x.Step = api.TsHand, 0
	return x, headed(22, hello) + inRecords(t, sideOf(t, keys.Server), flight), api.OK
}

// model is an end that goes by the chapter's words, and what it says and was told.
type model struct {
	t testing.TB
	api.Tls
	said, told string
}

// fed is what Feed has to tell.
func fed(t testing.TB, x api.Tls, s string) (api.Tls, string, string) {
	t.Helper()
	m := &model{t: t, Tls: x}
	if x.State == api.TsDead {
		return x, "", ""
	}
	m.Buf += s
	for m.State != api.TsDead {
		r, rest, e := rec.Unframe(m.Buf)
		if e == api.ErrShort {
			break
		}
		if e == api.OK {
			m.Buf = rest
			e = m.through(r)
		}
		if e != api.OK {
			m.State, m.Why, m.Buf = api.TsDead, e, ""
		}
	}
	return m.Tls, m.said, m.told
}

// through goes through a record.
func (m *model) through(r api.Record) api.Errno {
	if m.State == api.TsWait {
		switch r.Kind {
		case 21:
			return api.ErrState
		case 23:
			return api.ErrKind
		}
		return m.part(r.Body)
	}
	if r.Kind != 23 {
		return api.ErrKind
	}
	inner, e := openedRecord(m.t, m.In, r)
	if e != api.OK {
		return e
	}
	m.In.Seq++
	switch {
	case inner.Kind == 21:
		return api.ErrState
	case inner.Kind == 22 && m.State == api.TsHand:
		return m.part(inner.Body)
	case inner.Kind == 23 && m.State == api.TsOpen:
		m.told += inner.Body
		return api.OK
	}
	return api.ErrKind
}

// part takes a message part.
func (m *model) part(body string) api.Errno {
	m.Hands += body
	if body == "" {
		return api.ErrForm
	}
	list, left, e := hand.All(m.Hands)
	if e != api.OK {
		return e
	}
	text := m.Hands
	m.Hands = left
	if len(list) == 0 {
		return api.OK
	}
	size := 4 + int(text[1])<<16 + int(text[2])<<8 + int(text[3])
	if m.State == api.TsWait {
		return m.hello(list[0], text[:size], text[size:])
	}
	return m.finish(list[0], text[:size], text[size:])
}

// hello takes the first message, with what stands behind it.
func (m *model) hello(x api.Msg, text, behind string) api.Errno {
	if x.Kind != 1 || behind != "" {
		return api.ErrOrder
	}
	if x.Alpn != "ntske/1" {
		return api.ErrName
	}
	y, said, e := answered(m.t, m.Tls, x, text)
	m.Tls = y
	m.said += said
	return e
}

// finish takes the last one.
func (m *model) finish(x api.Msg, text, behind string) api.Errno {
	if x.Kind != 20 || behind != "" {
		return api.ErrOrder
	}
	if x.Mac != endOf(m.t, m.Keys.Client, m.Log) {
		return api.ErrSeal
	}
	m.Log += text
	m.Step = 1
	m.In = sideOf(m.t, m.App.Client)
	m.State = api.TsOpen
	return api.OK
}
