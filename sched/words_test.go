package sched_test

import (
	libhkdf "crypto/hkdf"
	"crypto/hmac"
	"crypto/sha256"
	"encoding/hex"
	"math/rand"
	"strings"
	"testing"

	"pendulum/api"
)

// What the chapter's words say, made anew by Go's own library: the tests hold the program against it.

// drawn is a text that is the same in every run.
func drawn(seed int64, size int) string {
	out := make([]byte, size)
	rand.New(rand.NewSource(seed)).Read(out)
	return string(out)
}

func unhexed(t testing.TB, digits string) string {
	t.Helper()
	out, err := hex.DecodeString(strings.ReplaceAll(digits, " ", ""))
	if err != nil {
		t.Fatal(err)
	}
	return string(out)
}

func hexed(s string) string {
	if len(s) > 100 {
		return hex.EncodeToString([]byte(s[:100])) + ".."
	}
	return hex.EncodeToString([]byte(s))
}

// told is secrets as digits.
func told(x api.Secrets) string {
	return "{" + hexed(x.Base) + " " + hexed(x.Client) + " " + hexed(x.Server) + " " + hexed(x.Export) + "}"
}

// changed is a text with its byte i xor what is told.
func changed(s string, i int, by byte) string {
	out := []byte(s)
	out[i] ^= by
	return string(out)
}

func digestOf(s string) string {
	out := sha256.Sum256([]byte(s))
	return string(out[:])
}

func mac(key, s string) string {
	m := hmac.New(sha256.New, []byte(key))
	m.Write([]byte(s))
	return string(m.Sum(nil))
}

// label is n bytes of a secret, as RFC 8446 writes it.
func label(t testing.TB, secret, label, context string, n int) string {
	t.Helper()
	label = "tls13 " + label
	info := []byte{byte(n >> 8), byte(n), byte(len(label))}
	info = append(info, label...)
	info = append(info, byte(len(context)))
	info = append(info, context...)
	out, err := libhkdf.Expand(sha256.New, []byte(secret), string(info), n)
	if err != nil {
		t.Fatal(err)
	}
	return string(out)
}

// behind is the secret of what is new, by a secret ahead of it.
func behind(t testing.TB, ahead, fresh string) string {
	t.Helper()
	return mac(label(t, ahead, "derived", digestOf(""), 32), fresh)
}

func handshake(t testing.TB, shared, digest string) (api.Secrets, api.Errno) {
	t.Helper()
	if len(shared) != 32 || len(digest) != 32 {
		return api.Secrets{}, api.ErrForm
	}
	zeros := strings.Repeat("\x00", 32)
	base := behind(t, mac(zeros, zeros), shared)
	return api.Secrets{Base: base, Client: label(t, base, "c hs traffic", digest, 32), Server: label(t, base, "s hs traffic", digest, 32)}, api.OK
}

func master(t testing.TB, x api.Secrets, digest string) (api.Secrets, api.Errno) {
	t.Helper()
	if len(x.Base) != 32 || len(digest) != 32 {
		return api.Secrets{}, api.ErrForm
	}
	base := behind(t, x.Base, strings.Repeat("\x00", 32))
	return api.Secrets{
		Base:   base,
		Client: label(t, base, "c ap traffic", digest, 32),
		Server: label(t, base, "s ap traffic", digest, 32),
		Export: label(t, base, "exp master", digest, 32),
	}, api.OK
}

func side(t testing.TB, secret string) (api.Side, api.Errno) {
	t.Helper()
	if len(secret) != 32 {
		return api.Side{}, api.ErrForm
	}
	return api.Side{Key: label(t, secret, "key", "", 16), Iv: label(t, secret, "iv", "", 12)}, api.OK
}

func finish(t testing.TB, secret, digest string) (string, api.Errno) {
	t.Helper()
	if len(secret) != 32 || len(digest) != 32 {
		return "", api.ErrForm
	}
	return mac(label(t, secret, "finished", "", 32), digest), api.OK
}

func export(t testing.TB, x api.Secrets, by, context string, n int) (string, api.Errno) {
	t.Helper()
	switch {
	case len(x.Export) != 32:
		return "", api.ErrForm
	case len(by) > 249:
		return "", api.ErrLong
	case n < 0 || n > 8160:
		return "", api.ErrNumber
	}
	return label(t, label(t, x.Export, by, digestOf(""), 32), "exporter", digestOf(context), n), api.OK
}
