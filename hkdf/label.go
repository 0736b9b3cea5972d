package hkdf

import "pendulum/api"

const (
	prefix      = "tls13 " // so that no other protocol's labels are TLS 1.3's
	mostLabel   = 255 - len(prefix)
	mostContext = 255
	mostLength  = 65535
)

// Label is n bytes of a key by a label and a context, as TLS 1.3 has them.
func Label(secret, label, context string, n int) (string, api.Errno) {
	info, e := Info(label, context, n)
	if e != api.OK {
		return "", e
	}
	// Two bytes tell greater lengths than a key can be expanded to: those are Expand's to refuse.
	return Expand(secret, info, n)
}

// Derive is a secret of a secret, by a label and the digest of what was said.
func Derive(secret, label, digest string) (string, api.Errno) {
	return Label(secret, label, digest, digestSize)
}

// Info is what a label, a context and a length are expanded by. Both texts are told with their lengths ahead, so that no two are alike.
func Info(label, context string, n int) (string, api.Errno) {
	switch {
	case n < 0 || n > mostLength:
		return "", api.ErrNumber
	case len(label) > mostLabel || len(context) > mostContext:
		return "", api.ErrLong
	}
	return byteOf(n>>8) + byteOf(n) + counted(prefix+label) + counted(context), api.OK
}

// counted is a text with a byte ahead that tells its length.
func counted(s string) string {
	return byteOf(len(s)) + s
}
