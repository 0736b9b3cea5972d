package hand

import (
	"strings"

	"pendulum/api"
	"pendulum/der"
)

// These write the bodies of messages that are fit, whose parts are so short that every length can be told.

func writeClient(m api.Msg) string {
	exts := nameExt + vector(2, vector(2, nameKind+vector(2, m.Name))) +
		groupsExt + signsExt + alpnPart(m.Alpn) + clientVersions + clientShareExt + m.Share
	return version + m.Random + vector(1, m.Session) + suites + packings + vector(2, exts)
}

func writeServer(m api.Msg) string {
	exts := serverVersion + serverShareExt + m.Share
	return version + m.Random + vector(1, m.Session) + suite + packing + vector(2, exts)
}

func writeExt(m api.Msg) string {
	return vector(2, alpnPart(m.Alpn))
}

func writeCert(m api.Msg) string {
	var list strings.Builder
	for _, text := range m.Certs {
		list.WriteString(vector(3, text) + noCertExts)
	}
	return noContext + vector(3, list.String())
}

func writeVerify(m api.Msg) string {
	row, _ := der.Row(api.TagSeq, []api.Tlv{integer(m.Sign.R), integer(m.Sign.S)})
	text, _ := der.Write(row)
	return signKind + vector(2, text)
}

func writeFinish(m api.Msg) string {
	return m.Mac
}

// alpnPart is the extension of a protocol, as a list of it alone.
func alpnPart(alpn string) string {
	return alpnExt + vector(2, vector(2, vector(1, alpn)))
}

func integer(n api.Num) api.Tlv {
	return api.Tlv{Tag: api.TagInt, Body: der.Int(n)}
}

// vector is a text with its length ahead of it, in so many bytes.
func vector(size int, text string) string {
	return number(size, len(text)) + text
}

// number is a number in so many bytes, the high one first.
func number(size, n int) string {
	out := make([]byte, size)
	for i := range size {
		out[size-1-i] = byte(n >> (8 * i))
	}
	return string(out)
}
