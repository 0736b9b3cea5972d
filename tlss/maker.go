package tlss

import (
	"iter"
	"strings"

	"pendulum/api"
	"pendulum/ecdsa"
	"pendulum/hand"
	"pendulum/rec"
	"pendulum/sched"
	"pendulum/sha"
	"pendulum/xdh"
)

// maker makes a server's answers to a client's hello. It embeds the end as it will be when they are said: where one of them can't be made, the end itself is as it was.
type maker struct {
	api.Tls
}

// answer is what is said to a hello, as bytes.
func (m *maker) answer(hello api.Msg) (string, api.Errno) {
	shared, e := xdh.Shared(m.Secret, hello.Share)
	if e != api.OK {
		return "", e
	}
	m.Name, m.Session = strings.Clone(hello.Name), strings.Clone(hello.Session) // these should not keep the whole hello alive
	m.Log += written(hello)
	first, e := m.hello()
	if e != api.OK {
		return "", e
	}
	said, _ := rec.Frame(api.Record{Kind: api.RecHand, Body: first}) // no hello is too long for a record
	m.Keys, _ = sched.Handshake(shared, sha.Of(m.Log))               // both have 32 bytes
	flight := ""
	for text, e := range m.answers() {
		if e != api.OK {
			return "", e
		}
		flight += text
	}
	m.App, _ = sched.Master(m.Keys, sha.Of(m.Log))
	m.In, m.Out = sideOf(m.Keys.Client), sideOf(m.App.Server)
	m.State, m.Step = api.TsHand, 0
	return said + sealed(sideOf(m.Keys.Server), flight), api.OK
}

// answers hands out the messages behind the server's hello, as bytes: each is made of all that was said ahead of it. The first one that can't be made is the last, with its error.
func (m *maker) answers() iter.Seq2[string, api.Errno] {
	return func(yield func(string, api.Errno) bool) {
		for _, made := range [...]func() (string, api.Errno){m.ext, m.cert, m.verify, m.finish} {
			text, e := made()
			if !yield(text, e) || e != api.OK {
				return
			}
		}
	}
}

// put is a message as bytes, which are put behind what was said.
func (m *maker) put(msg api.Msg) (string, api.Errno) {
	text, e := hand.Write(msg)
	m.Log += text
	return text, e
}

func (m *maker) hello() (string, api.Errno) {
	share, e := xdh.Public(m.Secret)
	if e != api.OK {
		return "", e
	}
	return m.put(api.Msg{Kind: api.HsServer, Random: m.Random, Session: m.Session, Share: share})
}

func (m *maker) ext() (string, api.Errno) {
	return m.put(api.Msg{Kind: api.HsExt, Alpn: api.Alpn})
}

func (m *maker) cert() (string, api.Errno) {
	return m.put(api.Msg{Kind: api.HsCert, Certs: m.Certs})
}

func (m *maker) verify() (string, api.Errno) {
	s, e := ecdsa.Sign(m.Key, m.Draw, sha.Of(hand.Signed(sha.Of(m.Log))))
	if e != api.OK {
		return "", e
	}
	return m.put(api.Msg{Kind: api.HsVerify, Sign: s})
}

func (m *maker) finish() (string, api.Errno) {
	return m.put(api.Msg{Kind: api.HsFinish, Mac: finished(m.Keys.Server, m.Log)})
}

// sealed is messages in records, sealed by a direction of sched.
func sealed(out api.Side, messages string) string {
	var said strings.Builder
	for _, r := range rec.Split(api.RecHand, messages) {
		next, text, _ := rec.Protect(out, r, 0)
		out = next
		said.WriteString(text)
	}
	return said.String()
}
