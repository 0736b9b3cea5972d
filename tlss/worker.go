package tlss

import (
	"strings"

	"pendulum/api"
	"pendulum/hand"
	"pendulum/rec"
	"pendulum/sched"
	"pendulum/sha"
)

// worker is an end at work within the handshake, with what it says.
type worker struct {
	api.Tls
	said string
}

func (w *worker) isShaking() bool {
	return w.State == api.TsWait || w.State == api.TsHand
}

// hear takes bytes that come, up to the record with which the handshake ends.
func (w *worker) hear(s string) {
	w.Buf += s
	for w.isShaking() {
		r, rest, e := rec.Unframe(w.Buf)
		if e == api.ErrShort {
			break
		}
		if e == api.OK {
			w.Buf = rest
			e = w.through(r)
		}
		if e != api.OK {
			w.die(e)
		}
	}
	w.Buf = strings.Clone(w.Buf) // a few bytes should not keep all that came alive
}

func (w *worker) die(why api.Errno) {
	w.State, w.Why, w.Buf = api.TsDead, why, ""
}

// through goes through a record. What a client's hello has stands plain, all else is sealed.
func (w *worker) through(r api.Record) api.Errno {
	if w.State == api.TsHand {
		inner, e := w.opened(r)
		if e != api.OK {
			return e
		}
		r = inner
	}
	switch r.Kind {
	case api.RecAlert:
		return api.ErrState
	case api.RecData:
		return api.ErrKind
	}
	list, e := w.messages(r.Body)
	if e != api.OK || len(list) == 0 {
		return e
	}
	alone := len(list) == 1 && w.Hands == "" // nothing may stand behind either message, as what comes next is sealed by other keys
	if w.State == api.TsWait {
		return w.meet(list[0], alone)
	}
	return w.open(list[0], alone)
}

// opened is what is within a record that has to be sealed.
func (w *worker) opened(r api.Record) (api.Record, api.Errno) {
	if r.Kind != api.RecData {
		return api.Record{}, api.ErrKind
	}
	in, inner, e := rec.Unprotect(w.In, r)
	if e != api.OK {
		return api.Record{}, e
	}
	w.In = in
	return inner, api.OK
}

// messages is those that are whole with a part more, all taken off Hands.
func (w *worker) messages(part string) ([]api.Msg, api.Errno) {
	if part == "" {
		return nil, api.ErrForm
	}
	w.Hands += part
	list, left, e := hand.All(w.Hands)
	if e != api.OK {
		return nil, e
	}
	w.Hands = strings.Clone(left)
	return list, api.OK
}

// meet takes a client's hello, and says all that a server answers.
func (w *worker) meet(hello api.Msg, alone bool) api.Errno {
	switch {
	case hello.Kind != api.HsClient || !alone:
		return api.ErrOrder
	case hello.Alpn != api.Alpn:
		return api.ErrName
	}
	m := &maker{Tls: w.Tls}
	said, e := m.answer(hello)
	if e != api.OK {
		return e
	}
	w.Tls, w.said = m.Tls, said
	return api.OK
}

// open takes what ends a client's handshake.
func (w *worker) open(end api.Msg, alone bool) api.Errno {
	switch {
	case end.Kind != api.HsFinish || !alone:
		return api.ErrOrder
	case end.Mac != finished(w.Keys.Client, w.Log):
		return api.ErrSeal
	}
	w.Log += written(end)
	w.In = sideOf(w.App.Client)
	w.State, w.Step = api.TsOpen, 1
	return api.OK
}

// finished is what ends a handshake, of what was said, by a secret of 32 bytes; by any other it is nothing that a message has.
func finished(secret, log string) string {
	mac, _ := sched.Finish(secret, sha.Of(log))
	return mac
}

// sideOf is the direction of a secret of 32 bytes, as sched makes them.
func sideOf(secret string) api.Side {
	side, _ := sched.Side(secret)
	return side
}

// written is a message as it stood: there is but one way to write it.
func written(m api.Msg) string {
	text, _ := hand.Write(m)
	return text
}
