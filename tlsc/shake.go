package tlsc

import (
	"pendulum/api"
	"pendulum/cert"
	"pendulum/ecdsa"
	"pendulum/hand"
	"pendulum/rec"
	"pendulum/sched"
	"pendulum/sha"
	"pendulum/xdh"
)

// wait goes through a record of an end that waits for the server's hello.
func (w *worker) wait(r api.Record) api.Errno {
	switch r.Kind {
	case api.RecAlert:
		return api.ErrState
	case api.RecData:
		return api.ErrKind
	}
	list, e := w.messages(r.Body)
	if e != api.OK || len(list) == 0 {
		return e
	}
	return w.meet(list[0], w.isLast(list, 0))
}

// meet takes the server's hello. Nothing may stand behind it, as all else is sealed by keys that are made of it.
func (w *worker) meet(m api.Msg, last bool) api.Errno {
	switch {
	case m.Kind != api.HsServer || !last:
		return api.ErrOrder
	case m.Session != w.Session:
		return api.ErrName
	}
	shared, e := xdh.Shared(w.Secret, m.Share)
	if e != api.OK {
		return e
	}
	w.note(m)
	w.Keys, _ = sched.Handshake(shared, w.digest()) // both have 32 bytes
	w.turn(w.Keys)
	w.State, w.Step = api.TsHand, 0
	return api.OK
}

// shake goes through a record of an end within the handshake.
func (w *worker) shake(r api.Record) api.Errno {
	inner, e := w.opened(r)
	switch {
	case e != api.OK:
		return e
	case inner.Kind == api.RecAlert:
		return api.ErrState
	case inner.Kind == api.RecData:
		return api.ErrKind
	}
	list, e := w.messages(inner.Body)
	if e != api.OK {
		return e
	}
	for i, m := range list {
		if e := w.step(m, w.isLast(list, i)); e != api.OK {
			return e
		}
	}
	return api.OK
}

// isLast tells whether nothing stands behind a message of some that were taken off Hands.
func (w *worker) isLast(list []api.Msg, i int) bool {
	return i == len(list)-1 && w.Hands == ""
}

// place is which message stands at a step of the handshake, and what is asked of it.
type place struct {
	kind  int
	check func(api.Msg) api.Errno
}

func (w *worker) places() [4]place {
	return [...]place{
		{api.HsExt, w.agree},
		{api.HsCert, w.trust},
		{api.HsVerify, w.verify},
		{api.HsFinish, w.confirm},
	}
}

// step takes a message of the handshake behind the hellos.
func (w *worker) step(m api.Msg, last bool) api.Errno {
	places := w.places()
	if w.Step < 0 || w.Step >= len(places) || places[w.Step].kind != m.Kind {
		return api.ErrOrder
	}
	if m.Kind == api.HsFinish && !last { // what came behind it would have to be sealed by other keys
		return api.ErrOrder
	}
	if e := places[w.Step].check(m); e != api.OK {
		return e
	}
	w.Step++
	w.note(m)
	if m.Kind == api.HsFinish {
		w.open()
	}
	return api.OK
}

func (w *worker) agree(m api.Msg) api.Errno {
	if m.Alpn != api.Alpn {
		return api.ErrName
	}
	return api.OK
}

func (w *worker) trust(m api.Msg) api.Errno {
	key, e := cert.Chain(m.Certs, w.Roots, w.Name, w.Now)
	if e != api.OK {
		return e
	}
	w.Peer = key
	return api.OK
}

func (w *worker) verify(m api.Msg) api.Errno {
	return ecdsa.Check(w.Peer, sha.Of(hand.Signed(w.digest())), m.Sign)
}

func (w *worker) confirm(m api.Msg) api.Errno {
	if m.Mac != finished(w.Keys.Server, w.digest()) {
		return api.ErrSeal
	}
	return api.OK
}

// open ends the handshake, when all of the server's messages have come.
func (w *worker) open() {
	digest := w.digest()
	w.App, _ = sched.Master(w.Keys, digest) // Keys were made by sched
	m := api.Msg{Kind: api.HsFinish, Mac: finished(w.Keys.Client, digest)}
	_, w.said, _ = rec.Protect(w.Out, api.Record{Kind: api.RecHand, Body: written(m)}, 0)
	w.note(m)
	w.turn(w.App)
	w.State = api.TsOpen
}

// turn takes other secrets for both directions.
func (w *worker) turn(x api.Secrets) {
	w.In, _ = sched.Side(x.Server) // these have 32 bytes, as sched makes them
	w.Out, _ = sched.Side(x.Client)
}

// note puts a message behind what was said.
func (w *worker) note(m api.Msg) {
	w.Log += written(m)
}

// digest is that of what was said.
func (w *worker) digest() string {
	return sha.Of(w.Log)
}

// finished is what ends a handshake, by a secret of 32 bytes; by any other it is nothing that a message has.
func finished(secret, digest string) string {
	mac, _ := sched.Finish(secret, digest)
	return mac
}

// written is a message as it stood, or will stand: there is but one way to write it.
func written(m api.Msg) string {
	text, _ := hand.Write(m)
	return text
}
