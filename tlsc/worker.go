package tlsc

import (
	"iter"
	"strings"

	"pendulum/api"
	"pendulum/hand"
	"pendulum/rec"
)

// worker is an end at work, with what it says and was told so far.
type worker struct {
	api.Tls
	said string
	told []string
}

// isAlive tells whether the end takes anything; one that is in no state does so as little as a dead one.
func (w *worker) isAlive() bool {
	return w.State >= api.TsWait && w.State <= api.TsOpen
}

// states is how a record is gone through in each state, to the error that the end dies of.
func (w *worker) states() [api.TsOpen + 1]func(api.Record) api.Errno {
	return [...]func(api.Record) api.Errno{
		api.TsWait: w.wait,
		api.TsHand: w.shake,
		api.TsOpen: w.listen,
	}
}

// hear takes bytes that come.
func (w *worker) hear(s string) {
	w.Buf += s
	states := w.states()
records:
	for r, e := range w.records() {
		if e == api.OK {
			e = states[w.State](r)
		}
		if e != api.OK {
			w.die(e)
			break records
		}
	}
	w.Buf = strings.Clone(w.Buf) // a few bytes should not keep all that came alive
}

// records hands out those that are whole, each taken off Buf, up to bytes that are none, with the error that tells so.
func (w *worker) records() iter.Seq2[api.Record, api.Errno] {
	return func(yield func(api.Record, api.Errno) bool) {
		for {
			r, rest, e := rec.Unframe(w.Buf)
			switch e {
			case api.ErrShort:
				return
			case api.OK:
				w.Buf = rest
			}
			if !yield(r, e) || e != api.OK {
				return
			}
		}
	}
}

func (w *worker) die(why api.Errno) {
	w.State, w.Why, w.Buf = api.TsDead, why, ""
}

// opened is what is within a record that has to be sealed.
func (w *worker) opened(r api.Record) (api.Record, api.Errno) {
	if r.Kind != api.RecData {
		return api.Record{}, api.ErrKind
	}
	in, inner, e := rec.Unprotect(w.In, r)
	if e != api.OK {
		return api.Record{}, e
	}
	w.In = in
	return inner, api.OK
}

// messages is those that are whole with a part more, all taken off Hands.
func (w *worker) messages(part string) ([]api.Msg, api.Errno) {
	if part == "" {
		return nil, api.ErrForm
	}
	w.Hands += part
	list, left, e := hand.All(w.Hands)
	if e != api.OK {
		return nil, e
	}
	w.Hands = strings.Clone(left)
	return list, api.OK
}

// listen goes through a record of an open end.
func (w *worker) listen(r api.Record) api.Errno {
	inner, e := w.opened(r)
	switch {
	case e != api.OK:
		return e
	case inner.Kind == api.RecAlert:
		return api.ErrState
	case inner.Kind == api.RecHand:
		return api.ErrKind
	}
	w.told = append(w.told, inner.Body)
	return api.OK
}
