package rec

import (
	"math"
	"strings"
	"sync/atomic"

	"pendulum/api"
	"pendulum/gcm"
)

const (
	keySize    = 16 // bytes
	ivSize     = 12
	seqSize    = 8
	tagSize    = 16                // by so many bytes a text is longer when it is sealed
	mostWithin = api.MaxRecord + 1 // the kind stands behind the body
)

// Nonce is the nonce of a direction's next record.
func Nonce(x api.Side) (string, api.Errno) {
	if len(x.Key) != keySize || len(x.Iv) != ivSize {
		return "", api.ErrForm
	}
	out := []byte(x.Iv)
	for i := range seqSize {
		out[ivSize-1-i] ^= byte(x.Seq >> (8 * i))
	}
	return string(out), api.OK
}

// Protect is a record sealed, padded by some bytes, as bytes.
func Protect(x api.Side, r api.Record, pad int) (api.Side, string, api.Errno) {
	if e := unsealable(r, pad); e != api.OK {
		return x, "", e
	}
	d, e := directionOf(x)
	if e != api.OK {
		return x, "", e
	}
	text := d.sealed(r.Body + string([]byte{byte(r.Kind)}) + strings.Repeat("\x00", pad))
	return d.goneOn(), text, api.OK
}

// Unprotect opens a sealed record.
func Unprotect(x api.Side, r api.Record) (api.Side, api.Record, api.Errno) {
	d, e := directionOf(x)
	switch {
	case e != api.OK:
		return x, api.Record{}, e
	case r.Kind != api.RecData:
		return x, api.Record{}, api.ErrKind
	}
	within, e := d.opened(r.Body)
	if e != api.OK {
		return x, api.Record{}, e
	}
	inner, e := readWithin(within)
	if e != api.OK {
		return x, api.Record{}, e
	}
	return d.goneOn(), inner, api.OK
}

// unsealable is why a record can't be sealed with so many bytes behind it, whatever the direction.
func unsealable(r api.Record, pad int) api.Errno {
	switch {
	case !isKind(r.Kind):
		return api.ErrKind
	case len(r.Body) > api.MaxRecord:
		return api.ErrLong
	case pad < 0 || pad > api.MaxRecord-len(r.Body):
		return api.ErrNumber
	}
	return api.OK
}

// readWithin reads what was sealed: the kind is the last byte that is not 0.
func readWithin(s string) (api.Record, api.Errno) {
	if len(s) > mostWithin {
		return api.Record{}, api.ErrLong
	}
	s = strings.TrimRight(s, "\x00")
	if s == "" {
		return api.Record{}, api.ErrForm
	}
	last := len(s) - 1
	kind := int(s[last])
	if !isKind(kind) {
		return api.Record{}, api.ErrKind
	}
	return api.Record{Kind: kind, Body: s[:last]}, api.OK
}

// direction is an api.Side at work. Its count is shared safely, as a place that two records have would be a nonce that two have, which tells what is within both.
type direction struct {
	key, iv string
	seq     atomic.Uint64
}

// directionOf is the direction of a side, whose next place has one behind it.
func directionOf(x api.Side) (*direction, api.Errno) {
	if _, e := Nonce(x); e != api.OK {
		return nil, e
	}
	if x.Seq == math.MaxUint64 {
		return nil, api.ErrMany
	}
	d := &direction{key: x.Key, iv: x.Iv}
	d.seq.Store(x.Seq)
	return d, api.OK
}

func (d *direction) side(seq uint64) api.Side {
	return api.Side{Key: d.key, Iv: d.iv, Seq: seq}
}

// goneOn is the side with 1 more, when a record is done.
func (d *direction) goneOn() api.Side {
	return d.side(d.seq.Add(1))
}

// nonce is that of the place where the direction is.
func (d *direction) nonce() string {
	out, _ := Nonce(d.side(d.seq.Load()))
	return out
}

// sealed is what is within, sealed, as bytes. It is never too long for gcm, and key and nonce are as they should be.
func (d *direction) sealed(within string) string {
	ad := head(api.RecData, len(within)+tagSize)
	text, _ := gcm.Seal(d.key, d.nonce(), ad, within)
	return ad + text
}

// opened is what is within a record's body. Two bytes don't tell the length of one above 65535: what is opened of it is refused as too long.
func (d *direction) opened(body string) (string, api.Errno) {
	return gcm.Open(d.key, d.nonce(), head(api.RecData, len(body)), body)
}
