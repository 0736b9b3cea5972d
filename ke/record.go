package ke

import (
	"iter"

	"pendulum/api"
)

const (
	pairSize   = 2 // bytes of a number
	mostNumber = 65535
	mostBody   = 1024                // bytes of a record's Body
	mostPairs  = mostBody / pairSize // numbers in one
	headSize   = 2 * pairSize        // bytes ahead of a Body: a kind, and how many there are of it
	critBit    = 32768               // more in the kind's number, if who does not know it must not go on
)

// records hands out a text's records, each with api.OK, and behind them, where the next one can't be read, none with its error.
func records(s string) iter.Seq2[api.KeRec, api.Errno] {
	return func(yield func(api.KeRec, api.Errno) bool) {
		for used := 0; ; {
			r, e := next(s, used)
			if !yield(r, e) || e != api.OK {
				return
			}
			used += size(r)
		}
	}
}

// next is the record behind those that a text is used up by. What its length says is told ahead of its Body's missing, as nobody should wait for bytes that are too many.
func next(s string, used int) (api.KeRec, api.Errno) {
	rest := s[used:]
	if len(rest) < headSize {
		return api.KeRec{}, api.ErrShort
	}
	kind, n := number(rest), number(rest[pairSize:])
	r := api.KeRec{Crit: kind >= critBit, Kind: kind % critBit}
	switch {
	case n > mostBody, used+headSize+n > api.MaxKe:
		return api.KeRec{}, api.ErrLong
	case r.Kind == api.KeEnd && (!r.Crit || n > 0):
		return api.KeRec{}, api.ErrForm
	case len(rest) < headSize+n:
		return api.KeRec{}, api.ErrShort
	}
	r.Body = rest[headSize : headSize+n]
	return r, api.OK
}

// refused is why a record can't be written, without writing it.
func refused(r api.KeRec) api.Errno {
	switch {
	case r.Kind < 0 || r.Kind >= critBit:
		return api.ErrNumber
	case len(r.Body) > mostBody:
		return api.ErrLong
	}
	return api.OK
}

// known says whether a number is a known kind's; those below 0 are no kind's at all, and so not known either.
func known(kind int) bool {
	return kind >= 0 && kind < api.NumKes
}

// head is what stands ahead of a record's Body.
func head(r api.KeRec) string {
	kind := r.Kind
	if r.Crit {
		kind += critBit
	}
	return pair(kind) + pair(len(r.Body))
}

// size is how many bytes a record has as it stands.
func size(r api.KeRec) int {
	return headSize + len(r.Body)
}

// pair is a number as two bytes.
func pair(n int) string {
	return string([]byte{byte(n >> 8), byte(n)})
}

// number is that of a text's first two bytes.
func number(s string) int {
	return int(s[0])<<8 | int(s[1])
}
