package der

import (
	"math"
	"slices"
	"strings"

	"pendulum/api"
	"pendulum/num"
)

const (
	numBytes    = 32 // of a number below 2^256
	leastRow    = 2  // numbers of an Oid
	mostRow     = 16
	firstFactor = 40 // the first byte of an Oid tells its first number times this, and its second one
	mostFirst   = 2
	high        = 128 // a byte's highest bit: a sign in an Int, more to come in an Oid
)

// Int is a number as it stands within TagInt. A byte 0 goes ahead of a high one, as others would read that as a number below 0.
func Int(n api.Num) string {
	s := strings.TrimLeft(num.Big(n), "\x00")
	if s == "" || s[0] >= high {
		return "\x00" + s
	}
	return s
}

// ToInt reads one.
func ToInt(s string) (api.Num, api.Errno) {
	switch {
	case s == "":
		return api.Num{}, api.ErrShort
	case s[0] >= high || len(s) > 1 && s[0] == 0 && s[1] < high:
		return api.Num{}, api.ErrForm
	}
	big := strings.TrimPrefix(s, "\x00")
	if len(big) > numBytes {
		return api.Num{}, api.ErrNumber
	}
	return num.FromBig(strings.Repeat("\x00", numBytes-len(big)) + big)
}

// Oid is a row of numbers as it stands within TagOid.
func Oid(l []uint32) (string, api.Errno) {
	switch {
	case len(l) < leastRow:
		return "", api.ErrShort
	case len(l) > mostRow:
		return "", api.ErrMany
	case l[0] > mostFirst || l[1] > mostSecond(l[0]):
		return "", api.ErrNumber
	}
	out := []byte{byte(firstFactor*l[0] + l[1])}
	for _, n := range l[2:] {
		out = append(out, sevens(n)...)
	}
	return string(out), api.OK
}

// mostSecond is the greatest second number behind a first one, so that the first byte tells them apart and stays below 128.
func mostSecond(first uint32) uint32 {
	if first == mostFirst {
		return high - 1 - firstFactor*mostFirst
	}
	return firstFactor - 1
}

// ToOid reads one.
func ToOid(s string) ([]uint32, api.Errno) {
	switch {
	case s == "":
		return nil, api.ErrShort
	case s[0] >= high:
		return nil, api.ErrForm
	}
	head := uint32(s[0])
	first := min(head/firstFactor, mostFirst)
	out := []uint32{first, head - firstFactor*first}
	for rest := s[1:]; rest != ""; {
		n, behind, e := readSevens(rest)
		switch {
		case e != api.OK:
			return nil, e
		case len(out) == mostRow:
			return nil, api.ErrMany
		}
		out = append(out, n)
		rest = behind
	}
	return out, api.OK
}

// sevens is a number by 7 bits in a byte, the highest first, as few as can be; all but the last one are high.
func sevens(n uint32) []byte {
	out := []byte{byte(n % high)}
	for n /= high; n > 0; n /= high {
		out = append(out, byte(high+n%high))
	}
	slices.Reverse(out)
	return out
}

// readSevens reads one of a text that is not empty; and what stands behind.
func readSevens(s string) (uint32, string, api.Errno) {
	if s[0] == high { // 7 bits 0 ahead, which tell nothing
		return 0, "", api.ErrForm
	}
	var n uint64
	for i := range len(s) {
		n = n*high + uint64(s[i]%high)
		switch {
		case n > math.MaxUint32:
			return 0, "", api.ErrNumber
		case s[i] < high:
			return uint32(n), s[i+1:], api.OK
		}
	}
	return 0, "", api.ErrShort
}
