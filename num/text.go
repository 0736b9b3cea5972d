package num

import (
	"slices"

	"pendulum/api"
)

const (
	digits  = "0123456789abcdef"
	textLen = 64
	byteLen = 32
)

// Parse reads a number of 64 hexadecimal digits.
func Parse(s string) (api.Num, api.Errno) {
	if e := lengthError(s, textLen); e != api.OK {
		return api.Num{}, e
	}
	var n api.Num
	for i := range textLen {
		v, ok := digitValue(s[i])
		if !ok {
			return api.Num{}, api.ErrForm
		}
		push(&n, i/16, 4, v)
	}
	return n, api.OK
}

// Text writes one.
func Text(n api.Num) string {
	out := make([]byte, 0, textLen)
	for _, b := range bigBytes(n) {
		out = append(out, digits[b>>4], digits[b&15])
	}
	return string(out)
}

// FromBig is the number of 32 bytes, the highest first.
func FromBig(s string) (api.Num, api.Errno) {
	if e := lengthError(s, byteLen); e != api.OK {
		return api.Num{}, e
	}
	var n api.Num
	for i := range byteLen {
		push(&n, i/8, 8, s[i])
	}
	return n, api.OK
}

// Big is a number's 32 bytes, the highest first.
func Big(n api.Num) string {
	out := bigBytes(n)
	return string(out[:])
}

// FromLittle is the number of 32 bytes, the lowest first.
func FromLittle(s string) (api.Num, api.Errno) {
	// Too long a text is refused ahead of being copied.
	if e := lengthError(s, byteLen); e != api.OK {
		return api.Num{}, e
	}
	turned := []byte(s)
	slices.Reverse(turned)
	return FromBig(string(turned))
}

// Little is a number's 32 bytes, the lowest first.
func Little(n api.Num) string {
	out := bigBytes(n)
	slices.Reverse(out[:])
	return string(out[:])
}

// lengthError tells whether a text has fewer or more bytes than are wanted.
func lengthError(s string, want int) api.Errno {
	switch {
	case len(s) < want:
		return api.ErrShort
	case len(s) > want:
		return api.ErrLong
	}
	return api.OK
}

// digitValue is what a hexadecimal digit stands for; false: it is none.
func digitValue(c byte) (byte, bool) {
	switch {
	case '0' <= c && c <= '9':
		return c - '0', true
	case 'a' <= c && c <= 'f':
		return c - 'a' + 10, true
	}
	return 0, false
}

// push lays a digit of so many bits beneath a part, the topmost part being the 0-th: texts are read from their highest digit on.
func push(n *api.Num, fromTop int, width uint, digit byte) {
	k := len(n) - 1 - fromTop
	n[k] = n[k]<<width | uint64(digit)
}

// bigBytes are a number's bytes, the highest first.
func bigBytes(n api.Num) [byteLen]byte {
	var out [byteLen]byte
	for i := range out {
		out[i] = byte(window(n, 8*(byteLen-1-i)))
	}
	return out
}
