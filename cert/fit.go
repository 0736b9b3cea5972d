package cert

import (
	"pendulum/api"
	"pendulum/der"
	"pendulum/point"
)

const (
	mostNames   = 8
	mostLetters = 64 // of a name, an Issuer, a Subject
	leastLetter = ' '
	mostLetter  = '~'
)

// isFit tells whether a certificate can be written.
func isFit(c api.Cert) bool {
	return isLabel(c.Issuer) && isLabel(c.Subject) && areNames(c.Names) &&
		isTime(c.From) && isTime(c.To) && c.From <= c.To &&
		!c.Key.Inf && point.On(c.Key)
}

func areNames(l []string) bool {
	if len(l) > mostNames {
		return false
	}
	for _, name := range l {
		if !isLabel(name) {
			return false
		}
	}
	return true
}

// isLabel tells whether a text is some letters that can be printed, but not too many.
func isLabel(s string) bool {
	for i := range len(s) {
		if s[i] < leastLetter || s[i] > mostLetter {
			return false
		}
	}
	return s != "" && len(s) <= mostLetters
}

func isTime(t int64) bool {
	_, e := der.Time(t)
	return e == api.OK
}
