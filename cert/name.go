package cert

import (
	"strings"

	"pendulum/api"
)

// Fits tells whether a certificate is of a server's name.
func Fits(c api.Cert, name string) bool {
	for _, own := range c.Names {
		if isAlike(own, name) || hasStarFor(own, name) {
			return true
		}
	}
	return false
}

// hasStarFor tells whether one of a certificate's names begins with a star that stands for all of another name ahead of its first point. A star with nothing behind it would stand for too many.
func hasStarFor(own, name string) bool {
	letters, starred := strings.CutPrefix(own, "*.")
	first, rest, _ := strings.Cut(name, ".")
	return starred && letters != "" && first != "" && isAlike(letters, rest)
}

func isAlike(a, b string) bool {
	return lowered(a) == lowered(b)
}

// lowered has small letters for great ones. Bytes that are no letters of ASCII stay as they are: by Unicode's rules there would be names alike that look otherwise.
func lowered(s string) string {
	out := []byte(s)
	for i, b := range out {
		if b >= 'A' && b <= 'Z' {
			out[i] = b + 'a' - 'A'
		}
	}
	return string(out)
}
