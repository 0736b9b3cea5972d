package nego

import (
	"slices"

	"pendulum/api"
)

const (
	mostHost   = 64 // bytes of a host
	leastByte  = 33 // of a host: neither blanks nor what can't be seen
	mostByte   = 126
	mostPort   = 65535
	mostCookie = 256 // bytes of a cookie
	cookieStep = 4   // a cookie's bytes come in so many at once, as a packet's fields have them
)

// check is a question that is not asked before those ahead of it are answered by api.OK.
type check func() api.Errno

// firstError goes through checks in the order in which they are told, and no further than to the first error.
func firstError(checks ...check) api.Errno {
	for _, c := range checks {
		if e := c(); e != api.OK {
			return e
		}
	}
	return api.OK
}

// unless tells an error, but where something is as it should be.
func unless(fit bool, e api.Errno) check {
	return func() api.Errno {
		if fit {
			return api.OK
		}
		return e
	}
}

// atLeast asks for so many records.
func atLeast(n int, l []api.KeRec, e api.Errno) check {
	return unless(len(l) >= n, e)
}

// atMost asks for no more records than so many.
func atMost(n int, l []api.KeRec, e api.Errno) check {
	return unless(len(l) <= n, e)
}

// each asks of all records that their Bodies fit. It goes through them only when it is asked, so that checks ahead of it may bound how many there are.
func each(l []api.KeRec, fits func(string) bool, e api.Errno) check {
	return func() api.Errno {
		for _, r := range l {
			if !fits(r.Body) {
				return e
			}
		}
		return api.OK
	}
}

// isNtp says whether a Body is the number of the one protocol alone.
func isNtp(body string) bool {
	n, ok := single(body)
	return ok && n == ntp
}

// isNumber says whether a Body is one number.
func isNumber(body string) bool {
	_, ok := single(body)
	return ok
}

// isWayOf asks of a Body whether its number is a way of sealing, and one of those that were offered, which may be any numbers.
func isWayOf(aeads []int) func(string) bool {
	return func(body string) bool {
		n, ok := single(body)
		return ok && KeySize(n) > 0 && slices.Contains(aeads, n)
	}
}

// isCookie says whether a text can be a cookie.
func isCookie(s string) bool {
	return len(s) >= 1 && len(s) <= mostCookie && len(s)%cookieStep == 0
}

// isHost says whether a text can be a host.
func isHost(s string) bool {
	if len(s) < 1 || len(s) > mostHost {
		return false
	}
	for i := range len(s) {
		if s[i] < leastByte || s[i] > mostByte {
			return false
		}
	}
	return true
}

// isPort says whether a number is a port's.
func isPort(n int) bool {
	return n >= 1 && n <= mostPort
}

// isPortsText says whether a Body is the number of a port.
func isPortsText(body string) bool {
	n, ok := single(body)
	return ok && isPort(n)
}
