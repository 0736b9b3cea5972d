package ecdsa

import (
	"pendulum/api"
	"pendulum/point"
)

// digestSize is how many bytes a digest has.
const digestSize = 32

// check is a question that is not asked before those ahead of it are answered by api.OK.
type check func() api.Errno

// firstError goes through checks in the order in which they are told, and no further than to the first error.
func firstError(checks ...check) api.Errno {
	for _, c := range checks {
		if e := c(); e != api.OK {
			return e
		}
	}
	return api.OK
}

// unless is an error, but where something is as it should be.
func unless(fit bool, e api.Errno) api.Errno {
	if fit {
		return api.OK
	}
	return e
}

// isUnit asks for a number from 1 to n less 1.
func isUnit(a api.Num) check {
	return func() api.Errno {
		return unless(a != api.Num{} && isBelow(a), api.ErrNumber)
	}
}

// isDigest asks for a text of a digest's length.
func isDigest(digest string) check {
	return func() api.Errno {
		return unless(len(digest) == digestSize, api.ErrForm)
	}
}

// isPublic asks for a point that is a secret number's: all of the curve's are, but Inf.
func isPublic(q api.Point) check {
	return func() api.Errno {
		return unless(!q.Inf && point.On(q), api.ErrPoint)
	}
}

// holds asks whether a signature leads to its own R; numbers without an inverse are refused ahead of it.
func holds(q api.Point, digest string, s api.Sign) check {
	return func() api.Errno {
		a := met(q, digest, s)
		return unless(!a.Inf && abscissa(a) == s.R, api.ErrSign)
	}
}
