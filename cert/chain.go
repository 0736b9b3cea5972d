package cert

import (
	"pendulum/api"
	"pendulum/ecdsa"
	"pendulum/sha"
)

// Chain is the key of a row of certificates, which is trusted.
func Chain(l []string, roots []api.Cert, name string, now int64) (api.Point, api.Errno) {
	certs, e := readChain(l)
	switch {
	case e != api.OK:
		return api.Point{}, e
	case !Fits(certs[0], name):
		return api.Point{}, api.ErrName
	}
	for i, c := range certs {
		if e := refused(c, certs[i+1:], roots, now); e != api.OK {
			return api.Point{}, e
		}
	}
	return certs[0].Key, api.OK
}

// readChain reads certificates, at least one and not too many.
func readChain(l []string) ([]api.Cert, api.Errno) {
	switch {
	case len(l) == 0:
		return nil, api.ErrShort
	case len(l) > api.MaxChain:
		return nil, api.ErrMany
	}
	var out []api.Cert
	for _, s := range l {
		c, e := Read(s)
		if e != api.OK {
			return nil, e
		}
		out = append(out, c)
	}
	return out, api.OK
}

// refused is why a certificate isn't trusted, as far as it tells itself: whether the one behind it is, is asked when it is that one's turn.
func refused(c api.Cert, behind, roots []api.Cert, now int64) api.Errno {
	switch {
	case !isTimely(c, now):
		return api.ErrTime
	case len(behind) > 0:
		return unsigned(c, behind[0])
	}
	return rootless(c, roots, now)
}

// rootless is why the last certificate isn't trusted. Roots may share a Subject: one of them that has signed it is enough.
func rootless(c api.Cert, roots []api.Cert, now int64) api.Errno {
	for _, root := range roots {
		if isTimely(root, now) && unsigned(c, root) == api.OK {
			return api.OK
		}
	}
	return api.ErrTrust
}

// unsigned is why a certificate isn't one that another has signed and might sign.
func unsigned(c, by api.Cert) api.Errno {
	if !by.Ca || by.Subject != c.Issuer {
		return api.ErrTrust
	}
	tbs, e := Tbs(c)
	if e != api.OK {
		return e
	}
	return ecdsa.Check(by.Key, sha.Of(tbs), c.Sign)
}

func isTimely(c api.Cert, now int64) bool {
	return c.From <= now && now <= c.To
}
