package sched

import (
	"strings"

	"pendulum/api"
	"pendulum/hkdf"
	"pendulum/sha"
)

// maker makes the secrets that stand within it: its Base first, and of that, by what was said, the others.
type maker struct {
	api.Secrets
	digest string
}

// makerBehind is a maker whose Base comes behind another one, and has something new.
func makerBehind(base, fresh, digest string) maker {
	m := maker{digest: digest}
	m.Base = hkdf.Extract(derived(base, "derived", sha.Of("")), fresh)
	return m
}

// derive is a secret of Base for each label, in their order.
func (m maker) derive(labels ...string) []string {
	var out []string
	for _, label := range labels {
		out = append(out, derived(m.Base, label, m.digest))
	}
	return out
}

// derived is a secret of a secret by a label of this package and a digest of 32 bytes, neither of which is too long.
func derived(secret, label, digest string) string {
	out, _ := hkdf.Derive(secret, label, digest)
	return out
}

// earlySecret is where the schedule begins. Where nothing is known from an earlier connection, as here, it is always the same.
func earlySecret() string {
	return hkdf.Extract(zeros(), zeros())
}

// zeros stands where there is nothing new to be had.
func zeros() string {
	return strings.Repeat("\x00", secretSize)
}
