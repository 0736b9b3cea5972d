package cert

import (
	"pendulum/api"
	"pendulum/der"
	"pendulum/point"
)

const (
	version = 2      // the third, as the first one is 0
	yes     = "\xff" // within TagBool
	allBits = "\x00" // ahead of bits: of the last byte none is left out
)

// whole is a fit certificate.
func whole(c api.Cert) api.Tlv {
	sign := row(api.TagSeq, integer(c.Sign.R), integer(c.Sign.S))
	return row(api.TagSeq, signedPart(c), signedHow(), bits(written(sign)))
}

// signedPart is what is signed of a fit certificate.
func signedPart(c api.Cert) api.Tlv {
	return row(api.TagSeq,
		row(api.TagFirst, integer(api.Num{version})),
		integer(c.Serial),
		signedHow(),
		titled(c.Issuer),
		row(api.TagSeq, moment(c.From), moment(c.To)),
		titled(c.Subject),
		row(api.TagSeq, keyKind(), bits(point.Encode(c.Key))),
		row(api.TagThird, row(api.TagSeq, extensions(c)...)))
}

// signedHow tells that it is signed by ECDSA with SHA-256.
func signedHow() api.Tlv {
	return row(api.TagSeq, oid(1, 2, 840, 10045, 4, 3, 2))
}

// keyKind tells that the key is a point of P-256.
func keyKind() api.Tlv {
	return row(api.TagSeq, oid(1, 2, 840, 10045, 2, 1), oid(1, 2, 840, 10045, 3, 1, 7))
}

// titled is an Issuer or a Subject: of all that others can be called, the common name alone.
func titled(name string) api.Tlv {
	return row(api.TagSeq, row(api.TagSet, row(api.TagSeq, oid(2, 5, 4, 3), api.Tlv{Tag: api.TagText, Body: name})))
}

// extensions tell whether it may sign others, and which names it is of, if there are some.
func extensions(c api.Cert) []api.Tlv {
	may := row(api.TagSeq)
	if c.Ca {
		may = row(api.TagSeq, truth())
	}
	out := []api.Tlv{row(api.TagSeq, oid(2, 5, 29, 19), truth(), row(api.TagBytes, may))}
	if len(c.Names) == 0 {
		return out
	}
	var names []api.Tlv
	for _, name := range c.Names {
		names = append(names, api.Tlv{Tag: api.TagName, Body: name})
	}
	return append(out, row(api.TagSeq, oid(2, 5, 29, 17), row(api.TagBytes, row(api.TagSeq, names...))))
}

// row is a tag with some parts, one behind the other. A fit certificate's parts are so few and so short that der refuses none of them.
func row(tag int, parts ...api.Tlv) api.Tlv {
	out, _ := der.Row(tag, parts)
	return out
}

func written(t api.Tlv) string {
	s, _ := der.Write(t)
	return s
}

func integer(n api.Num) api.Tlv {
	return api.Tlv{Tag: api.TagInt, Body: der.Int(n)}
}

func oid(numbers ...uint32) api.Tlv {
	body, _ := der.Oid(numbers)
	return api.Tlv{Tag: api.TagOid, Body: body}
}

// moment is a fit certificate's From or To.
func moment(t int64) api.Tlv {
	body, _ := der.Time(t)
	return api.Tlv{Tag: api.TagTime, Body: body}
}

func truth() api.Tlv {
	return api.Tlv{Tag: api.TagBool, Body: yes}
}

func bits(s string) api.Tlv {
	return api.Tlv{Tag: api.TagBits, Body: allBits + s}
}
