package cert

import (
	"strings"

	"pendulum/api"
	"pendulum/der"
	"pendulum/point"
)

// The readers below give up by panic with an api.Errno, which Read catches: so none of them has to ask whether another one has failed.

// readWhole reads a certificate. The readers take what they need and leave the rest unread: whether all of it is as it should be, is seen when what was read is written again.
func readWhole(s string) api.Cert {
	if len(s) > api.MaxDer {
		panic(api.ErrLong)
	}
	whole := parts(only(s, api.TagSeq), api.TagSeq, api.TagSeq, api.TagBits)
	c := readSigned(whole[0])
	c.Sign = readSign(whole[2])
	if must(Write(c)) != s {
		panic(api.ErrForm)
	}
	return c
}

// readSigned reads what is signed of a certificate.
func readSigned(s string) api.Cert {
	in := parts(s, api.TagFirst, api.TagInt, api.TagSeq, api.TagSeq, api.TagSeq, api.TagSeq, api.TagSeq, api.TagThird)
	times := parts(in[4], api.TagTime, api.TagTime)
	key := parts(in[6], api.TagSeq, api.TagBits)
	c := api.Cert{
		Serial:  must(der.ToInt(in[1])),
		Issuer:  readTitled(in[3]),
		Subject: readTitled(in[5]),
		From:    must(der.ToTime(times[0])),
		To:      must(der.ToTime(times[1])),
		Key:     must(point.Decode(strings.TrimPrefix(key[1], allBits))),
	}
	c.Ca, c.Names = readExtensions(only(in[7], api.TagSeq))
	return c
}

// readTitled reads an Issuer, or a Subject.
func readTitled(s string) string {
	return parts(only(only(s, api.TagSet), api.TagSeq), api.TagOid, api.TagText)[1]
}

// readExtensions reads whether it may sign others, and the names, if there are some.
func readExtensions(s string) (bool, []string) {
	list := must(der.All(s))
	if len(list) == 0 {
		panic(api.ErrForm)
	}
	may := parts(list[0].Body, api.TagOid, api.TagBool, api.TagBytes)[2]
	var names []string
	for _, t := range list[1:] {
		names = append(names, readNames(t.Body)...)
	}
	return only(may, api.TagSeq) != "", names
}

func readNames(s string) []string {
	within := parts(s, api.TagOid, api.TagBytes)[1]
	var names []string
	for _, t := range must(der.All(only(within, api.TagSeq))) {
		names = append(names, t.Body)
	}
	return names
}

// readSign reads R and S.
func readSign(s string) api.Sign {
	in := parts(only(strings.TrimPrefix(s, allBits), api.TagSeq), api.TagInt, api.TagInt)
	return api.Sign{R: must(der.ToInt(in[0])), S: must(der.ToInt(in[1]))}
}

// only is what a text's one tag has.
func only(s string, tag int) string {
	return parts(s, tag)[0]
}

// parts is what each of a text's tags has, if they are just those that are told, in that order.
func parts(s string, tags ...int) []string {
	list := must(der.All(s))
	if len(list) != len(tags) {
		panic(api.ErrForm)
	}
	var out []string
	for i, t := range list {
		if t.Tag != tags[i] {
			panic(api.ErrForm)
		}
		out = append(out, t.Body)
	}
	return out
}

// must is what a call tells, unless it tells an error: whichever it is, the text is no certificate.
func must[T any](told T, e api.Errno) T {
	if e != api.OK {
		panic(api.ErrForm)
	}
	return told
}
