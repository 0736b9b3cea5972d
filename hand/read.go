package hand

import (
	"pendulum/api"
	"pendulum/der"
)

// reader takes bytes off a text. Where it can't, it gives up by panic with an api.Errno: with short, where too few are left.
type reader struct {
	left  string
	short api.Errno
}

func (r *reader) take(n int) string {
	if len(r.left) < n {
		panic(r.short)
	}
	out := r.left[:n]
	r.left = r.left[n:]
	return out
}

// pass takes off what has to stand there.
func (r *reader) pass(text string) {
	if r.take(len(text)) != text {
		panic(api.ErrForm)
	}
}

// number takes off a number of so many bytes.
func (r *reader) number(size int) int {
	n := 0
	for range size {
		n = n<<8 + int(r.take(1)[0])
	}
	return n
}

// vector takes off a text that has its length ahead of it.
func (r *reader) vector(size int) string {
	return r.take(r.number(size))
}

// length takes off how many bytes a body has. A high byte may say alone that they are too many, as those behind it can but add to them.
func (r *reader) length() int {
	n := 0
	for i := range bodySize {
		n += r.number(1) << (8 * (bodySize - 1 - i))
		if n > mostBody {
			panic(api.ErrLong)
		}
	}
	return n
}

// whole is what is read of a text of which nothing may be missing, and nothing left.
func whole[T any](text string, read func(*reader) T) T {
	r := &reader{left: text, short: api.ErrForm}
	out := read(r)
	if r.left != "" {
		panic(api.ErrForm)
	}
	return out
}

// readMessage reads a message of any kind. Within a body nothing but what is written of some message is passed, so only what the fields have is left to be asked.
func readMessage(r *reader) api.Msg {
	kind := r.number(kindSize)
	its, ok := shapes()[kind]
	if !ok {
		panic(api.ErrKind)
	}
	m := whole(r.take(r.length()), its.read)
	m.Kind = kind
	if !its.fit(m) {
		panic(api.ErrForm)
	}
	return m
}

func readClient(r *reader) api.Msg {
	r.pass(version)
	random, session := r.take(wordSize), r.vector(1)
	r.pass(suites + packings)
	m := whole(r.vector(2), readClientExts)
	m.Random, m.Session = random, session
	return m
}

func readClientExts(r *reader) api.Msg {
	r.pass(nameExt)
	name := whole(r.vector(2), readNames)
	r.pass(groupsExt + signsExt)
	alpn := readAlpn(r)
	r.pass(clientVersions + clientShareExt)
	return api.Msg{Name: name, Alpn: alpn, Share: r.take(wordSize)}
}

// readNames reads a list of names, which is one alone.
func readNames(r *reader) string {
	return whole(r.vector(2), func(list *reader) string {
		list.pass(nameKind)
		return list.vector(2)
	})
}

func readServer(r *reader) api.Msg {
	r.pass(version)
	random, session := r.take(wordSize), r.vector(1)
	r.pass(suite + packing)
	share := whole(r.vector(2), func(exts *reader) string {
		exts.pass(serverVersion + serverShareExt)
		return exts.take(wordSize)
	})
	return api.Msg{Random: random, Session: session, Share: share}
}

func readExt(r *reader) api.Msg {
	return api.Msg{Alpn: whole(r.vector(2), readAlpn)}
}

// readAlpn reads the extension of a protocol, the list of which has it alone.
func readAlpn(r *reader) string {
	r.pass(alpnExt)
	return whole(r.vector(2), func(ext *reader) string {
		return whole(ext.vector(2), func(list *reader) string { return list.vector(1) })
	})
}

func readCert(r *reader) api.Msg {
	r.pass(noContext)
	return api.Msg{Certs: whole(r.vector(3), readCerts)}
}

func readCerts(r *reader) []string {
	var out []string
	for r.left != "" {
		out = append(out, r.vector(3))
		r.pass(noCertExts)
	}
	return out
}

func readVerify(r *reader) api.Msg {
	r.pass(signKind)
	row := parts(r.vector(2), api.TagSeq)
	numbers := parts(row[0], api.TagInt, api.TagInt)
	return api.Msg{Sign: api.Sign{R: must(der.ToInt(numbers[0])), S: must(der.ToInt(numbers[1]))}}
}

func readFinish(r *reader) api.Msg {
	return api.Msg{Mac: r.take(wordSize)}
}

// parts is what each of a text's tags has, if they are just those that are told, in that order.
func parts(text string, tags ...int) []string {
	list := must(der.All(text))
	if len(list) != len(tags) {
		panic(api.ErrForm)
	}
	var out []string
	for i, t := range list {
		if t.Tag != tags[i] {
			panic(api.ErrForm)
		}
		out = append(out, t.Body)
	}
	return out
}

// must is what a call tells, unless it tells an error: whichever it is, the text is no message.
func must[T any](told T, e api.Errno) T {
	if e != api.OK {
		panic(api.ErrForm)
	}
	return told
}
