package hand

import "pendulum/api"

const (
	wordSize    = 32 // bytes of a Random, a Share, a Mac
	mostSession = 32
	mostAlpn    = 32
	mostName    = 64
	leastLetter = '!' // of a name: no space
	mostLetter  = '~'
)

// Each of these holds a message also against itself with nothing but what its kind has: so all else is empty.

func fitClient(m api.Msg) bool {
	own := api.Msg{Kind: m.Kind, Random: m.Random, Session: m.Session, Share: m.Share, Name: m.Name, Alpn: m.Alpn}
	return Same(m, own) && isWord(m.Random) && isSession(m.Session) && isWord(m.Share) && isName(m.Name) && isAlpn(m.Alpn)
}

func fitServer(m api.Msg) bool {
	own := api.Msg{Kind: m.Kind, Random: m.Random, Session: m.Session, Share: m.Share}
	return Same(m, own) && isWord(m.Random) && isSession(m.Session) && isWord(m.Share)
}

func fitExt(m api.Msg) bool {
	own := api.Msg{Kind: m.Kind, Alpn: m.Alpn}
	return Same(m, own) && isAlpn(m.Alpn)
}

func fitCert(m api.Msg) bool {
	own := api.Msg{Kind: m.Kind, Certs: m.Certs}
	return Same(m, own) && areCerts(m.Certs)
}

func fitVerify(m api.Msg) bool {
	own := api.Msg{Kind: m.Kind, Sign: m.Sign}
	return Same(m, own)
}

func fitFinish(m api.Msg) bool {
	own := api.Msg{Kind: m.Kind, Mac: m.Mac}
	return Same(m, own) && isWord(m.Mac)
}

func isWord(s string) bool {
	return len(s) == wordSize
}

func isSession(s string) bool {
	return len(s) <= mostSession
}

func isAlpn(s string) bool {
	return s != "" && len(s) <= mostAlpn
}

func isName(s string) bool {
	for i := range len(s) {
		if s[i] < leastLetter || s[i] > mostLetter {
			return false
		}
	}
	return s != "" && len(s) <= mostName
}

// areCerts tells whether texts may be a chain; what stands within them, chapter 12 asks.
func areCerts(l []string) bool {
	for _, text := range l {
		if text == "" || len(text) > api.MaxDer {
			return false
		}
	}
	return len(l) >= 1 && len(l) <= api.MaxChain
}
