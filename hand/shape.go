package hand

import "pendulum/api"

// shape is what messages of a kind are like: which of them are fit, and how their bodies are written and read.
type shape struct {
	fit   func(api.Msg) bool
	write func(api.Msg) string
	read  func(*reader) api.Msg
}

// shapes are those of all kinds; a number that has none is no kind.
func shapes() map[int]shape {
	return map[int]shape{
		api.HsClient: {fitClient, writeClient, readClient},
		api.HsServer: {fitServer, writeServer, readServer},
		api.HsExt:    {fitExt, writeExt, readExt},
		api.HsCert:   {fitCert, writeCert, readCert},
		api.HsVerify: {fitVerify, writeVerify, readVerify},
		api.HsFinish: {fitFinish, writeFinish, readFinish},
	}
}

// How many bytes tell a message's kind, and how many bytes its body has.
const (
	kindSize = 1
	bodySize = 3
)

// What stands in messages as it is, as there is nothing to choose from.
const (
	version    = "\x03\x03"         // that of TLS 1.2, as whatever stands between two ends may know no later one
	suites     = "\x00\x02\x13\x01" // a client's list: AES-128-GCM with SHA-256 alone
	packings   = "\x01\x00"         // a client's list: nothing is packed
	suite      = "\x13\x01"
	packing    = "\x00"
	signKind   = "\x04\x03" // signatures over P-256 with SHA-256
	noContext  = "\x00"     // ahead of certificates that nobody has asked for
	noCertExts = "\x00\x00" // behind each of them
)

// Extensions, or their beginnings: two bytes for which one it is, and then, where it is always the same, how many bytes it has, and these.
const (
	nameExt        = "\x00\x00"
	nameKind       = "\x00"                                     // within it: a host's name
	groupsExt      = "\x00\x0a\x00\x04\x00\x02\x00\x1d"         // X25519 alone
	signsExt       = "\x00\x0d\x00\x04\x00\x02" + signKind      // these alone
	alpnExt        = "\x00\x10"                                 // the protocol that is to be spoken
	clientVersions = "\x00\x2b\x00\x03\x02\x03\x04"             // TLS 1.3 alone
	serverVersion  = "\x00\x2b\x00\x02\x03\x04"                 // TLS 1.3
	clientShareExt = "\x00\x33\x00\x26\x00\x24\x00\x1d\x00\x20" // ahead of a Share of X25519, in a list
	serverShareExt = "\x00\x33\x00\x24\x00\x1d\x00\x20"         // ahead of one, in none
)
