package nego_test

import (
	"crypto/hkdf"
	"crypto/sha256"
	"encoding/binary"
	"encoding/hex"
	"math"
	"math/rand"
	"regexp"
	"slices"
	"testing"

	"pendulum/api"
	"pendulum/nego"
)

// What the chapter's words say, made anew by Go's own library: the tests hold the program against it.

// drawn is a text that is the same in every run.
func drawn(seed int64, size int) string {
	out := make([]byte, size)
	rand.New(rand.NewSource(seed)).Read(out)
	return string(out)
}

func hexed(s string) string {
	if len(s) > 60 {
		return hex.EncodeToString([]byte(s[:60])) + ".."
	}
	return hex.EncodeToString([]byte(s))
}

// pairs is numbers as they stand, whatever of them two bytes can tell.
func pairs(numbers ...int) string {
	var out []byte
	for _, n := range numbers {
		out = binary.BigEndian.AppendUint16(out, uint16(n))
	}
	return string(out)
}

// unpaired is the numbers of a Body; false, if it is none of such.
func unpaired(s string) ([]int, bool) {
	var out []int
	for rest := []byte(s); len(rest) > 1; rest = rest[2:] {
		out = append(out, int(binary.BigEndian.Uint16(rest)))
	}
	return out, len(s)%2 == 0 && len(s) <= 1024
}

var hosts = regexp.MustCompile(`\A[\x21-\x7e]{1,64}\z`)

// isHost says by the chapter's words what a host is. (A byte above 127 is none of the expression's, alone or as a part of a character.)
func isHost(s string) bool {
	return hosts.MatchString(s)
}

func crit(kind int, body string) api.KeRec {
	return api.KeRec{Crit: true, Kind: kind, Body: body}
}

func mild(kind int, body string) api.KeRec {
	return api.KeRec{Kind: kind, Body: body}
}

// sizes are those of the keys of all ways of sealing.
var sizes = map[int]int{15: 32, 17: 64}

// noWays are numbers that are no way of sealing, also such as have the lowest bits of one.
func noWays() []int {
	return []int{math.MinInt, math.MinInt32, -65521, -17, -15, -1, 0, 1, 14, 16, 18, 30, 32, 64, 65535, 65536, 65551, 65553, 1<<32 + 15, 1<<32 + 17, math.MaxInt}
}

// asked is what Ask has to tell.
func asked(aeads []int, host string, port int) ([]api.KeRec, api.Errno) {
	switch {
	case len(aeads) == 0:
		return nil, api.ErrShort
	case len(aeads) > 512:
		return nil, api.ErrMany
	case slices.Min(aeads) < 0 || slices.Max(aeads) > 65535:
		return nil, api.ErrNumber
	case host != "" && !isHost(host):
		return nil, api.ErrName
	case port < 0 || port > 65535:
		return nil, api.ErrNumber
	}
	out := []api.KeRec{crit(1, "\x00\x00"), crit(4, pairs(aeads...)), mild(6, host), mild(7, pairs(port)), crit(0, "")}
	if port == 0 {
		out = slices.Delete(out, 3, 4)
	}
	if host == "" {
		out = slices.Delete(out, 2, 3)
	}
	return out, api.OK
}

// only is the records of a kind.
func only(l []api.KeRec, kind int) []api.KeRec {
	return slices.DeleteFunc(slices.Clone(l), func(r api.KeRec) bool { return r.Kind != kind })
}

// isUnknown says whether a record must be known, and is not.
func isUnknown(r api.KeRec) bool {
	return r.Crit && uint(r.Kind) > 7
}

// answered is what Answer has to tell.
func answered(c api.KeConf, l []api.KeRec) ([]api.KeRec, int) {
	if slices.ContainsFunc(l, isUnknown) {
		return []api.KeRec{crit(2, "\x00\x00"), crit(0, "")}, 0
	}
	told := map[int][]int{}
	for _, kind := range []int{1, 4} {
		found := only(l, kind)
		if len(found) == 1 && found[0].Crit {
			if numbers, ok := unpaired(found[0].Body); ok {
				told[kind] = numbers
			}
		}
		if len(told[kind]) == 0 {
			return []api.KeRec{crit(2, "\x00\x01"), crit(0, "")}, 0
		}
	}
	if !slices.Contains(told[1], 0) {
		return []api.KeRec{crit(1, ""), crit(0, "")}, 0
	}
	i := slices.IndexFunc(c.Aeads, func(n int) bool { return sizes[n] > 0 && slices.Contains(told[4], n) })
	if i < 0 {
		return []api.KeRec{crit(1, "\x00\x00"), crit(4, ""), crit(0, "")}, 0
	}
	out := []api.KeRec{crit(1, "\x00\x00"), crit(4, pairs(c.Aeads[i]))}
	for _, s := range c.Cookies {
		out = append(out, mild(5, s))
	}
	if c.Host != "" {
		out = append(out, crit(6, c.Host))
	}
	if c.Port != 0 {
		out = append(out, crit(7, pairs(c.Port)))
	}
	return append(out, crit(0, "")), c.Aeads[i]
}

// accepted is what Accept has to tell.
func accepted(aeads []int, l []api.KeRec) (api.Deal, api.Errno) {
	nexts, ways, cookies, servers, ports := only(l, 1), only(l, 4), only(l, 5), only(l, 6), only(l, 7)
	var d api.Deal
	switch {
	case len(only(l, 2)) > 0:
		return api.Deal{}, api.ErrState
	case slices.ContainsFunc(l, isUnknown):
		return api.Deal{}, api.ErrKind
	case len(nexts) != 1 || nexts[0].Body != "\x00\x00":
		return api.Deal{}, api.ErrForm
	case len(ways) != 1 || len(ways[0].Body) != 2:
		return api.Deal{}, api.ErrForm
	}
	d.Aead = int(binary.BigEndian.Uint16([]byte(ways[0].Body)))
	switch {
	case !slices.Contains(aeads, d.Aead) || sizes[d.Aead] == 0:
		return api.Deal{}, api.ErrNumber
	case len(cookies) == 0:
		return api.Deal{}, api.ErrNone
	case len(cookies) > 8:
		return api.Deal{}, api.ErrMany
	}
	for _, r := range cookies {
		if n := len(r.Body); n < 4 || n > 256 || n&3 != 0 {
			return api.Deal{}, api.ErrLong
		}
		d.Cookies = append(d.Cookies, r.Body)
	}
	if len(servers) > 1 || len(ports) > 1 {
		return api.Deal{}, api.ErrTwice
	}
	if len(servers) == 1 {
		d.Host = servers[0].Body
		if !isHost(d.Host) {
			return api.Deal{}, api.ErrName
		}
	}
	if len(ports) == 1 {
		if len(ports[0].Body) != 2 || ports[0].Body == "\x00\x00" {
			return api.Deal{}, api.ErrNumber
		}
		d.Port = int(binary.BigEndian.Uint16([]byte(ports[0].Body)))
	}
	return d, api.OK
}

// alike says whether two deals are the same.
func alike(a, b api.Deal) bool {
	return a.Aead == b.Aead && a.Host == b.Host && a.Port == b.Port && slices.Equal(a.Cookies, b.Cookies)
}

// key is what a connection exports for a way of sealing and a direction, by the library.
func key(t testing.TB, x api.Tls, aead int, to byte) string {
	t.Helper()
	label := func(secret, label, context string, n int) string {
		label = "tls13 " + label
		info := pairs(n) + string([]byte{byte(len(label))}) + label + string([]byte{byte(len(context))}) + context
		out, err := hkdf.Expand(sha256.New, []byte(secret), info, n)
		if err != nil {
			t.Fatal(err)
		}
		return string(out)
	}
	digest := func(s string) string {
		out := sha256.Sum256([]byte(s))
		return string(out[:])
	}
	secret := label(x.App.Export, "EXPORTER-network-time-security", digest(""), 32)
	return label(secret, "exporter", digest(string([]byte{0, 0, byte(aead >> 8), byte(aead), to})), sizes[aead])
}

// holdAsk says that Ask tells what the chapter's words say, and with which error; and that it leaves the list as it was (rule 0.5).
func holdAsk(t testing.TB, aeads []int, host string, port int, fault api.Errno) []api.KeRec {
	t.Helper()
	want, e := asked(aeads, host, port)
	if e != fault {
		t.Fatalf("the words of %d ways, %q, %d: %v; want %v", len(aeads), host, port, e, fault)
	}
	was := slices.Clone(aeads)
	got, e := nego.Ask(aeads, host, port)
	if !slices.Equal(got, want) || e != fault {
		t.Errorf("Ask of %d ways, %q, %d = %v, %v; want %v, %v", len(aeads), host, port, got, e, want, fault)
	}
	if !slices.Equal(aeads, was) {
		t.Errorf("Ask changed its %d ways", len(aeads))
	}
	return got
}

// holdAnswer says that Answer tells what the chapter's words say, and which way it takes; and that it leaves the lists as they were.
func holdAnswer(t testing.TB, c api.KeConf, l []api.KeRec, way int) []api.KeRec {
	t.Helper()
	want, taken := answered(c, l)
	if taken != way {
		t.Fatalf("the words of %v, to %v: the way %d; want %d", l, c, taken, way)
	}
	aeads, cookies, records := slices.Clone(c.Aeads), slices.Clone(c.Cookies), slices.Clone(l)
	got, taken := nego.Answer(c, l)
	if !slices.Equal(got, want) || taken != way {
		t.Errorf("Answer of %v, to %v = %v, %d; want %v, %d", c, l, got, taken, want, way)
	}
	if !slices.Equal(c.Aeads, aeads) || !slices.Equal(c.Cookies, cookies) || !slices.Equal(l, records) {
		t.Errorf("Answer of %v, to %v changed what it was given", c, l)
	}
	return got
}

// holdAccept says that Accept tells what the chapter's words say, and with which error; and that it leaves the lists as they were.
func holdAccept(t testing.TB, aeads []int, l []api.KeRec, fault api.Errno) api.Deal {
	t.Helper()
	want, e := accepted(aeads, l)
	if e != fault {
		t.Fatalf("the words of %v, %v: %v; want %v", aeads, l, e, fault)
	}
	ways, records := slices.Clone(aeads), slices.Clone(l)
	got, e := nego.Accept(aeads, l)
	if !alike(got, want) || e != fault {
		t.Errorf("Accept of %v, %v = %v, %v; want %v, %v", aeads, l, got, e, want, fault)
	}
	if !slices.Equal(aeads, ways) || !slices.Equal(l, records) {
		t.Errorf("Accept of %v, %v changed what it was given", aeads, l)
	}
	return got
}
