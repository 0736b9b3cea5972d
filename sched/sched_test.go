package sched_test

import (
	"math"
	"strings"
	"sync"
	"testing"

	"pendulum/api"
	"pendulum/hkdf"
	"pendulum/sched"
	"pendulum/sha"
	"pendulum/xdh"
)

// sizes are lengths of texts, those about 32 bytes among them; texts of 32 bytes alone are secrets and digests.
func sizes() []int {
	return []int{0, 1, 2, 12, 16, 30, 31, 32, 33, 34, 48, 63, 64, 65, 249, 255, 256, 257, 288, 5000, 1<<16 + 32}
}

// thirtyTwo are texts of 32 bytes, those of one byte alone among them.
func thirtyTwo() []string {
	out := []string{digestOf("")}
	for _, s := range []string{"\x00", "\x01", "\x7f", "\x80", "\xff", "a"} {
		out = append(out, strings.Repeat(s, 32))
	}
	for i := range int64(6) {
		out = append(out, drawn(i, 32))
	}
	return out
}

func holdHandshake(t testing.TB, shared, digest string) api.Secrets {
	t.Helper()
	got, e := sched.Handshake(shared, digest)
	if want, f := handshake(t, shared, digest); got != want || e != f {
		t.Errorf("Handshake(%s, %s) = %s, %v; want %s, %v", hexed(shared), hexed(digest), told(got), e, told(want), f)
	}
	return got
}

func holdMaster(t testing.TB, x api.Secrets, digest string) api.Secrets {
	t.Helper()
	got, e := sched.Master(x, digest)
	if want, f := master(t, x, digest); got != want || e != f {
		t.Errorf("Master(%s, %s) = %s, %v; want %s, %v", told(x), hexed(digest), told(got), e, told(want), f)
	}
	return got
}

func holdSide(t testing.TB, secret string) api.Side {
	t.Helper()
	got, e := sched.Side(secret)
	if want, f := side(t, secret); got != want || e != f {
		t.Errorf("Side(%s) = %s, %s, %d, %v; want %s, %s, %v", hexed(secret), hexed(got.Key), hexed(got.Iv), got.Seq, e, hexed(want.Key), hexed(want.Iv), f)
	}
	return got
}

func holdFinish(t testing.TB, secret, digest string) string {
	t.Helper()
	got, e := sched.Finish(secret, digest)
	if want, f := finish(t, secret, digest); got != want || e != f {
		t.Errorf("Finish(%s, %s) = %s, %v; want %s, %v", hexed(secret), hexed(digest), hexed(got), e, hexed(want), f)
	}
	return got
}

func holdExport(t testing.TB, x api.Secrets, by, context string, n int) string {
	t.Helper()
	got, e := sched.Export(x, by, context, n)
	if want, f := export(t, x, by, context, n); got != want || e != f {
		t.Errorf("Export(%s, %s, %s, %d) = %s, %v; want %s, %v", told(x), hexed(by), hexed(context), n, hexed(got), e, hexed(want), f)
	}
	return got
}

// like says that a text is the one whose digits are told.
func like(t testing.TB, what, got, digits string) {
	t.Helper()
	if got != unhexed(t, digits) {
		t.Errorf("%s = %s; want %s", what, hexed(got), digits)
	}
}

func likeSide(t testing.TB, what, secret, key, iv string) {
	t.Helper()
	x, e := sched.Side(secret)
	if e != api.OK || x.Seq != 0 {
		t.Errorf("Side of %s: Seq %d, %v", what, x.Seq, e)
	}
	like(t, what+"'s key", x.Key, key)
	like(t, what+"'s nonce", x.Iv, iv)
}

// P15.1, P15.2, P15.3: RFC 8448's first handshake; its early secret, and what is derived of it, are the chapter's example.
func TestPublishedHandshake(t *testing.T) {
	zeros := strings.Repeat("\x00", 32)
	early := hkdf.Extract(zeros, zeros)
	like(t, "the early secret", early, "33ad0a1c607ec03b09e6cd9893680ce210adf300aa1f2660e1b22e10f170f92a")
	derived, e := hkdf.Derive(early, "derived", sha.Of(""))
	if e != api.OK {
		t.Fatal(e)
	}
	like(t, "what is derived of it", derived, "6f2615a108c702c5678f54fc9dbab69716c076189c48250cebeac3576c3611ba")

	shared := unhexed(t, "8bd4054fb55b9d63fdfbacf9f04b9f0d35e6d63f537563efd46272900f89492d")
	x, e := sched.Handshake(shared, unhexed(t, "860c06edc07858ee8e78f0e7428c58edd6b43f2ca3e6e95f02ed063cf0e1cad8"))
	if e != api.OK || x.Base != hkdf.Extract(derived, shared) {
		t.Errorf("Handshake = %s, %v", told(x), e)
	}
	like(t, "the handshake's Base", x.Base, "1dc826e93606aa6fdc0aadc12f741b01046aa6b99f691ed221a9f0ca043fbeac")
	like(t, "its Client", x.Client, "b3eddb126e067f35a780b3abf45e2d8f3b1a950738f52e9600746a0e27a55a21")
	like(t, "its Server", x.Server, "b67b7d690cc16c4e75e54213cb2d37b4e9c912bcded9105d42befd59d391ad38")
	like(t, "its Export", x.Export, "")
	likeSide(t, "the handshake's client", x.Client, "dbfaa693d1762c5b666af5d950258d01", "5bd3c71b836e0b76bb73265f")
	likeSide(t, "the handshake's server", x.Server, "3fce516009c21727d0f2e4e86ee403bc", "5d313eb2671276ee13000b30")

	said := unhexed(t, "9608102a0f1ccc6db6250b7b7e417b1a000eaada3daae4777a7686c9ff83df13")
	end, e := sched.Finish(x.Client, said)
	if e != api.OK {
		t.Error(e)
	}
	like(t, "the client's end", end, "a8ec436d677634ae525ac1fcebe11a039ec17694fac6e98527b642f2edd5ce61")

	y, e := sched.Master(x, said)
	if e != api.OK {
		t.Error(e)
	}
	like(t, "the master's Base", y.Base, "18df06843d13a08bf2a449844c5f8a478001bc4d4c627984d5a41da8d0402919")
	like(t, "its Client", y.Client, "9e40646ce79a7f9dc05af8889bce6552875afa0b06df0087f792ebb7c17504a5")
	like(t, "its Server", y.Server, "a11af9f05531f856ad47116b45a950328204b4f44bfb6b3a4b4f1f3fcb631643")
	like(t, "its Export", y.Export, "fe22f881176eda18eb8f44529e6792c50c9a3f89452f68d8ae311b4309d3cf50")
	likeSide(t, "the client", y.Client, "17422dda596ed5d9acd890e3c63f5051", "5b78923dee08579033e523d9")
	likeSide(t, "the server", y.Server, "9f02283b6c9c07efc26bb9f2ac92e356", "cf782b88dd83549aadf1e984")
}

// P15.1: secrets of any two texts of 32 bytes; which of both is which is heeded.
func TestHandshake(t *testing.T) {
	for _, shared := range thirtyTwo() {
		for _, digest := range thirtyTwo() {
			if got := holdHandshake(t, shared, digest); got.Export != "" {
				t.Errorf("Handshake tells an Export: %s", told(got))
			}
		}
	}
}

// P15.1, rule 0.3: what has not 32 bytes is refused, alone and with another, and nothing stands beside the error.
func TestHandshakeRefuses(t *testing.T) {
	for _, a := range sizes() {
		for _, b := range sizes() {
			got, e := sched.Handshake(drawn(1, a), drawn(2, b))
			if fine := a == 32 && b == 32; (e == api.OK) != fine || !fine && (e != api.ErrForm || got != api.Secrets{}) {
				t.Errorf("Handshake(%d bytes, %d bytes) = %s, %v", a, b, told(got), e)
			}
			holdHandshake(t, drawn(1, a), drawn(2, b))
		}
	}
}

// P15.2: the secrets behind any Base of 32 bytes.
func TestMaster(t *testing.T) {
	for _, base := range thirtyTwo() {
		for _, digest := range thirtyTwo() {
			holdMaster(t, api.Secrets{Base: base}, digest)
		}
	}
}

// P15.2: of the secrets that come in Base alone is asked for, whatever the others are.
func TestMasterTakesBaseAlone(t *testing.T) {
	base, digest := drawn(1, 32), drawn(2, 32)
	want := holdMaster(t, api.Secrets{Base: base}, digest)
	for _, a := range sizes() {
		for _, x := range []api.Secrets{
			{Base: base, Client: drawn(3, a)},
			{Base: base, Server: drawn(4, a)},
			{Base: base, Export: drawn(5, a)},
			{Base: base, Client: drawn(3, a), Server: drawn(4, a), Export: drawn(5, a)},
		} {
			if got := holdMaster(t, x, digest); got != want {
				t.Errorf("Master(%s) = %s; want %s", told(x), told(got), told(want))
			}
		}
	}
}

// P15.2, rule 0.3: what has not 32 bytes is refused, also where all the others have.
func TestMasterRefuses(t *testing.T) {
	for _, a := range sizes() {
		for _, b := range sizes() {
			for _, other := range []string{"", drawn(3, 32)} {
				x, digest := api.Secrets{Base: drawn(1, a), Client: other, Server: other, Export: other}, drawn(2, b)
				got, e := sched.Master(x, digest)
				if fine := a == 32 && b == 32; (e == api.OK) != fine || !fine && (e != api.ErrForm || got != api.Secrets{}) {
					t.Errorf("Master(Base of %d bytes, %d bytes) = %s, %v", a, b, told(got), e)
				}
				holdMaster(t, x, digest)
			}
		}
	}
}

// P15.3, P15.5: a direction's key and nonce have their lengths, and it has counted nothing yet.
func TestSide(t *testing.T) {
	for _, secret := range thirtyTwo() {
		if got := holdSide(t, secret); len(got.Key) != 16 || len(got.Iv) != 12 || got.Seq != 0 {
			t.Errorf("Side(%s): a key of %d bytes, a nonce of %d, Seq %d", hexed(secret), len(got.Key), len(got.Iv), got.Seq)
		}
	}
}

// P15.3, rule 0.3: what has not 32 bytes is no secret.
func TestSideRefuses(t *testing.T) {
	for _, a := range sizes() {
		got, e := sched.Side(drawn(1, a))
		if fine := a == 32; (e == api.OK) != fine || !fine && (e != api.ErrForm || got != api.Side{}) {
			t.Errorf("Side(%d bytes) = %+v, %v", a, got, e)
		}
		holdSide(t, drawn(1, a))
	}
}

// P15.3, P15.5: an end has 32 bytes.
func TestFinish(t *testing.T) {
	for _, secret := range thirtyTwo() {
		for _, digest := range thirtyTwo() {
			if got := holdFinish(t, secret, digest); len(got) != 32 {
				t.Errorf("Finish(%s, %s) has %d bytes", hexed(secret), hexed(digest), len(got))
			}
		}
	}
}

// P15.3, rule 0.3: what has not 32 bytes is refused, alone and with another.
func TestFinishRefuses(t *testing.T) {
	for _, a := range sizes() {
		for _, b := range sizes() {
			got, e := sched.Finish(drawn(1, a), drawn(2, b))
			if fine := a == 32 && b == 32; (e == api.OK) != fine || !fine && (e != api.ErrForm || got != "") {
				t.Errorf("Finish(%d bytes, %d bytes) = %s, %v", a, b, hexed(got), e)
			}
			holdFinish(t, drawn(1, a), drawn(2, b))
		}
	}
}

// ntsLabel is the label by which Network Time Security's keys are exported.
const ntsLabel = "EXPORTER-network-time-security"

// labels are those that chapter 7 takes: none, one byte, the most.
func labels() []string {
	return []string{"", "\x00", "a", ntsLabel, "exporter", "derived", drawn(1, 248), drawn(2, 249)}
}

// contexts may be of any length.
func contexts() []string {
	out := []string{"", "\x00", "\x00\x00\x00\x0f\x00", digestOf("")}
	for _, n := range []int{1, 31, 32, 33, 255, 256, 257, 5000, 100000} {
		out = append(out, drawn(int64(n), n))
	}
	return out
}

// P15.4: bytes by any label that chapter 7 takes, any context, and as many bytes as it tells.
func TestExport(t *testing.T) {
	for _, by := range labels() {
		for _, context := range contexts() {
			for _, n := range []int{0, 1, 31, 32, 33, 64, 65} {
				got := holdExport(t, api.Secrets{Export: drawn(1, 32)}, by, context, n)
				if len(got) != n {
					t.Errorf("Export to %d bytes tells %d", n, len(got))
				}
			}
		}
	}
	for _, secret := range thirtyTwo() {
		for _, n := range []int{0, 1, 32, 33, 255, 256, 8159, 8160} {
			if got := holdExport(t, api.Secrets{Export: secret}, ntsLabel, "\x00\x00\x00\x0f\x00", n); len(got) != n {
				t.Errorf("Export to %d bytes tells %d", n, len(got))
			}
		}
	}
}

// P15.4: of the secrets that come in Export alone is asked for, whatever the others are.
func TestExportTakesExportAlone(t *testing.T) {
	secret := drawn(1, 32)
	want := holdExport(t, api.Secrets{Export: secret}, "label", "context", 40)
	for _, a := range sizes() {
		for _, x := range []api.Secrets{
			{Export: secret, Base: drawn(3, a)},
			{Export: secret, Client: drawn(4, a)},
			{Export: secret, Server: drawn(5, a)},
			{Export: secret, Base: drawn(3, a), Client: drawn(4, a), Server: drawn(5, a)},
		} {
			if got := holdExport(t, x, "label", "context", 40); got != want {
				t.Errorf("Export(%s) = %s; want %s", told(x), hexed(got), hexed(want))
			}
		}
	}
}

// P15.4, rules 0.2 and 0.3: a secret that is none ahead of a label that is too long, that ahead of a number, and nothing beside an error.
func TestExportRefuses(t *testing.T) {
	const most = 249
	for _, c := range []struct {
		secret, label, n int
		want             api.Errno
	}{
		{32, most, 8160, api.OK},
		{32, most, 0, api.OK},
		{32, 0, 8160, api.OK},
		{32, 5, 8161, api.ErrNumber},
		{32, 5, 65535, api.ErrNumber},
		{32, 5, 65536, api.ErrNumber},
		{32, 5, 65536 + 32, api.ErrNumber},
		{32, 5, 1<<32 + 32, api.ErrNumber},
		{32, 5, math.MaxInt, api.ErrNumber},
		{32, 5, -1, api.ErrNumber},
		{32, 5, -32, api.ErrNumber},
		{32, 5, math.MinInt, api.ErrNumber},
		{32, most, -1, api.ErrNumber},
		{32, most, 8161, api.ErrNumber},
		{32, most + 1, 32, api.ErrLong},
		{32, most + 1, 0, api.ErrLong},
		{32, most + 2, 32, api.ErrLong},
		{32, 255, 32, api.ErrLong},
		{32, 256, 32, api.ErrLong},
		{32, 512, 32, api.ErrLong},
		{32, 1 << 20, 32, api.ErrLong},
		{32, most + 1, -1, api.ErrLong},
		{32, most + 1, 8161, api.ErrLong},
		{32, most + 1, 65536, api.ErrLong},
		{32, most + 1, math.MaxInt, api.ErrLong},
		{32, most + 1, math.MinInt, api.ErrLong},
		{0, 5, 32, api.ErrForm},
		{1, 5, 32, api.ErrForm},
		{31, 5, 32, api.ErrForm},
		{33, 5, 32, api.ErrForm},
		{64, 5, 32, api.ErrForm},
		{288, 5, 32, api.ErrForm},
		{0, most + 1, 32, api.ErrForm},
		{31, most + 1, 32, api.ErrForm},
		{33, most + 1, 32, api.ErrForm},
		{0, 5, -1, api.ErrForm},
		{31, 5, -1, api.ErrForm},
		{33, 5, 8161, api.ErrForm},
		{0, most + 1, -1, api.ErrForm},
		{31, most + 1, 65536, api.ErrForm},
		{33, most + 1, 8161, api.ErrForm},
	} {
		for _, context := range []string{"", "c", drawn(3, 256), drawn(4, 5000)} {
			for _, other := range []string{"", drawn(5, 32)} {
				x := api.Secrets{Base: other, Client: other, Server: other, Export: drawn(1, c.secret)}
				got, e := sched.Export(x, drawn(2, c.label), context, c.n)
				if e != c.want || e != api.OK && got != "" {
					t.Errorf("Export(%d bytes, %d bytes, %d bytes, %d) = %s, %v; want %v", c.secret, c.label, len(context), c.n, hexed(got), e, c.want)
				}
				holdExport(t, x, drawn(2, c.label), context, c.n)
			}
		}
	}
}

// P15.4, P7.6: how many bytes are asked for is told within what they are made of, so fewer are not the first of more.
func TestExportOfUnlikeLengths(t *testing.T) {
	x := api.Secrets{Export: drawn(1, 32)}
	a, b := holdExport(t, x, "label", "context", 32), holdExport(t, x, "label", "context", 33)
	if a == b[:32] {
		t.Errorf("32 bytes are the first of 33: %s", hexed(a))
	}
}

// all is what a connection makes of what its ends share and what was said, one text behind the other.
func all(t testing.TB, shared string, digests ...string) []string {
	t.Helper()
	x, e := sched.Handshake(shared, digests[0])
	y, f := sched.Master(x, digests[1])
	if e != api.OK || f != api.OK {
		t.Fatal(e, f)
	}
	out := []string{x.Base, x.Client, x.Server, y.Base, y.Client, y.Server, y.Export}
	for _, secret := range []string{x.Client, x.Server, y.Client, y.Server} {
		d, e := sched.Side(secret)
		end, f := sched.Finish(secret, digests[1])
		if e != api.OK || f != api.OK || len(d.Key) != 16 || len(d.Iv) != 12 || d.Seq != 0 || len(end) != 32 {
			t.Fatalf("Side = %+v, %v, Finish = %s, %v", d, e, hexed(end), f)
		}
		out = append(out, d.Key, d.Iv, end)
	}
	for _, context := range []string{"\x00\x00\x00\x0f\x00", "\x00\x00\x00\x0f\x01"} {
		key, e := sched.Export(y, ntsLabel, context, 32)
		if e != api.OK || len(key) != 32 {
			t.Fatalf("Export = %s, %v", hexed(key), e)
		}
		out = append(out, key)
	}
	for i, s := range []string{x.Base, x.Client, x.Server, y.Base, y.Client, y.Server, y.Export} {
		if len(s) != 32 {
			t.Fatalf("the secret %d has %d bytes", i, len(s))
		}
	}
	return out
}

// P15.5: two ends, each with its own part of what is shared, have the same; all that a connection has is unlike.
func TestBothEndsHaveTheSame(t *testing.T) {
	for i := range int64(5) {
		a, b := drawn(i, 32), drawn(i+100, 32)
		pa, e := xdh.Public(a)
		pb, f := xdh.Public(b)
		if e != api.OK || f != api.OK {
			t.Fatal(e, f)
		}
		sa, e := xdh.Shared(a, pb)
		sb, f := xdh.Shared(b, pa)
		if e != api.OK || f != api.OK {
			t.Fatal(e, f)
		}
		mine, theirs := all(t, sa, digestOf("hello"), digestOf("end")), all(t, sb, digestOf("hello"), digestOf("end"))
		seen := map[string]int{}
		for k := range mine {
			if mine[k] != theirs[k] {
				t.Errorf("the text %d is %s here, and %s there", k, hexed(mine[k]), hexed(theirs[k]))
			}
			if first, ok := seen[mine[k]]; ok {
				t.Errorf("the texts %d and %d are alike: %s", first, k, hexed(mine[k]))
			}
			seen[mine[k]] = k
		}
	}
}

// P15.5: every bit of what comes in counts, in all that is made of it, and in nothing else.
func TestAllIsMadeOfItsArguments(t *testing.T) {
	shared, hello, end := drawn(1, 32), drawn(2, 32), drawn(3, 32)
	was := all(t, shared, hello, end)
	hold := func(what string, got []string, same ...int) {
		t.Helper()
		kept := map[int]int{}
		for _, k := range same {
			kept[k]++
		}
		for k := range got {
			if (got[k] == was[k]) != (kept[k] == 1) {
				t.Errorf("with another %s the text %d is %s; it was %s", what, k, hexed(got[k]), hexed(was[k]))
			}
		}
	}
	for i := range 32 {
		hold("secret", all(t, changed(shared, i, 1<<(i%8)), hello, end))
		hold("hello", all(t, shared, changed(hello, i, 1<<(i%8)), end), 0, 3, 4, 5, 6, 13, 14, 15, 16, 17, 18, 19, 20)
		hold("end", all(t, shared, hello, changed(end, i, 1<<(i%8))), 0, 1, 2, 3, 7, 8, 10, 11)
	}
	hold("nothing", all(t, shared, hello, end), 0, 1, 2, 3, 4, 5, 6, 7, 8, 9, 10, 11, 12, 13, 14, 15, 16, 17, 18, 19, 20)
}

// P15.5: nothing is kept from call to call, not even where calls go on at the same time.
func TestCallsAtTheSameTime(t *testing.T) {
	want := make([][]string, 8)
	for i := range want {
		want[i] = all(t, drawn(int64(i), 32), drawn(int64(i+10), 32), drawn(int64(i+20), 32))
	}
	var group sync.WaitGroup
	for i := range want {
		group.Go(func() {
			for range 20 {
				x, _ := sched.Handshake(drawn(int64(i), 32), drawn(int64(i+10), 32))
				y, e := sched.Master(x, drawn(int64(i+20), 32))
				if x.Base != want[i][0] || y.Export != want[i][6] || e != api.OK {
					t.Errorf("the secrets %d are %s, %s, %v", i, told(x), told(y), e)
				}
				sched.Side("")
				sched.Export(y, strings.Repeat("x", 250), "", -1)
			}
		})
	}
	group.Wait()
}

// FuzzSecrets holds Handshake, Master, Side and Finish against the chapter's words.
func FuzzSecrets(f *testing.F) {
	f.Add(drawn(1, 32), drawn(2, 32), "", "", "")
	f.Add(drawn(1, 31), drawn(2, 33), "client", "server", "export")
	f.Add("", "", "", "", "")
	f.Fuzz(func(t *testing.T, a, b, client, server, exporter string) {
		x := holdHandshake(t, a, b)
		holdMaster(t, x, b)
		holdMaster(t, api.Secrets{Base: a, Client: client, Server: server, Export: exporter}, b)
		holdSide(t, a)
		holdFinish(t, a, b)
		// Texts that are drawn have 32 bytes seldom: their digests always do.
		x = holdHandshake(t, digestOf(a), digestOf(b))
		holdMaster(t, x, digestOf(client))
		holdSide(t, x.Client)
		holdFinish(t, x.Server, digestOf(server))
	})
}

// FuzzExport holds Export against the chapter's words.
func FuzzExport(f *testing.F) {
	f.Add(drawn(1, 32), ntsLabel, "\x00\x00\x00\x0f\x00", 32)
	f.Add(drawn(1, 32), drawn(2, 250), "", -1)
	f.Add("", "", "", 0)
	f.Fuzz(func(t *testing.T, secret, by, context string, n int) {
		holdExport(t, api.Secrets{Export: secret}, by, context, n)
		holdExport(t, api.Secrets{Base: secret, Client: by, Server: context, Export: digestOf(secret)}, by, context, n)
	})
}

func BenchmarkHandshake(b *testing.B) {
	shared, digest := drawn(1, 32), drawn(2, 32)
	for range b.N {
		sched.Handshake(shared, digest)
	}
}
