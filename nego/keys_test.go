package nego_test

import (
	"encoding/hex"
	"math/rand"
	"testing"

	"pendulum/api"
	"pendulum/cert"
	"pendulum/ecdsa"
	"pendulum/nego"
	"pendulum/tlsc"
	"pendulum/tlss"
)

// ends are both ends of a connection behind its handshake, of what a seed draws.
func ends(t testing.TB, seed int64) (api.Tls, api.Tls) {
	t.Helper()
	by, server := api.Num{7}, api.Num{2 + uint64(seed)}
	rootKey, e := ecdsa.Public(by)
	if e != api.OK {
		t.Fatal(e)
	}
	key, e := ecdsa.Public(server)
	if e != api.OK {
		t.Fatal(e)
	}
	leaf, e := cert.Make(api.Cert{Issuer: "r", Subject: "s", To: 1000, Key: key, Names: []string{"x.a"}}, by, api.Num{11})
	if e != api.OK {
		t.Fatal(e)
	}
	text, e := cert.Write(leaf)
	if e != api.OK {
		t.Fatal(e)
	}
	roots := []api.Cert{{Issuer: "r", Subject: "r", To: 1000, Key: rootKey, Ca: true}}
	c, said, e := tlsc.Start("x.a", roots, 500, drawn(5*seed, 32), drawn(5*seed+1, 32), drawn(5*seed+2, 32))
	if e != api.OK {
		t.Fatal(e)
	}
	s, e := tlss.Listen([]string{text}, server, api.Num{12345}, drawn(5*seed+3, 32), drawn(5*seed+4, 32))
	if e != api.OK {
		t.Fatal(e)
	}
	c, s = tlss.Meet(c, said, s)
	if c.State != api.TsOpen || s.State != api.TsOpen {
		t.Fatalf("the ends' states are %d and %d", c.State, s.State)
	}
	return c, s
}

// P19.4: KeySize of each way, and of numbers beside them and others.
func TestKeySize(t *testing.T) {
	if a, b := nego.KeySize(api.Siv256), nego.KeySize(api.Siv512); a != 32 || b != 64 {
		t.Errorf("KeySize = %d, %d", a, b)
	}
	for n := -70000; n < 70000; n++ {
		if got := nego.KeySize(n); got != sizes[n] {
			t.Errorf("KeySize of %d = %d; want %d", n, got, sizes[n])
		}
	}
	for _, n := range noWays() {
		if got := nego.KeySize(n); got != 0 {
			t.Errorf("KeySize of %d = %d; want 0", n, got)
		}
	}
}

// holdKeys says that Keys tells of an open end what the library makes of its secret.
func holdKeys(t testing.TB, x api.Tls, aead int) (string, string) {
	t.Helper()
	a, b, e := nego.Keys(x, aead)
	if a != key(t, x, aead, 0) || b != key(t, x, aead, 1) || e != api.OK {
		t.Errorf("Keys of the way %d = %s, %s, %v; want %s, %s", aead, hexed(a), hexed(b), e, hexed(key(t, x, aead, 0)), hexed(key(t, x, aead, 1)))
	}
	return a, b
}

// P19.4: what a client of Go's own library exported, of the same secret, for the key to the server by RFC 8915. (The secret is that of the talk that package tlss has recorded.)
func TestLibraryKey(t *testing.T) {
	of := func(s string) string {
		out, err := hex.DecodeString(s)
		if err != nil {
			t.Fatal(err)
		}
		return string(out)
	}
	x := api.Tls{State: api.TsOpen, App: api.Secrets{Export: of("e3f35bbb3cfe9fda4b6511a43e4b1696a79d125ae93476f71d6b43c6b109f7aa")}}
	if a, _ := holdKeys(t, x, api.Siv256); a != of("24d72c877fa9d7d22352eb976d7be8a9415f7eb0eea68ccc3c536ec1823d3e6d") {
		t.Errorf("Keys = %s", hexed(a))
	}
}

// P19.4, P19.6: both ends' keys are the same, of each way, and unlike for unlike ways, directions and connections.
func TestKeysOfBothEnds(t *testing.T) {
	seen := map[string]bool{}
	for seed := range int64(6) {
		c, s := ends(t, seed)
		for aead, size := range sizes {
			a, b := holdKeys(t, c, aead)
			if x, y := holdKeys(t, s, aead); x != a || y != b {
				t.Errorf("the ends' keys differ: %s, %s and %s, %s", hexed(a), hexed(b), hexed(x), hexed(y))
			}
			for _, k := range []string{a, b} {
				if len(k) != size || seen[k[:32]] {
					t.Errorf("the way %d: %d bytes, as they were: %v", aead, len(k), seen[k[:32]])
				}
				seen[k[:32]] = true
			}
		}
	}
}

// P19.6: keys stay the same whatever is sent and heard.
func TestKeysBesideTexts(t *testing.T) {
	c, s := ends(t, 9)
	a, b := holdKeys(t, c, 15)
	c, said, e := tlsc.Send(c, "tick")
	if e != api.OK {
		t.Fatal(e)
	}
	s, _, told := tlss.Feed(s, said)
	if told != "tick" {
		t.Fatalf("told %q", told)
	}
	for _, x := range []api.Tls{c, s} {
		if y, z := holdKeys(t, x, 15); y != a || z != b {
			t.Error("the keys differ behind a text")
		}
	}
}

// holdNoKeys says that Keys tells an error, and nothing beside it (rule 0.3).
func holdNoKeys(t testing.TB, x api.Tls, aead int, fault api.Errno) {
	t.Helper()
	if a, b, e := nego.Keys(x, aead); a != "" || b != "" || e != fault {
		t.Errorf("Keys in the state %d, of the way %d = %s, %s, %v; want %v", x.State, aead, hexed(a), hexed(b), e, fault)
	}
}

// P19.4, rule 0.2: no way of sealing is told ahead of an end that is not open; that has no keys, nor has one whose secret is none.
func TestKeysRefused(t *testing.T) {
	c, s := ends(t, 1)
	alone, _, _ := tlsc.Start("x.a", nil, 500, drawn(1, 32), drawn(2, 32), drawn(3, 32))
	waits, _ := tlss.Listen(nil, api.Num{1}, api.Num{1}, drawn(1, 32), drawn(2, 32))
	dead, _, _ := tlsc.Feed(c, "\x15\x03\x03\x00\x02\x02\x28")
	if dead.State != api.TsDead {
		t.Fatalf("the state %d", dead.State)
	}
	closed := []api.Tls{{}, alone, waits, dead}
	for _, state := range []int{-1, 0, 1, 2, 4, 5} {
		x := s
		x.State = state
		closed = append(closed, x)
	}
	short := []api.Tls{{State: api.TsOpen}}
	for _, size := range []int{1, 31, 33, 64} {
		x := c
		x.App.Export = drawn(1, size)
		short = append(short, x)
	}
	for _, aead := range []int{15, 17} {
		for _, x := range closed {
			holdNoKeys(t, x, aead, api.ErrState)
		}
		for _, x := range short {
			_, e := tlsc.Export(x, "", "", 1)
			holdNoKeys(t, x, aead, e)
			if e == api.OK {
				t.Error("a secret that is none is exported of")
			}
		}
	}
	for _, aead := range noWays() {
		for _, x := range append(append(closed, short...), c, s) {
			holdNoKeys(t, x, aead, api.ErrNumber)
		}
	}
	for n := range 65536 {
		if sizes[n] == 0 {
			holdNoKeys(t, c, n, api.ErrNumber)
		}
	}
}

// Rule 0.5: Keys leaves the end as it was.
func TestKeysChangeNothing(t *testing.T) {
	c, _ := ends(t, 2)
	was, _ := ends(t, 2)
	holdKeys(t, c, 15)
	if !tlsc.Same(c, was) {
		t.Error("Keys changed the end")
	}
}

// P19.4: drawn secrets, by the library; nothing else of the end makes a difference.
func TestKeysDrawn(t *testing.T) {
	r := rand.New(rand.NewSource(1))
	for seed := range int64(500) {
		secret := drawn(seed, 32)
		x := api.Tls{State: api.TsOpen, App: api.Secrets{Export: secret}}
		y := api.Tls{State: api.TsOpen, Name: "y", Random: drawn(seed, 8), App: api.Secrets{Base: drawn(seed, 32), Client: drawn(seed, 32), Server: "no secret", Export: secret}}
		aead := []int{15, 17}[r.Intn(2)]
		a, b := holdKeys(t, x, aead)
		if c, d := holdKeys(t, y, aead); c != a || d != b {
			t.Errorf("the keys of one secret differ: %s, %s", hexed(a), hexed(c))
		}
	}
}
