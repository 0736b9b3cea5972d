package cert_test

import (
	"math"
	"math/big"
	"math/rand"
	"slices"
	"strings"
	"testing"

	"pendulum/api"
	"pendulum/cert"
	"pendulum/ecdsa"
	"pendulum/sha"
)

// now is within the times of all links, unless a test says otherwise.
const now = 500

// The chapter's example.
func TestExample(t *testing.T) {
	root := api.Cert{Issuer: "r", Subject: "r", To: 1000, Key: keyOf(t, 1), Ca: true}
	leaf := mustMake(t, api.Cert{Issuer: "r", Subject: "s", To: 1000, Key: keyOf(t, 2), Names: []string{"*.a"}}, 1, 2)
	l := []string{mustWrite(t, leaf)}
	mustTrust(t, l, []api.Cert{root}, "x.a", 500, keyOf(t, 2))
	mustNotTrust(t, l, []api.Cert{root}, "y.x.a", 500, api.ErrName)
	mustNotTrust(t, l, []api.Cert{root}, "x.a", 1001, api.ErrTime)
}

func mustTrust(t testing.TB, l []string, roots []api.Cert, name string, now int64, want api.Point) {
	t.Helper()
	if got, e := cert.Chain(l, roots, name, now); got != want || e != api.OK {
		t.Fatalf("Chain = %v, %v; want %v", got, e, want)
	}
}

func mustNotTrust(t testing.TB, l []string, roots []api.Cert, name string, now int64, want api.Errno) {
	t.Helper()
	if got, e := cert.Chain(l, roots, name, now); got != (api.Point{}) || e != want {
		t.Fatalf("Chain = %v, %v; want nothing, %v", got, e, want)
	}
}

// secret is the secret number of the link at a place: each signs the one ahead of it, and the root behind all of them the last one.
func secret(place int) uint64 {
	return uint64(20 + place)
}

func subject(place int) string {
	return "link " + string(rune('0'+place))
}

// linkAt is the certificate at a place, which is not signed yet.
func linkAt(t testing.TB, place int) api.Cert {
	t.Helper()
	c := api.Cert{Serial: api.Num{uint64(place)}, Issuer: subject(place + 1), Subject: subject(place), From: 100, To: 1000, Key: keyOf(t, secret(place)), Ca: place > 0}
	if place == 0 {
		c.Names = []string{"b", "*.a"}
	}
	return c
}

func rootOf(t testing.TB, length int) api.Cert {
	t.Helper()
	c := linkAt(t, length)
	c.Issuer = c.Subject
	return c
}

// signedBy is a certificate with its Sign by a secret number. Signing takes long: what was signed once is kept.
func signedBy(t testing.TB, kept map[string]api.Sign, c api.Cert, d uint64) api.Cert {
	t.Helper()
	id := tbsByWords(c) + string([]byte{byte(d)})
	if _, ok := kept[id]; !ok {
		kept[id] = mustMake(t, c, d, 1000+d).Sign
	}
	c.Sign = kept[id]
	return c
}

// chainOf is a row that is trusted by rootOf.
func chainOf(t testing.TB, kept map[string]api.Sign, length int) []api.Cert {
	t.Helper()
	var out []api.Cert
	for i := range length {
		out = append(out, signedBy(t, kept, linkAt(t, i), secret(i+1)))
	}
	return out
}

func allWritten(t testing.TB, l []api.Cert) []string {
	t.Helper()
	var out []string
	for _, c := range l {
		out = append(out, mustWrite(t, c))
	}
	return out
}

// P12.5: rows of 1 to 4 are trusted, of none and of 5 not.
func TestChainLengths(t *testing.T) {
	kept := map[string]api.Sign{}
	for n := 1; n <= 4; n++ {
		l := allWritten(t, chainOf(t, kept, n))
		roots := []api.Cert{rootOf(t, n)}
		mustTrust(t, l, roots, "x.a", now, keyOf(t, secret(0)))
		mustTrust(t, l, roots, "B", now, keyOf(t, secret(0)))
		mustNotTrust(t, l, roots, "c", now, api.ErrName)
		mustNotTrust(t, l, nil, "x.a", now, api.ErrTrust)
		mustNotTrust(t, l, []api.Cert{rootOf(t, n+1)}, "x.a", now, api.ErrTrust)
	}
	mustNotTrust(t, nil, []api.Cert{rootOf(t, 0)}, "x.a", now, api.ErrShort)
	mustNotTrust(t, []string{}, nil, "", math.MinInt64, api.ErrShort)
	five := allWritten(t, chainOf(t, kept, 5))
	mustNotTrust(t, five, []api.Cert{rootOf(t, 5)}, "x.a", now, api.ErrMany)
	mustTrust(t, five[:4], []api.Cert{rootOf(t, 4)}, "x.a", now, keyOf(t, secret(0)))
	mustNotTrust(t, make([]string, 5), nil, "", 0, api.ErrMany)
	mustNotTrust(t, []string{"", "", "", "", strings.Repeat("x", 5000)}, nil, "", 0, api.ErrMany)
	mustNotTrust(t, make([]string, 100000), nil, "", 0, api.ErrMany)
	mustNotTrust(t, make([]string, 4), nil, "", 0, api.ErrForm)
}

// P12.5: now is held against both times of every certificate, both of them within.
func TestChainTimes(t *testing.T) {
	kept := map[string]api.Sign{}
	for n := 1; n <= 3; n++ {
		for place := range n + 1 { // the last one is the root
			list := chainOf(t, kept, n)
			root := rootOf(t, n)
			fault := api.ErrTime
			if place == n {
				root.From, root.To = 400, 600
				fault = api.ErrTrust
			} else {
				list[place].From, list[place].To = 400, 600
				list[place] = signedBy(t, kept, list[place], secret(place+1))
			}
			l, roots := allWritten(t, list), []api.Cert{root}
			for _, when := range []int64{400, 401, 599, 600} {
				mustTrust(t, l, roots, "b", when, list[0].Key)
			}
			for _, when := range []int64{101, 399, 601, 999} {
				mustNotTrust(t, l, roots, "b", when, fault)
			}
			for _, when := range []int64{99, 1001, math.MinInt64, math.MaxInt64, api.LeastTime, api.MostTime, -500} {
				mustNotTrust(t, l, roots, "b", when, api.ErrTime)
			}
		}
	}
}

// P12.5: times that are the least and the greatest, and one second alone.
func TestChainTimeEdges(t *testing.T) {
	kept := map[string]api.Sign{}
	c, root := linkAt(t, 0), rootOf(t, 1)
	root.From, root.To = math.MinInt64, math.MaxInt64 // roots need not be fit
	for _, x := range []struct{ from, to int64 }{{api.LeastTime, api.MostTime}, {api.LeastTime, api.LeastTime}, {api.MostTime, api.MostTime}, {0, 0}, {-1, 1}} {
		c.From, c.To = x.from, x.to
		l := []string{mustWrite(t, signedBy(t, kept, c, secret(1)))}
		mustTrust(t, l, []api.Cert{root}, "b", x.from, c.Key)
		mustTrust(t, l, []api.Cert{root}, "b", x.to, c.Key)
		mustNotTrust(t, l, []api.Cert{root}, "b", x.from-1, api.ErrTime)
		mustNotTrust(t, l, []api.Cert{root}, "b", x.to+1, api.ErrTime)
	}
}

// fault is something that is wrong with the link at a place, and what is told of it.
type fault struct {
	name  string
	first int // the first place at which it can be
	stage int // when it is told: 0 for a text; of a certificate 1 for its time, 2 for who should have signed it, 3 for whether that one did
	want  api.Errno
	edit  func(t testing.TB, list []api.Cert, place int) // ahead of signing
	sign  func(c *api.Cert)                              // behind it
	text  func(s string) string
	shift int // how many places ahead of its own it is told
}

func faults() []fault {
	return []fault{
		{name: "not a certificate", stage: 0, want: api.ErrForm, text: func(s string) string { return s[:len(s)-1] }},
		{name: "too long", stage: 0, want: api.ErrLong, text: func(s string) string { return s + strings.Repeat("x", 2048) }},
		{name: "early", stage: 1, want: api.ErrTime, edit: func(_ testing.TB, l []api.Cert, i int) { l[i].From = now + 1 }},
		{name: "late", stage: 1, want: api.ErrTime, edit: func(_ testing.TB, l []api.Cert, i int) { l[i].To = now - 1 }},
		{name: "not Ca", first: 1, shift: 1, stage: 2, want: api.ErrTrust, edit: func(_ testing.TB, l []api.Cert, i int) { l[i].Ca = false }},
		{name: "another Subject", first: 1, shift: 1, stage: 2, want: api.ErrTrust, edit: func(_ testing.TB, l []api.Cert, i int) { l[i].Subject = "nobody" }},
		{name: "another Key", first: 1, shift: 1, stage: 3, want: api.ErrSign, edit: func(t testing.TB, l []api.Cert, i int) { l[i].Key = keyOf(t, 99) }},
		{name: "an R of 0", stage: 3, want: api.ErrNumber, sign: func(c *api.Cert) { c.Sign.R = api.Num{} }},
		{name: "the greatest S", stage: 3, want: api.ErrNumber, sign: func(c *api.Cert) { c.Sign.S = top() }},
		{name: "another Sign", stage: 3, want: api.ErrSign, sign: func(c *api.Cert) { c.Sign.S[0] ^= 1 }},
		{name: "both exchanged", stage: 3, want: api.ErrSign, sign: func(c *api.Cert) { c.Sign.R, c.Sign.S = c.Sign.S, c.Sign.R }},
	}
}

// faultAt is a fault, and the place of the link that has it.
type faultAt struct {
	fault
	place int
}

// rank is when a fault is told: the least one of several is.
func (f faultAt) rank() int {
	if f.stage == 0 {
		return f.place
	}
	return 100 + 10*(f.place-f.shift) + f.stage
}

// told is the error of a fault: the last one's signature is asked of roots, who tell no more than that there is none.
func (f faultAt) told(length int) api.Errno {
	if f.stage > 1 && f.place-f.shift == length-1 {
		return api.ErrTrust
	}
	return f.want
}

// withFaults is a row with some faults, as texts.
func withFaults(t testing.TB, kept map[string]api.Sign, length int, list ...faultAt) []string {
	t.Helper()
	var certs []api.Cert
	for i := range length {
		certs = append(certs, linkAt(t, i))
	}
	for _, f := range list {
		if f.edit != nil {
			f.edit(t, certs, f.place)
		}
	}
	for i := range certs {
		certs[i] = signedBy(t, kept, certs[i], secret(i+1))
	}
	for _, f := range list {
		if f.sign != nil {
			f.sign(&certs[f.place])
		}
	}
	out := allWritten(t, certs)
	for _, f := range list {
		if f.text != nil {
			out[f.place] = f.text(out[f.place])
		}
	}
	return out
}

// P12.5: each fault alone, at each place of rows of all lengths.
func TestChainFaults(t *testing.T) {
	kept := map[string]api.Sign{}
	for n := 1; n <= 4; n++ {
		for _, f := range faults() {
			for place := f.first; place < n; place++ {
				x := faultAt{f, place}
				l := withFaults(t, kept, n, x)
				if got, e := cert.Chain(l, []api.Cert{rootOf(t, n)}, "b", now); got != (api.Point{}) || e != x.told(n) {
					t.Errorf("%s at %d of %d: Chain = %v, %v; want %v", f.name, place, n, got, e, x.told(n))
				}
				want := api.ErrName
				if f.stage == 0 {
					want = f.want
				}
				mustNotTrust(t, l, []api.Cert{rootOf(t, n)}, "c", now, want)
			}
		}
	}
}

// P12.5: of two faults the one is told that comes ahead: all texts, the name, then each certificate's time and signature, from the first one on.
func TestWhichFault(t *testing.T) {
	const n = 3
	kept := map[string]api.Sign{}
	var list []faultAt
	for _, f := range faults() {
		for place := f.first; place < n; place++ {
			list = append(list, faultAt{f, place})
		}
	}
	roots := []api.Cert{rootOf(t, n)}
	for i, a := range list {
		for _, b := range list[:i] {
			if a.rank() == b.rank() { // neither is ahead of the other
				continue
			}
			first := a
			if b.rank() < a.rank() {
				first = b
			}
			l := withFaults(t, kept, n, a, b)
			if got, e := cert.Chain(l, roots, "b", now); got != (api.Point{}) || e != first.told(n) {
				t.Errorf("%s at %d and %s at %d: Chain = %v, %v; want %v", a.name, a.place, b.name, b.place, got, e, first.told(n))
			}
		}
	}
}

// chainByWords is the chapter's sentence, with certificates as they are read and signatures by Go's own library.
func chainByWords(list []api.Cert, roots []api.Cert, name string, now int64) (api.Point, api.Errno) {
	outside := func(n api.Num) bool { return n == (api.Num{}) || value(n).Cmp(order()) >= 0 }
	if !slices.ContainsFunc(list[0].Names, func(own string) bool { return fitsByWords(own, name) }) {
		return api.Point{}, api.ErrName
	}
	for i, c := range list {
		if now < c.From || now > c.To {
			return api.Point{}, api.ErrTime
		}
		if i == len(list)-1 {
			break
		}
		behind := list[i+1]
		switch {
		case !behind.Ca || behind.Subject != c.Issuer:
			return api.Point{}, api.ErrTrust
		case outside(c.Sign.R) || outside(c.Sign.S):
			return api.Point{}, api.ErrNumber
		case !holdsByLibrary(behind.Key, tbsByWords(c), c.Sign):
			return api.Point{}, api.ErrSign
		}
	}
	last := list[len(list)-1]
	for _, r := range roots {
		if r.Subject == last.Issuer && r.Ca && r.From <= now && now <= r.To && holdsByLibrary(r.Key, tbsByWords(last), last.Sign) {
			return list[0].Key, api.OK
		}
	}
	return api.Point{}, api.ErrTrust
}

// P12.5: rows drawn of a few certificates, trusted and not, by the words.
func TestChainByWords(t *testing.T) {
	r := rand.New(rand.NewSource(9))
	kept := map[string]api.Sign{}
	pick := func(often int) bool { return r.Intn(often) == 0 }
	draw := func(place, by int) api.Cert {
		c := linkAt(t, place)
		c.Issuer = subject(by)
		if pick(8) {
			c.Ca = !c.Ca
		}
		if pick(15) {
			c.To = now - 1
		}
		if pick(12) {
			by = r.Intn(4)
		}
		c = signedBy(t, kept, c, secret(by))
		if pick(20) {
			c.Sign.R = api.Num{}
		}
		return c
	}
	count := map[api.Errno]int{}
	for range 600 {
		n := 1 + r.Intn(4)
		var list, roots []api.Cert
		for i := range n {
			place, by := i, i+1
			if pick(10) {
				place = r.Intn(4)
			}
			if pick(12) {
				by = r.Intn(5)
			}
			list = append(list, draw(place, by))
		}
		for range r.Intn(4) {
			root := rootOf(t, n)
			if pick(3) {
				root = draw(r.Intn(5), 0)
			}
			roots = append(roots, root)
		}
		name := "b"
		if pick(15) {
			name = "y.x.a"
		}
		want, fault := chainByWords(list, roots, name, now)
		if got, e := cert.Chain(allWritten(t, list), roots, name, now); got != want || e != fault {
			t.Fatalf("Chain(%+v, %+v, %s) = %v, %v; want %v, %v", list, roots, name, got, e, want, fault)
		}
		count[fault]++
	}
	for _, e := range []api.Errno{api.OK, api.ErrName, api.ErrTime, api.ErrTrust, api.ErrSign, api.ErrNumber} {
		if count[e] < 5 {
			t.Errorf("only %d rows of %v: %v", count[e], e, count)
		}
	}
}

// P12.5: which roots are asked, and what of them.
func TestRoots(t *testing.T) {
	kept := map[string]api.Sign{}
	for _, n := range []int{1, 2} {
		l := allWritten(t, chainOf(t, kept, n))
		key := keyOf(t, secret(0))
		good := rootOf(t, n)
		with := func(edit func(*api.Cert)) api.Cert {
			c := rootOf(t, n)
			edit(&c)
			return c
		}
		bad := []api.Cert{
			with(func(c *api.Cert) { c.Ca = false }), with(func(c *api.Cert) { c.From = now + 1 }), with(func(c *api.Cert) { c.To = now - 1 }),
			with(func(c *api.Cert) { c.From, c.To = c.To, c.From }), with(func(c *api.Cert) { c.Subject = strings.ToUpper(c.Subject) }), with(func(c *api.Cert) { c.Subject = "" }),
			with(func(c *api.Cert) { c.Key = keyOf(t, 5) }), with(func(c *api.Cert) { c.Key = api.Point{} }), with(func(c *api.Cert) { c.Key.Inf = true }),
			with(func(c *api.Cert) { c.Key = api.Point{Inf: true} }), with(func(c *api.Cert) { c.Subject, c.Issuer = "r", c.Subject }), {},
		}
		for i, c := range bad {
			if got, e := cert.Chain(l, []api.Cert{c}, "b", now); got != (api.Point{}) || e != api.ErrTrust {
				t.Errorf("the bad root %d: Chain = %v, %v", i, got, e)
			}
		}
		mustNotTrust(t, l, bad, "b", now, api.ErrTrust)
		for place := range len(bad) + 1 {
			mustTrust(t, l, slices.Insert(slices.Clone(bad), place, good), "b", now, key)
		}
		for i, c := range []api.Cert{ // nothing else of a root is asked, not even whether it is fit
			with(func(c *api.Cert) { c.Issuer = "" }), with(func(c *api.Cert) { c.Issuer = "somebody" }), with(func(c *api.Cert) { c.Names = make([]string, 9) }),
			with(func(c *api.Cert) { c.Sign = api.Sign{R: top(), S: top()} }), with(func(c *api.Cert) { c.From, c.To = math.MinInt64, math.MaxInt64 }),
			with(func(c *api.Cert) { c.From, c.To = now, now }), with(func(c *api.Cert) { c.Serial = top() }),
		} {
			if got, e := cert.Chain(l, []api.Cert{c}, "b", now); got != key || e != api.OK {
				t.Errorf("the good root %d: Chain = %v, %v", i, got, e)
			}
		}
	}
}

// P12.5: roots are asked for the last certificate alone; and nothing is asked of the first one but its name, its time and who signed it.
func TestWhoIsAsked(t *testing.T) {
	kept := map[string]api.Sign{}
	list := chainOf(t, kept, 2)
	stranger := signedBy(t, kept, func() api.Cert { c := linkAt(t, 1); c.Subject = "nobody"; return c }(), secret(2))
	roots := []api.Cert{rootOf(t, 1), rootOf(t, 2)}
	mustTrust(t, allWritten(t, list[:1]), roots, "b", now, list[0].Key)
	mustNotTrust(t, allWritten(t, []api.Cert{list[0], stranger}), roots, "b", now, api.ErrTrust)
	mustTrust(t, allWritten(t, list), roots[1:], "b", now, list[0].Key)
	mustNotTrust(t, allWritten(t, list), roots[:1], "b", now, api.ErrTrust)
	mustNotTrust(t, allWritten(t, []api.Cert{list[1], list[0]}), roots, "b", now, api.ErrName)

	self := linkAt(t, 1)
	self.Issuer, self.Names = self.Subject, []string{"b"}
	self = signedBy(t, kept, self, secret(1))
	for n := 1; n <= 4; n++ { // who signs for themselves is trusted by being a root
		mustTrust(t, slices.Repeat([]string{mustWrite(t, self)}, n), []api.Cert{self}, "b", now, self.Key)
		mustNotTrust(t, slices.Repeat([]string{mustWrite(t, self)}, n), roots[1:], "b", now, api.ErrTrust)
	}
	for _, ca := range []bool{false, true} {
		c := linkAt(t, 0)
		c.Ca = ca
		mustTrust(t, []string{mustWrite(t, signedBy(t, kept, c, secret(1)))}, roots, "b", now, c.Key)
	}
	list[0].Sign.S = numOf(new(big.Int).Sub(order(), value(list[0].Sign.S))) // the other one of two signatures alike holds too
	mustTrust(t, allWritten(t, list), roots, "b", now, list[0].Key)
}

// P12.7: what is trusted is signed, link by link, from one of roots on.
func TestLinkByLink(t *testing.T) {
	kept := map[string]api.Sign{}
	for n := 1; n <= 4; n++ {
		l := allWritten(t, chainOf(t, kept, n))
		got, e := cert.Chain(l, []api.Cert{rootOf(t, 9), rootOf(t, n)}, "b", now)
		if e != api.OK {
			t.Fatalf("Chain = %v", e)
		}
		key := rootOf(t, n).Key
		for i := n - 1; i >= 0; i-- {
			c, _ := cert.Read(l[i])
			tbs := mustTbs(t, c)
			if !holdsByLibrary(key, tbs, c.Sign) || ecdsa.Check(key, sha.Of(tbs), c.Sign) != api.OK {
				t.Fatalf("the signature of %d of %d does not hold", i, n)
			}
			key = c.Key
		}
		if got != key {
			t.Errorf("Chain = %v, which is not signed", got)
		}
	}
}

// P12.7: with one byte of what is signed changed the signature does not hold, and the row is not trusted.
func TestOneByte(t *testing.T) {
	kept := map[string]api.Sign{}
	list := chainOf(t, kept, 2)
	l := allWritten(t, list)
	roots := []api.Cert{rootOf(t, 2)}
	tbs := mustTbs(t, list[0])
	from := strings.Index(l[0], tbs)
	if from < 0 {
		t.Fatal("what is signed does not stand in the certificate")
	}
	count := map[api.Errno]int{}
	for i := range len(tbs) {
		for _, x := range []byte{1, 0x20} {
			changed := tbs[:i] + string([]byte{tbs[i] ^ x}) + tbs[i+1:]
			if x == 1 && ecdsa.Check(list[1].Key, sha.Of(changed), list[0].Sign) != api.ErrSign {
				t.Errorf("the signature holds with the byte %d changed", i)
			}
			text := strings.Replace(l[0], tbs, changed, 1)
			got, e := cert.Chain([]string{text, l[1]}, roots, "b", now)
			if got != (api.Point{}) || e == api.OK {
				t.Errorf("with the byte %d changed: Chain = %v, %v", i, got, e)
			}
			count[e]++
		}
	}
	if count[api.ErrForm] < 50 || count[api.ErrSign] < 10 || count[api.ErrTrust] < 5 || count[api.ErrName] < 1 {
		t.Errorf("the errors are %v", count)
	}
	mustTrust(t, l, roots, "b", now, list[0].Key)
}

// Rule 0.5: Chain changes nothing of what it is given.
func TestChainChangesNothing(t *testing.T) {
	kept := map[string]api.Sign{}
	l := allWritten(t, chainOf(t, kept, 3))
	roots := []api.Cert{rootOf(t, 1), rootOf(t, 3)}
	roots[1].Names = []string{"x", "y"}
	texts, before := slices.Clone(l), slices.Clone(roots)
	for range 2 {
		mustTrust(t, l, roots, "b", now, keyOf(t, secret(0)))
	}
	if !slices.Equal(l, texts) || !slices.EqualFunc(roots, before, isSame) || roots[1].Names[0] != "x" || roots[1].Names[1] != "y" {
		t.Error("Chain has changed what it was given")
	}
}

func FuzzChain(f *testing.F) {
	kept := map[string]api.Sign{}
	l := allWritten(f, chainOf(f, kept, 2))
	f.Add([]byte(l[0]), []byte(l[1]), "b", int64(now))
	f.Add([]byte(l[1]), []byte(l[0]), "x.a", int64(now))
	f.Fuzz(func(t *testing.T, first, second []byte, name string, when int64) {
		texts := []string{string(first), string(second)}
		want, fault := api.Point{}, api.OK
		var list []api.Cert
		for _, s := range texts {
			c, ok := readByWords(s)
			switch {
			case fault != api.OK:
			case len(s) > 2048:
				fault = api.ErrLong
			case !ok:
				fault = api.ErrForm
			}
			list = append(list, c)
		}
		roots := []api.Cert{rootOf(t, 2)}
		if fault == api.OK {
			want, fault = chainByWords(list, roots, name, when)
		}
		if got, e := cert.Chain(texts, roots, name, when); got != want || e != fault {
			t.Fatalf("Chain = %v, %v; want %v, %v", got, e, want, fault)
		}
	})
}
