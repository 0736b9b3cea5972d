package nego_test

import (
	"math"
	"math/rand"
	"slices"
	"strings"
	"testing"

	"pendulum/api"
	"pendulum/ke"
	"pendulum/nego"
)

// answer is what a server answers that takes the way 15, with these records ahead of the end.
func answer(more ...api.KeRec) []api.KeRec {
	return slices.Concat([]api.KeRec{crit(1, "\x00\x00"), crit(4, "\x00\x0f")}, more, []api.KeRec{crit(0, "")})
}

// cookies is records of so many cookies.
func cookies(n int) []api.KeRec {
	var out []api.KeRec
	for i := range n {
		out = append(out, mild(5, drawn(int64(i), 4*(1+i%64))))
	}
	return out
}

// P19.3: answers that are accepted, written out: with a host and a port, with one of them, with none; Crit makes no difference, nor the order, nor that there is no end.
func TestAcceptDeals(t *testing.T) {
	long := drawn(1, 256)
	for _, c := range []struct {
		l    []api.KeRec
		want api.Deal
	}{
		{answer(mild(5, "cook")), api.Deal{Aead: 15, Cookies: []string{"cook"}}},
		{answer(mild(5, "cook"), mild(5, long), mild(5, "cook")), api.Deal{Aead: 15, Cookies: []string{"cook", long, "cook"}}},
		{answer(mild(5, "cook"), crit(6, "time.a")), api.Deal{Aead: 15, Cookies: []string{"cook"}, Host: "time.a"}},
		{answer(mild(5, "cook"), crit(7, "\x00\x7b")), api.Deal{Aead: 15, Cookies: []string{"cook"}, Port: 123}},
		{answer(mild(5, "cook"), crit(6, "time.a"), crit(7, "\x11\x6c")), api.Deal{Aead: 15, Cookies: []string{"cook"}, Host: "time.a", Port: 4460}},
		{[]api.KeRec{mild(7, "\xff\xff"), crit(5, "one!"), mild(4, "\x00\x11"), mild(6, "!"), mild(5, "two!"), mild(1, "\x00\x00")}, api.Deal{Aead: 17, Cookies: []string{"one!", "two!"}, Host: "!", Port: 65535}},
		{append([]api.KeRec{mild(0, "x"), crit(0, ""), mild(3, ""), crit(3, "\x00\x01"), mild(99, "\x00\x00"), mild(-1, ""), mild(8, "")}, answer(mild(5, "cook"))...), api.Deal{Aead: 15, Cookies: []string{"cook"}}},
	} {
		if got := holdAccept(t, []int{17, 15}, c.l, api.OK); !alike(got, c.want) {
			t.Errorf("Accept of %v = %v; want %v", c.l, got, c.want)
		}
	}
}

// P19.3: a KeError is told, Crit or not, at each place, whatever it and the others have; so is a record that must be known and is not, of each kind that is none.
func TestAcceptFails(t *testing.T) {
	for _, l := range [][]api.KeRec{nil, {crit(0, "")}, answer(mild(5, "cook")), answer(), answer(mild(5, "cook"), crit(99, ""))} {
		_, e := accepted([]int{15}, l)
		for i := range len(l) + 1 {
			for _, body := range []string{"", "\x00\x00", "\x00\x01", "abc"} {
				for _, r := range []api.KeRec{crit(2, body), mild(2, body)} {
					holdAccept(t, []int{15}, slices.Insert(slices.Clone(l), i, r), api.ErrState)
					holdAccept(t, []int{15}, slices.Insert(slices.Clone(l), i, r, r), api.ErrState)
				}
			}
			for _, kind := range []int{math.MinInt, -32768, -1, 8, 9, 99, 32767, 32768, math.MaxInt} {
				holdAccept(t, []int{15}, slices.Insert(slices.Clone(l), i, crit(kind, "\x00\x00")), api.ErrKind)
				holdAccept(t, []int{15}, slices.Insert(slices.Clone(l), i, mild(kind, "\x00\x00")), e)
				holdAccept(t, []int{15}, append(slices.Insert(slices.Clone(l), i, crit(kind, "")), crit(2, "")), api.ErrState)
			}
		}
	}
}

// P19.3: of KeNext no, one and two, and each Body of two bytes, and of others.
func TestAcceptNext(t *testing.T) {
	with := func(nexts ...api.KeRec) []api.KeRec {
		return append(nexts, crit(4, "\x00\x0f"), mild(5, "cook"))
	}
	good := crit(1, "\x00\x00")
	holdAccept(t, []int{15}, with(), api.ErrForm)
	holdAccept(t, []int{15}, with(good), api.OK)
	holdAccept(t, []int{15}, with(mild(1, "\x00\x00")), api.OK)
	holdAccept(t, []int{15}, with(good, good), api.ErrForm)
	holdAccept(t, []int{15}, with(good, crit(1, "")), api.ErrForm)
	holdAccept(t, []int{15}, append(with(good), mild(1, "\x00\x00")), api.ErrForm)
	holdAccept(t, []int{15}, with(good, good, good), api.ErrForm)
	for n := 1; n < 65536; n++ {
		holdAccept(t, []int{15}, with(crit(1, pairs(n))), api.ErrForm)
	}
	for _, body := range []string{"", "\x00", "\x00\x00\x00", "\x00\x00\x00\x00", "\x00\x00\x00\x01", "\x00\x01\x00\x00", strings.Repeat("\x00", 1024), strings.Repeat("\x00", 1026)} {
		holdAccept(t, []int{15}, with(crit(1, body)), api.ErrForm)
	}
}

// P19.3: of KeAead no, one and two, and Bodies of other than one number.
func TestAcceptAead(t *testing.T) {
	with := func(ways ...api.KeRec) []api.KeRec {
		return append(ways, crit(1, "\x00\x00"), mild(5, "cook"))
	}
	good := crit(4, "\x00\x0f")
	holdAccept(t, []int{15}, with(), api.ErrForm)
	holdAccept(t, []int{15}, with(good), api.OK)
	holdAccept(t, []int{15}, with(mild(4, "\x00\x0f")), api.OK)
	holdAccept(t, []int{15}, with(good, good), api.ErrForm)
	holdAccept(t, []int{15}, append(with(good), mild(4, "\x00\x11")), api.ErrForm)
	holdAccept(t, []int{15}, with(good, good, good), api.ErrForm)
	for n := range 1100 {
		fault := api.ErrForm
		if n == 2 {
			fault = api.OK
		}
		holdAccept(t, []int{15, 17}, with(crit(4, strings.Repeat("\x00\x0f", 550)[:n])), fault)
	}
}

// P19.3, P19.6: each number as the way that was taken: only a way of sealing that was offered is accepted.
func TestAcceptWays(t *testing.T) {
	rows := [][]int{nil, {}, {15}, {17}, {15, 17}, {17, 15}, {17, 17}, {16}, {0, 1, 14, 16, 18, 65535}, noWays(), append(noWays(), 17), {65551, -17}, counted(5000)}
	for _, aeads := range rows {
		for n := range 65536 {
			if n > 300 && n%251 != 0 && n < 65500 {
				continue
			}
			fault := api.ErrNumber
			if (n == 15 || n == 17) && slices.Contains(aeads, n) {
				fault = api.OK
			}
			l := []api.KeRec{crit(1, "\x00\x00"), crit(4, pairs(n)), mild(5, "cook")}
			if got := holdAccept(t, aeads, l, fault); fault == api.OK && got.Aead != n {
				t.Errorf("Accept of %v, the way %d = %v", aeads, n, got)
			}
		}
	}
}

// P19.3: from no to many cookies, of which eight are not too many; of each length, alone and among others.
func TestAcceptCookies(t *testing.T) {
	for n := range 40 {
		fault := api.OK
		switch {
		case n == 0:
			fault = api.ErrNone
		case n > 8:
			fault = api.ErrMany
		}
		holdAccept(t, []int{15}, answer(cookies(n)...), fault)
		holdAccept(t, []int{15}, answer(slices.Repeat([]api.KeRec{mild(5, "cook")}, n)...), fault)
	}
	for n := range 700 {
		fault := api.ErrLong
		if n > 0 && n <= 256 && n%4 == 0 {
			fault = api.OK
		}
		bad := mild(5, drawn(1, n))
		holdAccept(t, []int{15}, answer(bad), fault)
		for i := range 8 {
			holdAccept(t, []int{15}, answer(slices.Insert(cookies(7), i, bad)...), fault)
		}
		holdAccept(t, []int{15}, answer(slices.Insert(cookies(8), 8, bad)...), api.ErrMany)
	}
	for _, c := range []struct {
		n     int
		fault api.Errno
	}{{0, api.ErrLong}, {1, api.ErrLong}, {3, api.ErrLong}, {4, api.OK}, {5, api.ErrLong}, {256, api.OK}, {257, api.ErrLong}, {260, api.ErrLong}, {65536, api.ErrLong}} {
		holdAccept(t, []int{15}, answer(mild(5, strings.Repeat("\x00", c.n))), c.fault)
	}
}

// P19.3: KeServer not at all, once and more than once; a host of each length and each byte, and none.
func TestAcceptServer(t *testing.T) {
	with := func(more ...api.KeRec) []api.KeRec {
		return answer(append(more, mild(5, "cook"))...)
	}
	holdAccept(t, []int{15}, with(crit(6, "a"), crit(6, "a")), api.ErrTwice)
	holdAccept(t, []int{15}, with(crit(6, "a"), mild(6, "")), api.ErrTwice)
	holdAccept(t, []int{15}, append(with(mild(6, "")), mild(6, "a")), api.ErrTwice)
	holdAccept(t, []int{15}, with(slices.Repeat([]api.KeRec{crit(6, "a")}, 5)...), api.ErrTwice)
	for n := range 100 {
		fault := api.OK
		if n == 0 || n > 64 {
			fault = api.ErrName
		}
		holdAccept(t, []int{15}, with(crit(6, strings.Repeat("!", n))), fault)
		holdAccept(t, []int{15}, with(mild(6, strings.Repeat("~", n))), fault)
	}
	for _, s := range append(noHosts(), "") {
		holdAccept(t, []int{15}, with(crit(6, s)), api.ErrName)
	}
	for b := range 256 {
		fault := api.ErrName
		if b >= 33 && b <= 126 {
			fault = api.OK
		}
		s := string([]byte{byte(b)})
		for _, host := range []string{s, s + "a", "a" + s, "ab" + s + "cd", s + strings.Repeat("a", 63), strings.Repeat("a", 63) + s} {
			holdAccept(t, []int{15}, with(crit(6, host)), fault)
		}
	}
}

// P19.3: KePort not at all, once and more than once; each port, and a Body of other than one number.
func TestAcceptPort(t *testing.T) {
	with := func(more ...api.KeRec) []api.KeRec {
		return answer(append(more, mild(5, "cook"))...)
	}
	good := crit(7, "\x00\x7b")
	holdAccept(t, []int{15}, with(good, good), api.ErrTwice)
	holdAccept(t, []int{15}, with(good, mild(7, "")), api.ErrTwice)
	holdAccept(t, []int{15}, append(with(mild(7, "\x00\x00")), good), api.ErrTwice)
	holdAccept(t, []int{15}, with(good, good, good), api.ErrTwice)
	holdAccept(t, []int{15}, with(good, crit(6, "a")), api.OK)
	holdAccept(t, []int{15}, with(good, crit(6, "a"), crit(6, "b")), api.ErrTwice)
	holdAccept(t, []int{15}, with(good, good, crit(6, "a")), api.ErrTwice)
	holdAccept(t, []int{15}, with(crit(7, "\x00\x00")), api.ErrNumber)
	for n := 1; n < 65536; n++ {
		holdAccept(t, []int{15}, with(crit(7, pairs(n))), api.OK)
	}
	for n := range 1100 {
		if n != 2 {
			holdAccept(t, []int{15}, with(crit(7, strings.Repeat("\x00\x7b", 550)[:n])), api.ErrNumber)
			holdAccept(t, []int{15}, with(mild(7, strings.Repeat("\x00", n))), api.ErrNumber)
		}
	}
}

// part is some records of an answer, and which of the errors they bring, by its place in order.
type part struct {
	l    []api.KeRec
	rank int
}

// order is the errors in the order in which the chapter names them, none behind them.
var order = []api.Errno{api.ErrState, api.ErrKind, api.ErrForm, api.ErrForm, api.ErrNumber, api.ErrNone, api.ErrMany, api.ErrLong, api.ErrTwice, api.ErrName, api.ErrNumber, api.OK}

// parts are all that an answer may have of each kind, to clients that offer 15 and 16.
func parts() [][]part {
	next, way, cook, host, port := crit(1, "\x00\x00"), crit(4, "\x00\x0f"), mild(5, "cook"), crit(6, "a"), crit(7, "\x00\x7b")
	return [][]part{
		{{nil, 11}, {[]api.KeRec{crit(2, "\x00\x01")}, 0}},
		{{nil, 11}, {[]api.KeRec{crit(8, "")}, 1}, {[]api.KeRec{crit(-1, "")}, 1}},
		{{[]api.KeRec{next}, 11}, {nil, 2}, {[]api.KeRec{next, next}, 2}, {[]api.KeRec{crit(1, "\x00\x01")}, 2}},
		{{[]api.KeRec{way}, 11}, {nil, 3}, {[]api.KeRec{way, way}, 3}, {[]api.KeRec{crit(4, "")}, 3}, {[]api.KeRec{crit(4, "\x00\x11")}, 4}, {[]api.KeRec{crit(4, "\x00\x10")}, 4}},
		{{[]api.KeRec{cook}, 11}, {nil, 5}, {slices.Repeat([]api.KeRec{cook}, 9), 6}, {slices.Repeat([]api.KeRec{mild(5, "")}, 9), 6}, {[]api.KeRec{cook, mild(5, "cooks")}, 7}},
		{{nil, 11}, {[]api.KeRec{host}, 11}, {[]api.KeRec{host, host}, 8}, {[]api.KeRec{crit(6, ""), crit(6, " ")}, 8}, {[]api.KeRec{crit(6, " ")}, 9}},
		{{nil, 11}, {[]api.KeRec{port}, 11}, {[]api.KeRec{port, port}, 8}, {[]api.KeRec{crit(7, ""), crit(7, "")}, 8}, {[]api.KeRec{crit(7, "\x00\x00")}, 10}},
	}
}

// rows goes through all that may be made of one of each part.
func rows(of [][]part, l []api.KeRec, rank int, yield func([]api.KeRec, int)) {
	if len(of) == 0 {
		yield(l, rank)
		return
	}
	for _, p := range of[0] {
		rows(of[1:], slices.Concat(l, p.l), min(rank, p.rank), yield)
	}
}

// P19.3, rules 0.2 and 0.3: of all errors together the one that the chapter names first is told, in whatever order the records stand, and no deal beside it.
func TestAcceptWhichFirst(t *testing.T) {
	seen := 0
	rows(parts(), nil, 11, func(l []api.KeRec, rank int) {
		seen++
		holdAccept(t, []int{15, 16}, l, order[rank])
		back := slices.Clone(l)
		slices.Reverse(back)
		holdAccept(t, []int{15, 16}, back, order[rank])
		rand.New(rand.NewSource(int64(seen))).Shuffle(len(back), func(i, j int) { back[i], back[j] = back[j], back[i] })
		holdAccept(t, []int{16, 15, 15}, back, order[rank])
		if rank == 11 {
			holdAccept(t, []int{16, 17}, back, api.ErrNumber)
		}
	})
	if seen != 2*3*4*6*5*5*5 {
		t.Errorf("%d answers were made", seen)
	}
}

// P19.3: drawn records, by the chapter's words.
func TestAcceptDrawn(t *testing.T) {
	fine := 0
	for seed := range int64(20000) {
		l, aeads := drawnRecords(seed), drawnWays(seed)
		if seed%2 == 0 {
			aeads = append(aeads, 15, 17)
		}
		_, e := accepted(aeads, l)
		holdAccept(t, aeads, l, e)
		if e == api.OK {
			fine++
		}
	}
	if fine < 500 {
		t.Errorf("only %d drawn answers were accepted", fine)
	}
}

// Rule 0.5: what Accept tells is its caller's: who changes it changes nothing of what is told later, nor of what it was given.
func TestAcceptIsNewMemory(t *testing.T) {
	l := answer(mild(5, "one!"), mild(5, "two!"))
	first, _ := nego.Accept([]int{15}, l)
	second, _ := nego.Accept([]int{15}, l)
	first.Cookies[0] = "gone"
	l[2].Body = "gone"
	if !slices.Equal(second.Cookies, []string{"one!", "two!"}) || l[3].Body != "two!" {
		t.Errorf("Accept told %v, of %v", second, l)
	}
}

// P19.3: Same of deals that differ in one field alone, or in the rows' lengths, or in nothing; whatever they have.
func TestSame(t *testing.T) {
	deal := func() api.Deal {
		return api.Deal{Aead: 15, Cookies: []string{"one", "two"}, Host: "a", Port: 1}
	}
	others := []api.Deal{{}}
	for _, change := range []func(*api.Deal){
		func(d *api.Deal) { d.Aead = 17 },
		func(d *api.Deal) { d.Aead = 1<<32 + 15 },
		func(d *api.Deal) { d.Cookies = nil },
		func(d *api.Deal) { d.Cookies = d.Cookies[:1] },
		func(d *api.Deal) { d.Cookies = append(d.Cookies, "") },
		func(d *api.Deal) { d.Cookies = append(d.Cookies, "two") },
		func(d *api.Deal) { d.Cookies[0] = "two" },
		func(d *api.Deal) { d.Cookies[1] = "one" },
		func(d *api.Deal) { d.Cookies[1] = "two\x00" },
		func(d *api.Deal) { d.Cookies[0], d.Cookies[1] = d.Cookies[1], d.Cookies[0] },
		func(d *api.Deal) { d.Cookies[0], d.Cookies[1] = "onetwo", "" },
		func(d *api.Deal) { d.Host = "" },
		func(d *api.Deal) { d.Host = "A" },
		func(d *api.Deal) { d.Port = 0 },
		func(d *api.Deal) { d.Port = 65537 },
		func(d *api.Deal) { d.Aead, d.Port = d.Port, d.Aead },
	} {
		d := deal()
		change(&d)
		others = append(others, d)
	}
	for i, a := range others {
		if nego.Same(a, deal()) || nego.Same(deal(), a) {
			t.Errorf("%v is the same as %v", a, deal())
		}
		for j, b := range others {
			if nego.Same(a, b) != (i == j) {
				t.Errorf("Same of %v and %v = %v", a, b, i != j)
			}
		}
	}
	if !nego.Same(deal(), deal()) {
		t.Errorf("%v is not the same as itself", deal())
	}
	if !nego.Same(api.Deal{}, api.Deal{Cookies: []string{}}) || !nego.Same(api.Deal{Cookies: []string{}}, api.Deal{}) {
		t.Error("a list that is empty is not the same as none")
	}
}

// FuzzAccept looks for what is accepted or refused otherwise than by the chapter's words.
func FuzzAccept(f *testing.F) {
	for seed := range int64(20) {
		s, _ := ke.Write(drawnRecords(seed))
		f.Add(s, "\x0f\x11")
	}
	s, _ := ke.Write(answer(mild(5, "cook"), crit(6, "a"), crit(7, "\x00\x7b")))
	f.Add(s, "\x0f")
	f.Add("\x03\x02\x00\x00\x09\x02\x00\x0f\x0a\x04cook\x0d\x01a\x0f\x02\x00\x01", "\x0f")
	f.Fuzz(func(t *testing.T, s, ways string) {
		l, aeads := recordsOf(s), numbersOf(ways)
		_, e := accepted(aeads, l)
		holdAccept(t, aeads, l, e)
	})
}
