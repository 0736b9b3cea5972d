package nego_test

import (
	"math"
	"math/rand"
	"slices"
	"strings"
	"testing"

	"pendulum/api"
	"pendulum/ke"
	"pendulum/nego"
)

// both is a server that has both ways of sealing, and likes the longer keys best.
func both() api.KeConf {
	return api.KeConf{Aeads: []int{17, 15}, Cookies: []string{"cook"}}
}

// asking is what a client asks that tells these Bodies.
func asking(next, aead string) []api.KeRec {
	return []api.KeRec{crit(1, next), crit(4, aead), crit(0, "")}
}

// P19.2: the chapter's examples, and other answers, written out.
func TestAnswerRecords(t *testing.T) {
	next, last := api.KeRec{Crit: true, Kind: api.KeNext, Body: "\x00\x00"}, api.KeRec{Crit: true, Kind: api.KeEnd}
	asks, _ := nego.Ask([]int{api.Siv256}, "", 0)
	for _, c := range []struct {
		c    api.KeConf
		l    []api.KeRec
		want []api.KeRec
		way  int
	}{
		{api.KeConf{Aeads: []int{api.Siv512, api.Siv256}, Cookies: []string{"cook"}}, asks,
			[]api.KeRec{next, {Crit: true, Kind: api.KeAead, Body: "\x00\x0f"}, {Kind: api.KeCookie, Body: "cook"}, last}, 15},
		{api.KeConf{}, append([]api.KeRec{{Crit: true, Kind: 99}}, asks...), []api.KeRec{{Crit: true, Kind: api.KeError, Body: "\x00\x00"}, last}, 0},
		{both(), nil, []api.KeRec{{Crit: true, Kind: api.KeError, Body: "\x00\x01"}, last}, 0},
		{both(), asking("\x80\x00", "\x00\x0f"), []api.KeRec{{Crit: true, Kind: api.KeNext}, last}, 0},
		{both(), asking("\x00\x00", "\x00\x10"), []api.KeRec{next, {Crit: true, Kind: api.KeAead}, last}, 0},
		{api.KeConf{Aeads: []int{17}, Host: "b", Port: 4460, Cookies: []string{"one", "two!"}}, asking("\x00\x00", "\x00\x11"),
			[]api.KeRec{next, {Crit: true, Kind: api.KeAead, Body: "\x00\x11"}, {Kind: api.KeCookie, Body: "one"}, {Kind: api.KeCookie, Body: "two!"},
				{Crit: true, Kind: api.KeServer, Body: "b"}, {Crit: true, Kind: api.KePort, Body: "\x11\x6c"}, last}, 17},
	} {
		holdAnswer(t, c.c, c.l, c.way)
		if got, way := nego.Answer(c.c, c.l); !slices.Equal(got, c.want) || way != c.way {
			t.Errorf("Answer of %v, to %v = %v, %d; want %v, %d", c.c, c.l, got, way, c.want, c.way)
		}
	}
}

// told is the number of an answer that is an error; -1: it is none.
func told(l []api.KeRec) int {
	if len(l) == 2 && l[0].Crit && l[0].Kind == api.KeError && l[1] == crit(0, "") {
		if numbers, ok := unpaired(l[0].Body); ok && len(numbers) == 1 {
			return numbers[0]
		}
	}
	return -1
}

// P19.2: a record that must be known and is not, at each place of what is good and what is not, is told ahead of all else; one that need not be known is passed over.
func TestAnswerUnknown(t *testing.T) {
	for _, l := range [][]api.KeRec{nil, asking("\x00\x00", "\x00\x0f"), asking("", ""), asking("\x00", "\x00\x0f"), asking("\x00\x01", "\x00\x10"), {crit(2, "\x00\x00")}} {
		want, way := answered(both(), l)
		for _, kind := range []int{math.MinInt, -32768, -1, 8, 9, 99, 16384, 32767, 32768, math.MaxInt} {
			for i := range len(l) + 1 {
				if got := holdAnswer(t, both(), slices.Insert(slices.Clone(l), i, crit(kind, "\x00\x00")), 0); told(got) != 0 {
					t.Errorf("a record of kind %d: told %v", kind, got)
				}
				if got := holdAnswer(t, both(), slices.Insert(slices.Clone(l), i, mild(kind, "\x00\x00")), way); !slices.Equal(got, want) {
					t.Errorf("a record of kind %d that need not be known: told %v; want %v", kind, got, want)
				}
			}
		}
	}
}

// P19.2: what is known and is no part of what is asked makes no difference, Crit or not, wherever it stands; nor does an end that is not there.
func TestAnswerOthers(t *testing.T) {
	want, _ := answered(both(), asking("\x00\x00", "\x00\x0f\x00\x11"))
	for _, l := range [][]api.KeRec{asking("\x00\x00", "\x00\x0f\x00\x11"), asking("\x00\x00", "\x00\x0f\x00\x11")[:2], {crit(4, "\x00\x0f\x00\x11"), crit(1, "\x00\x00")}} {
		for _, kind := range []int{0, 2, 3, 5, 6, 7} {
			for i := range len(l) + 1 {
				for _, body := range []string{"", "\x00\x01", "abc", drawn(1, 2000)} {
					for _, r := range []api.KeRec{crit(kind, body), mild(kind, body)} {
						if got := holdAnswer(t, both(), slices.Insert(slices.Clone(l), i, r, r), 17); !slices.Equal(got, want) {
							t.Errorf("beside two of kind %d: told %v; want %v", kind, got, want)
						}
					}
				}
			}
		}
	}
}

// P19.2: no, one and two KeNext, and KeAead, each Crit or not: all is refused but one of each that is Crit.
func TestAnswerHowMany(t *testing.T) {
	rows := func(r api.KeRec) [][]api.KeRec {
		soft := mild(r.Kind, r.Body)
		return [][]api.KeRec{{r}, {}, {soft}, {r, r}, {r, soft}, {soft, r}, {soft, soft}, {r, r, r}}
	}
	for i, nexts := range rows(crit(1, "\x00\x00")) {
		for j, ways := range rows(crit(4, "\x00\x0f")) {
			for _, l := range [][]api.KeRec{slices.Concat(nexts, ways), slices.Concat(ways, nexts, []api.KeRec{crit(0, "")})} {
				want, way := 1, 0
				if i == 0 && j == 0 {
					want, way = -1, 15
				}
				if got := holdAnswer(t, both(), l, way); told(got) != want {
					t.Errorf("Answer to %v = %v; want the error %d", l, got, want)
				}
			}
		}
	}
}

// P19.2: Bodies of each length: such as tell no numbers, or none at all, are refused; 512 are not too many.
func TestAnswerBodies(t *testing.T) {
	for n := range 1100 {
		want, way := -1, 15
		if n == 0 || n%2 == 1 || n > 1024 {
			want, way = 1, 0
		}
		for _, l := range [][]api.KeRec{
			asking(strings.Repeat("\x00", n), "\x00\x0f"),
			asking("\x00\x00", strings.Repeat("\x00\x0f", 550)[:n]),
			asking(strings.Repeat("\x00", n), strings.Repeat("\x00\x0f", 550)[:n]),
		} {
			if got := holdAnswer(t, both(), l, way); told(got) != want {
				t.Errorf("Answer to Bodies of %d and %d bytes = %v; want the error %d", len(l[0].Body), len(l[1].Body), got, want)
			}
		}
	}
	for _, body := range []string{"", "\x00", "\x00\x0f\x00", drawn(1, 1026), drawn(1, 1<<16), drawn(1, 1<<16+1)} {
		if got := holdAnswer(t, both(), asking(body, "\x00\x0f"), 0); told(got) != 1 {
			t.Errorf("Answer to a KeNext of %d bytes = %v", len(body), got)
		}
		if got := holdAnswer(t, both(), asking("\x00\x07", body), 0); told(got) != 1 {
			t.Errorf("Answer to a KeAead of %d bytes, which is told ahead of what is not taken, = %v", len(body), got)
		}
	}
}

// P19.2: KeNext with the number 0 at each place, and without it: then nothing of KeAead is told, whatever it offers.
func TestAnswerNext(t *testing.T) {
	for n := range 20 {
		others := make([]int, n)
		for i := range others {
			others[i] = []int{1, 256, 15, 65535, 32768}[i%5]
		}
		for i := range n + 1 {
			holdAnswer(t, both(), asking(pairs(slices.Insert(slices.Clone(others), i, 0)...), "\x00\x0f"), 15)
			holdAnswer(t, both(), asking(pairs(slices.Insert(slices.Clone(others), i, 0, 0)...), "\x00\x0f"), 15)
		}
		if n > 0 {
			for _, aead := range []string{"\x00\x0f", "\x00\x10", "\x00\x00"} {
				got := holdAnswer(t, both(), asking(pairs(others...), aead), 0)
				if !slices.Equal(got, []api.KeRec{crit(1, ""), crit(0, "")}) {
					t.Errorf("Answer to %v = %v", others, got)
				}
			}
		}
	}
	holdAnswer(t, both(), asking("\x00\x00", "\x00\x0f"), 15)
	for n := 1; n < 65536; n++ {
		holdAnswer(t, both(), asking(pairs(n), "\x00\x0f"), 0)
	}
}

// P19.2: each number alone, offered to a server that has it and others: what is no way of sealing is never taken.
func TestAnswerEachWay(t *testing.T) {
	for n := range 65536 {
		way := 0
		if sizes[n] > 0 {
			way = n
		}
		holdAnswer(t, api.KeConf{Aeads: []int{n}, Cookies: []string{"c"}}, asking("\x00\x00", pairs(n)), way)
		holdAnswer(t, both(), asking("\x00\x00", pairs(n)), way)
		holdAnswer(t, api.KeConf{Aeads: []int{n, 15}}, asking("\x00\x00", pairs(n, 15)), max(way, 15))
	}
	for _, n := range noWays() {
		holdAnswer(t, api.KeConf{Aeads: []int{n}}, asking("\x00\x00", "\x00\x0f\x00\x11\x00\x00"), 0)
		holdAnswer(t, api.KeConf{Aeads: []int{n, 17, n, 15}}, asking("\x00\x00", pairs(n, 15, n, 17)), 17)
	}
}

// P19.2: the first one of the server's that is offered is taken, in whatever order the client offers.
func TestAnswerOrder(t *testing.T) {
	rows := [][]int{{15}, {17}, {15, 17}, {17, 15}, {1, 15, 17}, {15, 2, 17}, {17, 17, 15}, {3, 4}, {0, 17, 65535}}
	for _, aeads := range append(rows, nil, []int{}, []int{65551, 17, 15}, []int{-1, 15, 17}) {
		for _, offers := range rows {
			way := 0
			for _, n := range slices.Backward(aeads) {
				if sizes[n] > 0 && slices.Contains(offers, n) {
					way = n
				}
			}
			c := both()
			c.Aeads = aeads
			got := holdAnswer(t, c, asking("\x00\x00", pairs(offers...)), way)
			if none := []api.KeRec{crit(1, "\x00\x00"), crit(4, ""), crit(0, "")}; slices.Equal(got, none) != (way == 0) {
				t.Errorf("Answer of %v, to %v = %v", aeads, offers, got)
			}
		}
	}
}

// P19.2: cookies, hosts and ports go out as they are, even such as no client accepts; without any of them nothing does; none of them does if there is no way.
func TestAnswerAsTheyAre(t *testing.T) {
	many := slices.Repeat([]string{"cook", "", drawn(1, 300)}, 20)
	for _, cookies := range [][]string{nil, {}, {""}, {"cook"}, {"abc"}, {"\x00", "", "\x00"}, {drawn(1, 256), drawn(2, 257), drawn(3, 5000)}, many[:8], many[:9], many} {
		for _, host := range append(noHosts(), "", "a", "time.example.org", strings.Repeat("~", 64)) {
			for _, port := range append(noNumbers(), 0, 1, 255, 256, 4460, 32768, 65535) {
				c := api.KeConf{Aeads: []int{17, 15}, Cookies: cookies, Host: host, Port: port}
				holdAnswer(t, c, asking("\x00\x00", "\x00\x0f"), 15)
				holdAnswer(t, c, asking("\x00\x00", "\x00\x10"), 0)
				holdAnswer(t, c, asking("\x00\x10", "\x00\x0f"), 0)
				holdAnswer(t, c, asking("", "\x00\x0f"), 0)
			}
		}
	}
}

// P19.2: each port alone, and modulo 65536 those that are none.
func TestAnswerPorts(t *testing.T) {
	for _, c := range []struct {
		port int
		body string
	}{{1, "\x00\x01"}, {123, "\x00\x7b"}, {4460, "\x11\x6c"}, {65535, "\xff\xff"}, {65536, "\x00\x00"}, {65537, "\x00\x01"}, {131071, "\xff\xff"},
		{-1, "\xff\xff"}, {-2, "\xff\xfe"}, {-32768, "\x80\x00"}, {-65535, "\x00\x01"}, {-65536, "\x00\x00"}, {-65537, "\xff\xff"}, {math.MaxInt, "\xff\xff"}, {math.MinInt, "\x00\x00"}} {
		got, _ := nego.Answer(api.KeConf{Aeads: []int{15}, Port: c.port}, asking("\x00\x00", "\x00\x0f"))
		if want := []api.KeRec{crit(1, "\x00\x00"), crit(4, "\x00\x0f"), crit(7, c.body), crit(0, "")}; !slices.Equal(got, want) {
			t.Errorf("Answer of the port %d = %v; want %v", c.port, got, want)
		}
	}
	for port := -70000; port <= 140000; port++ {
		holdAnswer(t, api.KeConf{Aeads: []int{15}, Port: port}, asking("\x00\x00", "\x00\x0f"), 15)
	}
}

// Rule 0.5: what Answer tells is its caller's: who changes it changes nothing of what is told later, nor of what it was given.
func TestAnswerIsNewMemory(t *testing.T) {
	c := api.KeConf{Aeads: []int{15}, Cookies: []string{"one", "two"}, Host: "a", Port: 1}
	l := asking("\x00\x00", "\x00\x0f")
	first, _ := nego.Answer(c, l)
	second, _ := nego.Answer(c, l)
	for i := range first {
		first[i] = api.KeRec{Kind: -1}
	}
	c.Cookies[0], l[0].Body = "gone", "gone"
	want := []api.KeRec{crit(1, "\x00\x00"), crit(4, "\x00\x0f"), mild(5, "one"), mild(5, "two"), crit(6, "a"), crit(7, "\x00\x01"), crit(0, "")}
	if !slices.Equal(second, want) || c.Cookies[1] != "two" || l[1].Body != "\x00\x0f" {
		t.Errorf("Answer told %v, of %v", second, c)
	}
}

// drawnRecords are records that may be asked or answered, or nearly: most are those that matter.
func drawnRecords(seed int64) []api.KeRec {
	r := rand.New(rand.NewSource(seed))
	bodies := []string{"", "\x00\x00", "\x00\x00", "\x00\x0f", "\x00\x0f", "\x00\x11", "\x00\x11\x00\x0f", "\x00\x10", "\x00\x0f\x00", "\x00", "\x01\x00\x00\x00", "cook", "cookie..", "time.a", "a b", drawn(seed, 256), drawn(seed, 260)}
	pick := func(of ...string) string { return of[r.Intn(len(of))] }
	out := []api.KeRec{
		crit(1, pick("\x00\x00", "\x00\x00", "\x00\x00", pick(bodies...))),
		crit(4, pick("\x00\x0f", "\x00\x11", "\x00\x0f\x00\x11", pick(bodies...))),
	}
	for range r.Intn(4) * r.Intn(4) {
		out = append(out, mild(5, pick("cook", drawn(seed, 256), "cook", "cook", pick(bodies...))))
	}
	for range r.Intn(5) / 3 {
		out = append(out, crit(6, pick("time.a", "b", pick(bodies...))))
	}
	for range r.Intn(5) / 3 {
		out = append(out, crit(7, pick("\x00\x7b", "\xff\xff", pick(bodies...))))
	}
	for range r.Intn(6) / 3 {
		i := r.Intn(len(out) + 1)
		out = slices.Insert(out, i, api.KeRec{Crit: r.Intn(3) > 0, Kind: r.Intn(11) - 1, Body: pick(bodies...)})
	}
	if r.Intn(5) == 0 {
		out = slices.Delete(out, 0, 1+r.Intn(len(out)))
	}
	if r.Intn(5) == 0 {
		r.Shuffle(len(out), func(i, j int) { out[i], out[j] = out[j], out[i] })
	}
	return append(out, crit(0, ""))
}

// drawnWays are numbers that may be ways of sealing.
func drawnWays(seed int64) []int {
	r := rand.New(rand.NewSource(seed))
	var out []int
	for range r.Intn(5) {
		out = append(out, []int{15, 17, 16, 0, 65551, -17}[r.Intn(6)])
	}
	return out
}

// P19.2: drawn records, by the chapter's words.
func TestAnswerDrawn(t *testing.T) {
	taken := 0
	for seed := range int64(20000) {
		c := api.KeConf{Aeads: drawnWays(seed), Cookies: []string{"cook", drawn(seed, 8)}, Host: []string{"", "a"}[seed%2], Port: int(seed % 3)}
		l := drawnRecords(seed)
		_, way := answered(c, l)
		holdAnswer(t, c, l, way)
		if way > 0 {
			taken++
		}
	}
	if taken < 3000 || taken > 17000 {
		t.Errorf("a way was taken %d times", taken)
	}
}

// recordsOf is any records, as a fuzzer tells them: what is read of a text, or else records of few bytes, of kinds that matter.
func recordsOf(s string) []api.KeRec {
	if l, _, e := ke.Read(s); e == api.OK {
		return l
	}
	var out []api.KeRec
	for len(s) > 1 {
		n := min(int(s[1]), len(s)-2)
		out = append(out, api.KeRec{Crit: s[0]&1 == 1, Kind: int(int8(s[0])) >> 1, Body: s[2 : 2+n]})
		s = s[2+n:]
	}
	return out
}

// FuzzAnswer looks for answers other than by the chapter's words.
func FuzzAnswer(f *testing.F) {
	for seed := range int64(20) {
		s, _ := ke.Write(drawnRecords(seed))
		f.Add(s, "\x0f\x11", "cook", "a", int(seed))
	}
	f.Add("\x03\x02\x00\x00\x09\x02\x00\x0f", "\x0f", "", "", 65536)
	f.Fuzz(func(t *testing.T, s, ways, cookies, host string, port int) {
		c := api.KeConf{Aeads: numbersOf(ways), Cookies: strings.Split(cookies, ","), Host: host, Port: port}
		l := recordsOf(s)
		_, way := answered(c, l)
		holdAnswer(t, c, l, way)
	})
}
