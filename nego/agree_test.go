package nego_test

import (
	"slices"
	"strings"
	"testing"

	"pendulum/api"
	"pendulum/ke"
	"pendulum/nego"
)

// talk lets a client ask, a server answer and the client accept; all that is said goes as bytes, if they are not too many.
func talk(t testing.TB, aeads []int, host string, port int, c api.KeConf) (api.Deal, int, api.Errno) {
	t.Helper()
	asks, e := nego.Ask(aeads, host, port)
	if e != api.OK {
		t.Fatal(e)
	}
	answers, way := nego.Answer(c, carried(t, asks))
	d, e := nego.Accept(aeads, carried(t, answers))
	return d, way, e
}

// carried is records as they come to the other end.
func carried(t testing.TB, l []api.KeRec) []api.KeRec {
	t.Helper()
	s, e := ke.Write(l)
	if e == api.ErrLong {
		return l
	}
	got, rest, f := ke.Read(s)
	if e != api.OK || f != api.OK || rest != "" || !slices.Equal(got, l) {
		t.Fatalf("%v is written and read as %v, %v, %v", l, got, e, f)
	}
	return got
}

// offers is rows of numbers that clients offer, and servers have.
func offers() [][]int {
	return [][]int{{15}, {17}, {15, 17}, {17, 15}, {1, 15}, {16, 17, 15}, {17, 0, 65535, 15}, {15, 15}, {0}, {16, 18}, {65535, 14}}
}

// P19.5: what a client asks is answered so that it accepts, with the first of the server's ways that it offers, and the server's cookies, host and port; P19.6: and the way is one that was offered.
func TestTheyAgree(t *testing.T) {
	agreed := 0
	for _, aeads := range offers() {
		for _, has := range append(offers(), append(noWays(), 15), append(noWays(), 17, 15), nil) {
			for n := 1; n <= 8; n++ {
				c := api.KeConf{Aeads: has, Host: []string{"", "b", strings.Repeat("~", 64)}[n%3], Port: []int{0, 1, 65535, 4460}[n%4]}
				for _, r := range cookies(n) {
					c.Cookies = append(c.Cookies, r.Body)
				}
				want := api.Deal{Cookies: c.Cookies, Host: c.Host, Port: c.Port}
				for _, way := range slices.Backward(has) {
					if sizes[way] > 0 && slices.Contains(aeads, way) {
						want.Aead = way
					}
				}
				for _, host := range []string{"", "a"} {
					for _, port := range []int{0, 123} {
						d, way, e := talk(t, aeads, host, port, c)
						switch {
						case way != want.Aead:
							t.Errorf("a client of %v and a server of %v: the way %d; want %d", aeads, has, way, want.Aead)
						case way == 0 && (e != api.ErrForm || !alike(d, api.Deal{})):
							t.Errorf("a client of %v and a server of %v: %v, %v", aeads, has, d, e)
						case way > 0 && (e != api.OK || !nego.Same(d, want)):
							t.Errorf("a client of %v and a server of %v: %v, %v; want %v", aeads, has, d, e, want)
						case way > 0:
							agreed++
						}
					}
				}
			}
		}
	}
	if agreed < 1000 {
		t.Errorf("they agreed only %d times", agreed)
	}
}

// P19.5: what bounds it: without cookies, with too many, with one that is none, with a host or a port that is none, the client does not accept what the server has taken.
func TestTheyDoNotAgree(t *testing.T) {
	for _, x := range []struct {
		c     api.KeConf
		fault api.Errno
	}{
		{api.KeConf{}, api.ErrNone},
		{api.KeConf{Cookies: slices.Repeat([]string{"cook"}, 9)}, api.ErrMany},
		{api.KeConf{Cookies: []string{"cook", "cookie"}}, api.ErrLong},
		{api.KeConf{Cookies: []string{""}}, api.ErrLong},
		{api.KeConf{Cookies: []string{"cook"}, Host: "a b"}, api.ErrName},
		{api.KeConf{Cookies: []string{"cook"}, Port: 65536}, api.ErrNumber},
		{api.KeConf{Cookies: []string{"cook"}, Port: -65536}, api.ErrNumber},
		{api.KeConf{Cookies: []string{"cook"}, Port: -1}, api.OK},
	} {
		x.c.Aeads = []int{15}
		d, way, e := talk(t, []int{15}, "", 0, x.c)
		if way != 15 || e != x.fault || e != api.OK && !alike(d, api.Deal{}) || e == api.OK && d.Port != 65535 {
			t.Errorf("a server of %v: the way %d, %v, %v; want %v", x.c, way, d, e, x.fault)
		}
	}
}

// P19.6: whatever a server answers, what is accepted was offered, and is a way of sealing whose keys both ends have.
func TestAcceptedWasOffered(t *testing.T) {
	c, s := ends(t, 3)
	for seed := range int64(3000) {
		aeads := drawnWays(seed)
		d, e := nego.Accept(aeads, drawnRecords(seed))
		if e != api.OK {
			continue
		}
		if !slices.Contains(aeads, d.Aead) || sizes[d.Aead] == 0 {
			t.Errorf("of %v the way %d was accepted", aeads, d.Aead)
		}
		a, b, e := nego.Keys(c, d.Aead)
		x, y, f := nego.Keys(s, d.Aead)
		if e != api.OK || f != api.OK || a != x || b != y || len(a) != nego.KeySize(d.Aead) {
			t.Errorf("Keys of the way %d: %v, %v", d.Aead, e, f)
		}
	}
}

// P19.1 to P19.4 hold for all who call at once: nothing is kept from call to call.
func TestAtOnce(t *testing.T) {
	c, _ := ends(t, 4)
	for i := range int64(8) {
		t.Run("", func(t *testing.T) {
			t.Parallel()
			for seed := range int64(300) {
				l, aeads := drawnRecords(seed+i), drawnWays(seed+i)
				_, e := asked(aeads, "a", 1)
				holdAsk(t, aeads, "a", 1, e)
				conf := api.KeConf{Aeads: aeads, Cookies: []string{"cook"}}
				_, way := answered(conf, l)
				holdAnswer(t, conf, l, way)
				_, e = accepted(aeads, l)
				holdAccept(t, aeads, l, e)
				holdKeys(t, c, 15)
			}
		})
	}
}

// Rule 0.1: each call ends in time, of many records, numbers and bytes too.
func TestMuch(t *testing.T) {
	many := slices.Repeat([]api.KeRec{crit(1, "\x00\x00"), crit(4, "\x00\x0f"), mild(5, "cook"), crit(6, "a"), crit(7, "\x00\x01")}, 100000)
	holdAccept(t, []int{15}, many, api.ErrForm)
	holdAnswer(t, both(), many, 0)
	much := strings.Repeat("cook", 1<<20)
	holdAccept(t, []int{15}, answer(mild(5, "cook"), crit(6, much)), api.ErrName)
	holdAccept(t, []int{15}, answer(mild(5, much)), api.ErrLong)
	holdAnswer(t, api.KeConf{Aeads: []int{15}, Cookies: []string{much}, Host: much}, asking("\x00\x00", "\x00\x0f"), 15)
	offers := pairs(slices.Repeat([]int{16}, 512)...)
	holdAnswer(t, api.KeConf{Aeads: slices.Repeat([]int{17}, 100000)}, asking("\x00\x00", offers), 0)
	holdAccept(t, slices.Repeat([]int{17}, 1000000), answer(mild(5, "cook")), api.ErrNumber)
	holdAsk(t, []int{15}, much, 0, api.ErrName)
}
