package ke_test

import (
	"math"
	"math/rand"
	"slices"
	"testing"

	"pendulum/api"
	"pendulum/ke"
)

// answered is what a server answers, with one of each kind but the cookies, of which there are three.
func answered() []api.KeRec {
	return []api.KeRec{
		{Crit: true, Kind: api.KeNext, Body: "\x00\x00"},
		{Crit: true, Kind: api.KeAead, Body: "\x00\x0f"},
		{Kind: api.KeCookie, Body: "first"},
		{Crit: true, Kind: api.KeServer, Body: "time.example.org"},
		{Crit: true, Kind: api.KeCookie, Body: "second"},
		{Crit: true, Kind: api.KePort, Body: "\x00\x7b"},
		{Kind: api.KeCookie, Body: "first"},
		{Kind: 99, Body: "x"},
		end(),
	}
}

// holdFind says that Find tells just those, and leaves the list as it was (rule 0.5).
func holdFind(t testing.TB, l []api.KeRec, kind int, want ...api.KeRec) {
	t.Helper()
	was := slices.Clone(l)
	if got := ke.Find(l, kind); !slices.Equal(got, want) {
		t.Errorf("Find of %d = %v; want %v", kind, got, want)
	}
	if !slices.Equal(l, was) {
		t.Errorf("Find of %d changed its records", kind)
	}
}

// P18.4: of a Kind that none has, that one has, that many have, Crit or not, alike or not: all of them in order, as they are.
func TestFind(t *testing.T) {
	l := answered()
	holdFind(t, l, api.KeEnd, l[8])
	holdFind(t, l, api.KeNext, l[0])
	holdFind(t, l, api.KeError)
	holdFind(t, l, api.KeWarn)
	holdFind(t, l, api.KeAead, l[1])
	holdFind(t, l, api.KeCookie, l[2], l[4], l[6])
	holdFind(t, l, api.KeServer, l[3])
	holdFind(t, l, api.KePort, l[5])
	holdFind(t, l, 99, l[7])
	for _, kind := range append(noKinds(), 8, 98, 100, 32767, 99+32768, 5+65536, 5+1<<32) {
		holdFind(t, l, kind)
	}
	holdFind(t, nil, api.KeEnd)
	holdFind(t, []api.KeRec{}, api.KeCookie)
	holdFind(t, make([]api.KeRec, 3), api.KeEnd, make([]api.KeRec, 3)...)
}

// P18.4: records need be none that Write takes: Kinds that are none, Bodies that are too long, and more of them than it takes.
func TestFindAny(t *testing.T) {
	var l, want []api.KeRec
	for i, kind := range append(noKinds(), noKinds()...) {
		l = append(l, api.KeRec{Kind: kind, Crit: i%3 == 0, Body: drawn(int64(i), 1500)})
	}
	for i, kind := range noKinds() {
		holdFind(t, l, kind, l[i], l[i+len(noKinds())])
	}
	l = empties(5000)
	for i := range l {
		l[i].Kind = i % 7
		l[i].Body = drawn(int64(i), 3)
		if i%7 == 4 {
			want = append(want, l[i])
		}
	}
	holdFind(t, l, 4, want...)
}

// Rule 0.5: what Find tells is no part of the list that it was given: who changes the one does not change the other.
func TestFindIsNewMemory(t *testing.T) {
	l := slices.Repeat([]api.KeRec{{Kind: 5, Body: "a"}}, 4)
	got := ke.Find(l, 5)
	got[0].Body = "gone"
	l[1].Body = "gone"
	if l[0].Body != "a" || got[1].Body != "a" || len(got) != 4 {
		t.Errorf("Find = %v, of %v", got, l)
	}
}

// holdUnknown says that Unknown tells just that place, and leaves the list as it was (rule 0.5).
func holdUnknown(t testing.TB, l []api.KeRec, want int) {
	t.Helper()
	was := slices.Clone(l)
	if got := ke.Unknown(l); got != want {
		t.Errorf("Unknown of %v = %d; want %d", l, got, want)
	}
	if !slices.Equal(l, was) {
		t.Errorf("Unknown changed its records")
	}
}

// P18.4: each Kind alone: those from 0 to NumKes less 1 are known; all other numbers are not, below 0 and above, and are told if they are Crit; none is told that is not.
func TestUnknownKinds(t *testing.T) {
	var all []int
	for kind := -70000; kind <= 70000; kind++ {
		all = append(all, kind)
	}
	for _, kind := range append(all, noKinds()...) {
		want := 0
		if slices.Contains([]int{0, 1, 2, 3, 4, 5, 6, 7}, kind) {
			want = -1
		}
		holdUnknown(t, []api.KeRec{{Crit: true, Kind: kind}}, want)
		holdUnknown(t, []api.KeRec{{Kind: kind}}, -1)
	}
	for _, c := range []struct{ kind, want int }{
		{math.MinInt, 0}, {math.MinInt + 1, 0}, {math.MinInt32, 0}, {-32768, 0}, {-2, 0}, {-1, 0},
		{0, -1}, {api.KeWarn, -1}, {api.KePort, -1}, {api.NumKes - 1, -1},
		{api.NumKes, 0}, {api.NumKes + 1, 0}, {99, 0}, {32767, 0}, {32768, 0}, {65536, 0}, {math.MaxInt32, 0}, {math.MaxInt, 0},
	} {
		holdUnknown(t, []api.KeRec{{Crit: true, Kind: c.kind, Body: "x"}}, c.want)
	}
}

// P18.4: the place of the first one, whatever is ahead of it and behind; -1 of none at all.
func TestUnknownPlace(t *testing.T) {
	holdUnknown(t, nil, -1)
	holdUnknown(t, []api.KeRec{}, -1)
	holdUnknown(t, asked(), -1)
	holdUnknown(t, answered(), -1)
	for _, kind := range []int{99, api.NumKes, 32768, math.MaxInt, -1, -32768, math.MinInt} {
		unknown := api.KeRec{Crit: true, Kind: kind}
		for i := range len(answered()) + 1 {
			holdUnknown(t, slices.Insert(answered(), i, unknown), i)
			holdUnknown(t, slices.Insert(answered(), i, unknown, unknown), i)
			holdUnknown(t, append(slices.Insert(answered(), i, unknown), unknown), i)
		}
		holdUnknown(t, append(empties(5000), unknown), 5000)
	}
}

// P18.4: numbers below 0 among others: the first one that is not known is told, whichever it is; what is not Crit is passed over.
func TestUnknownBelow(t *testing.T) {
	below, above := api.KeRec{Crit: true, Kind: -1, Body: "x"}, api.KeRec{Crit: true, Kind: 8}
	mild, last := api.KeRec{Kind: -1}, api.KeRec{Crit: true, Kind: 7}
	holdUnknown(t, []api.KeRec{below, {Kind: 99}, last, above, {Crit: true, Kind: 99}}, 0)
	holdUnknown(t, []api.KeRec{mild, {Kind: 99}, last, above, below}, 3)
	holdUnknown(t, []api.KeRec{mild, {Kind: 99}, last, below, above}, 3)
	holdUnknown(t, []api.KeRec{end(), last, mild, below}, 3)
	holdUnknown(t, []api.KeRec{mild, mild, last, {Kind: math.MinInt}, {Kind: 99}}, -1)
}

// P18.4: drawn records, by the chapter's words.
func TestFindDrawn(t *testing.T) {
	for seed := range int64(3000) {
		l := drawnRecords(seed)
		kind := rand.New(rand.NewSource(seed)).Intn(9)
		var want []api.KeRec
		for i := range l {
			if l[i].Kind == kind {
				want = append(want, l[i])
			}
		}
		holdFind(t, l, kind, want...)
		holdUnknown(t, l, slices.IndexFunc(l, func(r api.KeRec) bool { return r.Crit && uint(r.Kind) > 7 }))
	}
}
