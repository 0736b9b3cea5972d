package nego

import (
	"slices"

	"pendulum/api"
	"pendulum/ke"
)

// Errors as a server tells them.
const (
	unknownRecord = 0
	badRequest    = 1
)

// must is a record that whoever hears it must know.
func must(kind int, body string) api.KeRec {
	return api.KeRec{Crit: true, Kind: kind, Body: body}
}

// may is a record that may be passed over.
func may(kind int, body string) api.KeRec {
	return api.KeRec{Kind: kind, Body: body}
}

// end is the record behind which nothing stands.
func end() api.KeRec {
	return must(api.KeEnd, "")
}

// refusal is an answer that tells an error.
func refusal(number int) []api.KeRec {
	return []api.KeRec{must(api.KeError, paired(number)), end()}
}

// granted is an answer by which a way of sealing is taken. What the server has goes out as it is, as it is the client that judges it.
func granted(c api.KeConf, way int) []api.KeRec {
	out := []api.KeRec{must(api.KeNext, paired(ntp)), must(api.KeAead, paired(way))}
	for _, s := range c.Cookies {
		out = append(out, may(api.KeCookie, s))
	}
	if c.Host != "" {
		out = append(out, must(api.KeServer, c.Host))
	}
	if c.Port != 0 {
		out = append(out, must(api.KePort, paired(c.Port&mostPort)))
	}
	return append(out, end())
}

// dealt is what records tell that have been checked.
func dealt(way api.KeRec, cookies, servers, ports []api.KeRec) api.Deal {
	var out api.Deal
	out.Aead, _ = single(way.Body)
	for _, r := range cookies {
		out.Cookies = append(out.Cookies, r.Body)
	}
	for _, r := range servers {
		out.Host = r.Body
	}
	for _, r := range ports {
		out.Port, _ = single(r.Body)
	}
	return out
}

// liked is the first way of sealing of a server's that is among those offered; 0, which is none, if there is no such one.
func liked(aeads, offered []int) int {
	for _, way := range aeads {
		if KeySize(way) > 0 && slices.Contains(offered, way) {
			return way
		}
	}
	return 0
}

// numbersOf is what the one record of a kind tells; false, if there is not just one, or it may be passed over, or tells no numbers.
func numbersOf(l []api.KeRec, kind int) ([]int, bool) {
	found := ke.Find(l, kind)
	if len(found) != 1 || !found[0].Crit {
		return nil, false
	}
	numbers, e := ke.ToPairs(found[0].Body)
	return numbers, e == api.OK && len(numbers) > 0
}

// single is the number that a Body is, if it is one alone.
func single(body string) (int, bool) {
	numbers, e := ke.ToPairs(body)
	if e != api.OK || len(numbers) != 1 {
		return 0, false
	}
	return numbers[0], true
}

// paired is numbers as a Body has them. All that this package hands on are such, and few.
func paired(numbers ...int) string {
	out, _ := ke.Pairs(numbers)
	return out
}
