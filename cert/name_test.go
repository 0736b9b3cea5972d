package cert_test

import (
	"strings"
	"testing"

	"pendulum/api"
	"pendulum/cert"
)

// P12.4: names written out.
func TestFits(t *testing.T) {
	for _, x := range []struct {
		names []string
		name  string
		want  bool
	}{
		{nil, "", false}, {nil, "a", false}, {[]string{}, "a", false},
		{[]string{"a"}, "a", true}, {[]string{"a"}, "A", true}, {[]string{"A"}, "a", true}, {[]string{"a"}, "b", false}, {[]string{"a"}, "", false}, {[]string{"a"}, "aa", false}, {[]string{"aa"}, "a", false},
		{[]string{"Time.Example.ORG"}, "tIME.eXAMPLE.org", true}, {[]string{"time.example.org"}, "time.example.org.", false}, {[]string{"time.example.org"}, "example.org", false},
		{[]string{"time.example.org"}, "x.time.example.org", false}, {[]string{"a-b.c1"}, "A-B.C1", true}, {[]string{"a.b"}, "a.b ", false},
		{[]string{"x", "y", "z"}, "x", true}, {[]string{"x", "y", "z"}, "y", true}, {[]string{"x", "y", "z"}, "z", true}, {[]string{"x", "y", "z"}, "w", false},
		{[]string{"*.a"}, "x.a", true}, {[]string{"*.a"}, "X.A", true}, {[]string{"*.A"}, "x.a", true}, {[]string{"*.a"}, "xyz.a", true}, {[]string{"*.a"}, "y.x.a", false},
		{[]string{"*.a"}, ".a", false}, {[]string{"*.a"}, "a", false}, {[]string{"*.a"}, "", false}, {[]string{"*.a"}, ".", false}, {[]string{"*.a"}, "x.", false}, {[]string{"*.a"}, "x.b", false},
		{[]string{"*.a"}, "x..a", false}, {[]string{"*.a"}, "..a", false}, {[]string{"*.a"}, "x.a.", false}, {[]string{"*.a"}, "xa", false}, {[]string{"*.a"}, "x.aa", false}, {[]string{"*.aa"}, "x.a", false},
		{[]string{"*.a"}, "*.a", true}, {[]string{"*.a"}, "*.A", true}, {[]string{"x.a"}, "*.a", false}, {[]string{"*.a"}, "\x00\xff.a", true}, {[]string{"*.a"}, " .a", true},
		{[]string{"*.example.org"}, "time.Example.org", true}, {[]string{"*.example.org"}, "example.org", false}, {[]string{"*.example.org"}, "a.time.example.org", false}, {[]string{"*.example.org"}, ".example.org", false},
		{[]string{"y", "*.a"}, "x.a", true}, {[]string{"*.b", "*.a", "z"}, "x.a", true}, {[]string{"*.b", "*.c"}, "x.a", false},
		{[]string{"*"}, "x", false}, {[]string{"*"}, "*", true}, {[]string{"*"}, "", false}, {[]string{"*a"}, "xa", false}, {[]string{"*a.b"}, "xa.b", false}, {[]string{"x*.a"}, "xy.a", false}, {[]string{"**.a"}, "x.a", false},
		{[]string{"x.*"}, "x.a", false}, {[]string{"x.*.a"}, "x.y.a", false}, {[]string{"*.*.a"}, "x.y.a", false}, {[]string{"*.*.a"}, "x.*.a", true}, {[]string{"..a"}, "x.a", false}, {[]string{".a"}, "x.a", false}, {[]string{".a"}, ".a", true},
		{[]string{"*.a.b"}, "x.a.b", true}, {[]string{"*.a.b"}, "x.b", false}, {[]string{"*.a.b"}, "a.b", false}, {[]string{"*..a"}, "x..a", true}, {[]string{"*..a"}, "x.a", false},
		{[]string{"*."}, "x.", false}, {[]string{"*."}, "x", false}, {[]string{"*."}, ".", false}, {[]string{"*."}, "", false}, {[]string{"*."}, "*.", true}, {[]string{"*.."}, "x..", true},
		{[]string{""}, "", true}, {[]string{""}, "a", false}, {[]string{""}, ".", false}, {[]string{"."}, ".", true}, {[]string{"."}, "", false}, {[]string{"."}, "..", false},
		{[]string{"k"}, "\u212a", false}, {[]string{"s"}, "\u017f", false}, {[]string{"\u00e4"}, "\u00c4", false}, {[]string{"\u00e4"}, "\u00e4", true}, {[]string{"*.k"}, "x.\u212a", false}, {[]string{"\xff"}, "\xfe", false},
		{[]string{"@"}, "`", false}, {[]string{"["}, "{", false}, {[]string{"0"}, "P", false},
	} {
		if got := cert.Fits(api.Cert{Names: x.names}, x.name); got != x.want {
			t.Errorf("Fits(%q, %q) = %v", x.names, x.name, got)
		}
	}
}

// alikeByWords is letter by letter, A to Z as a to z.
func alikeByWords(a, b string) bool {
	if len(a) != len(b) {
		return false
	}
	for i := range len(a) {
		x, y := min(a[i], b[i]), max(a[i], b[i])
		if x != y && (x < 'A' || x > 'Z' || y != x+32) {
			return false
		}
	}
	return true
}

// fitsByWords is the chapter's sentence of one of Names.
func fitsByWords(own, name string) bool {
	if alikeByWords(own, name) {
		return true
	}
	if len(own) < 3 || own[:2] != "*." {
		return false
	}
	for end := 1; end < len(name); end++ { // the row of bytes ahead of the point
		if name[end] == '.' && strings.Count(name[:end], ".") == 0 && alikeByWords(name[end+1:], own[2:]) {
			return true
		}
	}
	return false
}

// texts are all those of some letters, up to a length.
func texts(letters string, most int) []string {
	out := []string{""}
	for from := 0; most > 0; most-- {
		end := len(out)
		for _, s := range out[from:end] {
			for i := range len(letters) {
				out = append(out, s+letters[i:i+1])
			}
		}
		from = end
	}
	return out
}

// P12.4: all pairs of short names.
func TestFitsAll(t *testing.T) {
	found := 0
	for _, own := range append(texts("aA.*", 4), texts("*.a", 5)...) {
		c := api.Cert{Names: []string{own}}
		for _, name := range texts("aAb.*", 4) {
			want := fitsByWords(own, name)
			if want {
				found++
			}
			if got := cert.Fits(c, name); got != want {
				t.Fatalf("Fits(%q, %q) = %v", own, name, got)
			}
		}
	}
	if found < 500 {
		t.Errorf("only %d fit", found)
	}
}

// P12.4: all pairs of bytes, alone, and behind a star.
func TestFitsEveryByte(t *testing.T) {
	for a := range 256 {
		for b := range 256 {
			x, y := string([]byte{byte(a)}), string([]byte{byte(b)})
			want := alikeByWords(x, y)
			if got := cert.Fits(api.Cert{Names: []string{x}}, y); got != want {
				t.Errorf("Fits(%q, %q) = %v", x, y, got)
			}
			if got := cert.Fits(api.Cert{Names: []string{"*." + x}}, "q."+y); got != want {
				t.Errorf("Fits(%q, %q) = %v", "*."+x, "q."+y, got)
			}
		}
	}
}

// P12.4: a name fits, if one of Names does, wherever it stands; no other field plays a part.
func TestFitsOneOfNames(t *testing.T) {
	for place := range 8 {
		c := greatest(t)
		c.Names[place] = "*.q"
		if !cert.Fits(c, "x.Q") || cert.Fits(c, "x.y.q") {
			t.Errorf("the name at %d", place)
		}
	}
	c := api.Cert{Subject: "s", Issuer: "s", Ca: true}
	if cert.Fits(c, "s") {
		t.Error("a Subject is taken for a name")
	}
	long := strings.Repeat("x", 1<<20)
	if !cert.Fits(api.Cert{Names: []string{long}}, strings.ToUpper(long)) || !cert.Fits(api.Cert{Names: []string{"*." + long}}, long+"."+long) {
		t.Error("long names")
	}
}

func FuzzFits(f *testing.F) {
	for _, x := range [][2]string{{"*.a", "x.a"}, {"a.B", "A.b"}, {"*.", "x."}, {"*.k", "x.\u212a"}, {"", ""}} {
		f.Add(x[0], x[1])
	}
	f.Fuzz(func(t *testing.T, own, name string) {
		if got, want := cert.Fits(api.Cert{Names: []string{"\x01\x02", own}}, name), fitsByWords(own, name) || name == "\x01\x02"; got != want {
			t.Fatalf("Fits(%q, %q) = %v", own, name, got)
		}
	})
}
