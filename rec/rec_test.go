package rec_test

import (
	"strings"
	"testing"

	"pendulum/api"
	"pendulum/rec"
)

// P13.1: the chapter's examples.
func TestExamples(t *testing.T) {
	holdFrame(t, api.Record{Kind: api.RecHand, Body: "x"}, "\x16\x03\x03\x00\x01\x78", api.OK)
	holdUnframe(t, "\x17\x03\x04", api.ErrForm)
}

// P13.1: each kind with bodies of no byte, of one, of lengths with each of two bytes, and of the most that it may have, and one more.
func TestFrameLengths(t *testing.T) {
	for _, kind := range kinds() {
		for _, size := range []int{0, 1, 2, 255, 256, 257, 4660, 16383, 16384, 16385, 16386, 16639, 16640, 16641, 16642, 32767, 32768, 65535, 65536, 65537, 65536 + 16384} {
			r := api.Record{Kind: kind, Body: drawn(int64(size), size)}
			if size > most(kind) {
				holdFrame(t, r, "", api.ErrLong)
				continue
			}
			holdFrame(t, r, headed(kind, size)+r.Body, api.OK)
		}
	}
	holdFrame(t, api.Record{Kind: 22, Body: drawn(1, 16384)}, "\x16\x03\x03\x40\x00"+drawn(1, 16384), api.OK)
	holdFrame(t, api.Record{Kind: 23, Body: drawn(1, 16640)}, "\x17\x03\x03\x41\x00"+drawn(1, 16640), api.OK)
	holdFrame(t, api.Record{Kind: 21, Body: "\x02\x28"}, "\x15\x03\x03\x00\x02\x02\x28", api.OK)
}

// P13.1, rules 0.2 and 0.3: other kinds, also such as have a kind's lowest byte, whatever the body, and ahead of its length.
func TestFrameKinds(t *testing.T) {
	for _, kind := range others() {
		for _, size := range []int{0, 1, 16384, 16385, 16640, 16641} {
			holdFrame(t, api.Record{Kind: kind, Body: drawn(1, size)}, "", api.ErrKind)
		}
	}
}

// P13.1: an empty text, and each first byte, alone, with the others missing, and ahead of a whole record's.
func TestUnframeFirstByte(t *testing.T) {
	holdUnframe(t, "", api.ErrShort)
	for first := range 256 {
		fault, whole := api.ErrKind, api.ErrKind
		if first >= 21 && first <= 23 {
			fault, whole = api.ErrShort, api.OK
		}
		head := string([]byte{byte(first)})
		holdUnframe(t, head, fault)
		holdUnframe(t, head+"\x03", fault)
		holdUnframe(t, head+"\x03\x03\x00", fault)
		holdUnframe(t, head+"\x03\x03\x00\x02a", fault)
		holdUnframe(t, head+"\x03\x03\x00\x02ab", whole)
		holdUnframe(t, head+"\x03\x03\x00\x02abcd", whole)
	}
}

// P13.1: each second and third byte but 3, at the text's end, ahead of a length that is too great, and in a whole record.
func TestUnframeVersion(t *testing.T) {
	for _, kind := range kinds() {
		head := string([]byte{byte(kind)})
		for b := range 256 {
			if b == 3 {
				continue
			}
			wrong := string([]byte{byte(b)})
			for _, behind := range []string{"", "\x00", "\xff", "\x00\x00", "\xff\xff", "\x00\x01a", "\x00\x02a"} {
				holdUnframe(t, head+wrong+behind, api.ErrForm)
				holdUnframe(t, head+wrong+"\x03"+behind, api.ErrForm)
				holdUnframe(t, head+wrong+wrong+behind, api.ErrForm)
				holdUnframe(t, head+"\x03"+wrong+behind, api.ErrForm)
			}
		}
		holdUnframe(t, head+"\x03", api.ErrShort)
		holdUnframe(t, head+"\x03\x03", api.ErrShort)
	}
}

// P13.1: each length, with nothing behind it, where one above the most is told ahead of what is missing.
func TestUnframeLengths(t *testing.T) {
	for _, kind := range kinds() {
		for n := range 65536 {
			fault := api.ErrShort
			switch {
			case n == 0:
				fault = api.OK
			case n > most(kind):
				fault = api.ErrLong
			}
			holdUnframe(t, headed(kind, n), fault)
		}
	}
}

// P13.1, byte by byte from the left: each high byte of a length at the text's end: where it says alone that the length is above the most, whatever the low one would be, that is told ahead of the low one's missing.
func TestUnframeLengthFirstByte(t *testing.T) {
	for _, c := range []struct {
		s     string
		fault api.Errno
	}{
		{"\x15\x03\x03\x40", api.ErrShort}, {"\x15\x03\x03\x41", api.ErrLong},
		{"\x16\x03\x03\x40", api.ErrShort}, {"\x16\x03\x03\x41", api.ErrLong}, {"\x16\x03\x03\xff", api.ErrLong},
		{"\x17\x03\x03\x41", api.ErrShort}, {"\x17\x03\x03\x42", api.ErrLong}, {"\x17\x03\x03\x80", api.ErrLong},
	} {
		holdUnframe(t, c.s, c.fault)
	}
	for _, kind := range kinds() {
		for high := range 256 {
			fault := api.ErrShort
			if 256*high > most(kind) {
				fault = api.ErrLong
			}
			holdUnframe(t, headed(kind, 256*high)[:4], fault)
		}
	}
}

// P13.1: a text that ends behind a length's high byte is too long if, and only if, it is so with each low byte behind it.
func TestUnframeLongStays(t *testing.T) {
	for _, kind := range kinds() {
		for high := range 256 {
			head := headed(kind, 256*high)[:4]
			_, _, e := rec.Unframe(head)
			all := true
			for low := range 256 {
				_, _, f := rec.Unframe(head + string([]byte{byte(low)}))
				all = all && f == api.ErrLong
			}
			if all != (e == api.ErrLong) {
				t.Errorf("Unframe of %s = %v; with each byte behind it ErrLong: %v", hexed(head), e, all)
			}
		}
	}
}

// P13.1: records of all lengths about the edges, with all their bytes, one fewer, one more and many more; with all the bytes that it says, one that is too long is too long still.
func TestUnframeBodies(t *testing.T) {
	long := drawn(3, 65536+10)
	for _, kind := range kinds() {
		for _, size := range []int{0, 1, 2, 255, 256, 257, 16383, 16384, 16385, 16639, 16640, 16641, 32768, 65535} {
			whole, short := api.OK, api.ErrShort
			if size > most(kind) {
				whole, short = api.ErrLong, api.ErrLong
			}
			head := headed(kind, size)
			holdUnframe(t, head+long[:size], whole)
			holdUnframe(t, head+long[:size+1], whole)
			holdUnframe(t, head+long, whole)
			if size > 0 {
				holdUnframe(t, head+long[:size-1], short)
				holdUnframe(t, head, short)
			}
		}
	}
}

// P13.1: a text that ends at each place ahead of its record's end.
func TestUnframeEndsAhead(t *testing.T) {
	for _, kind := range kinds() {
		for _, size := range []int{0, 1, 3, 255, 300, most(kind)} {
			s := headed(kind, size) + drawn(int64(size), size)
			for n := range len(s) {
				if n > 600 && n < len(s)-300 {
					continue
				}
				holdUnframe(t, s[:n], api.ErrShort)
			}
			holdUnframe(t, s, api.OK)
		}
	}
}

// P13.1, rule 0.2: all faults together, the text cut off at each place: the first byte that is wrong or missing is the answer.
func TestUnframeOrder(t *testing.T) {
	for _, first := range []string{"\x00", "\x14", "\x15", "\x16", "\x17", "\x18", "\xff"} {
		for _, second := range []string{"\x02", "\x03", "\x04"} {
			for _, third := range []string{"\x02", "\x03", "\x04"} {
				for _, length := range []string{"\x00\x00", "\x00\x02", "\x40\x00", "\x40\x01", "\x41\x00", "\x41\x01", "\x42\x00", "\x80\x00", "\xff\xff"} {
					s := first + second + third + length + "ab"
					for n := range len(s) + 1 {
						fault := api.ErrShort
						size := int(length[0])<<8 | int(length[1])
						switch {
						case n == 0:
						case first < "\x15" || first > "\x17":
							fault = api.ErrKind
						case n == 1:
						case second != "\x03":
							fault = api.ErrForm
						case n == 2:
						case third != "\x03":
							fault = api.ErrForm
						case n == 3:
						case length[0] > '\x41' || length[0] > '\x40' && first != "\x17":
							fault = api.ErrLong
						case n == 4:
						case size > 16640 || size > 16384 && first != "\x17":
							fault = api.ErrLong
						case n-5 >= size:
							fault = api.OK
						}
						holdUnframe(t, s[:n], fault)
					}
				}
			}
		}
	}
}

// P13.1: what stands behind is all that stands there, records among it: they are read one by one, to the end.
func TestUnframeOneByOne(t *testing.T) {
	var said strings.Builder
	var want []api.Record
	for i := range 60 {
		r := api.Record{Kind: 21 + i%3, Body: drawn(int64(i), i*i%97)}
		s, e := rec.Frame(r)
		if e != api.OK {
			t.Fatal(e)
		}
		said.WriteString(s)
		want = append(want, r)
	}
	rest := said.String()
	for i, r := range want {
		got, behind, e := rec.Unframe(rest)
		if got != r || e != api.OK || len(behind) != len(rest)-5-len(r.Body) || !strings.HasSuffix(rest, behind) {
			t.Fatalf("record %d: %s, %d behind, %v; want %s", i, told(got), len(behind), e, told(r))
		}
		rest = behind
	}
	holdUnframe(t, rest, api.ErrShort)
}

// P13.6: Unframe of Frame is the record, and nothing behind it; with anything behind, it is that.
func TestThereAndBackPlain(t *testing.T) {
	for _, kind := range kinds() {
		for _, size := range []int{0, 1, 2, 3, 100, 255, 256, 1000, 16383, 16384, 16639, 16640} {
			r := api.Record{Kind: kind, Body: drawn(int64(kind+size), size)}
			s, e := rec.Frame(r)
			if size > most(kind) {
				if s != "" || e != api.ErrLong {
					t.Errorf("Frame of the kind %d, %d bytes = %d bytes, %v", kind, size, len(s), e)
				}
				continue
			}
			for _, behind := range []string{"", "\x00", s, drawn(2, 5), drawn(2, 20000)} {
				got, rest, f := rec.Unframe(s + behind)
				if got != r || rest != behind || e != api.OK || f != api.OK {
					t.Errorf("Unframe of Frame of the kind %d, %d bytes, %d behind = %d bytes, %s, %d behind, %v, %v", kind, size, len(behind), len(got.Body), told(got), len(rest), e, f)
				}
			}
		}
	}
}

// P13.5, P13.7: pieces are of 16384 bytes but the last one, of what is left, none of them empty; all are of the kind, which may be any; together they are the text.
func TestSplit(t *testing.T) {
	for _, kind := range append(kinds(), others()...) {
		if got := rec.Split(kind, ""); len(got) != 0 {
			t.Errorf("Split of the kind %d of nothing = %d records", kind, len(got))
		}
		if got := rec.Split(kind, "ab"); len(got) != 1 || got[0] != (api.Record{Kind: kind, Body: "ab"}) {
			t.Errorf("Split of the kind %d of 2 bytes = %v", kind, got)
		}
	}
	for _, kind := range []int{21, 22, 23, 0, -1, 24, 23 + 256} {
		for _, size := range []int{1, 2, 16383, 16384, 16385, 16640, 16641, 32767, 32768, 32769, 49151, 49152, 49153, 65536, 100000} {
			s := drawn(int64(size), size)
			got := rec.Split(kind, s)
			if len(got) != (size+mostPlain-1)/mostPlain {
				t.Fatalf("Split of %d bytes = %d records", size, len(got))
			}
			for i, r := range got {
				if want := s[mostPlain*i : min(size, mostPlain*(i+1))]; r.Kind != kind || r.Body != want {
					t.Errorf("Split of %d bytes, of the kind %d: record %d = %d bytes, %s; want %d, %s", size, kind, i, len(r.Body), told(r), len(want), hexed(want))
				}
			}
			if whole := joined(got); whole != s {
				t.Errorf("Split of %d bytes: the bodies are %d bytes, %s", size, len(whole), hexed(whole))
			}
		}
	}
}

// joined is what records have, one behind the other.
func joined(l []api.Record) string {
	var out strings.Builder
	for _, r := range l {
		out.WriteString(r.Body)
	}
	return out.String()
}

// Rule 0.5: what Split has told is its caller's: who changes it changes nothing of what is told later.
func TestSplitIsNewMemory(t *testing.T) {
	s := drawn(1, 40000)
	first := rec.Split(22, s)
	for i := range first {
		first[i] = api.Record{Kind: 99, Body: "gone"}
	}
	second := rec.Split(22, s)
	if len(second) != 3 || second[0].Kind != 22 || joined(second) != s {
		t.Errorf("Split again = %d records of the kind %d", len(second), second[0].Kind)
	}
}

// P13.1, P13.5: all that Split tells of a kind can be framed, and is read again.
func TestSplitIsFramed(t *testing.T) {
	for _, kind := range kinds() {
		s := drawn(7, 2*mostPlain+5)
		var said strings.Builder
		for _, r := range rec.Split(kind, s) {
			text, e := rec.Frame(r)
			if e != api.OK {
				t.Fatalf("Frame of %d bytes: %v", len(r.Body), e)
			}
			said.WriteString(text)
		}
		var heard []api.Record
		for rest := said.String(); rest != ""; {
			r, behind, e := rec.Unframe(rest)
			if e != api.OK || r.Kind != kind {
				t.Fatalf("Unframe = the kind %d, %v", r.Kind, e)
			}
			heard, rest = append(heard, r), behind
		}
		if joined(heard) != s {
			t.Errorf("what was split of the kind %d was not heard", kind)
		}
	}
}

// FuzzUnframe looks for texts that are read otherwise than by the chapter's words, or are not what Frame writes.
func FuzzUnframe(f *testing.F) {
	f.Add("")
	f.Add("\x16\x03\x03\x00\x01x")
	f.Add("\x17\x03\x04")
	f.Add("\x15\x03\x03\x00\x02\x02\x28\x16")
	f.Add(headed(22, 16385) + "a")
	f.Add(headed(23, 16640))
	f.Add("\x17\x03\x03\x80")
	f.Add("\x16\x03\x03\x41")
	f.Fuzz(func(t *testing.T, s string) {
		_, _, e := unframed(s)
		holdUnframe(t, s, e)
		if r, behind, e := rec.Unframe(s); e == api.OK {
			holdFrame(t, r, s[:len(s)-len(behind)], api.OK)
		}
	})
}
