package tlsc_test

import (
	"math"
	"reflect"
	"strings"
	"testing"

	"pendulum/api"
	"pendulum/rec"
	"pendulum/tlsc"
)

// sentBy is what Send has to tell of an open end.
func sentBy(t testing.TB, x api.Tls, s string) (api.Tls, string) {
	t.Helper()
	said := ""
	for s != "" {
		n := min(len(s), 16384)
		said += sealed(t, x.Out, 23, s[:n])
		x.Out.Seq++
		s = s[n:]
	}
	return x, said
}

// holdSend says that an open end sends a text as it should, and changes nothing but its direction.
func holdSend(t testing.TB, x api.Tls, s string) (api.Tls, string) {
	t.Helper()
	ahead := plain(x)
	y, said, e := tlsc.Send(x, s)
	want, wantSaid := sentBy(t, x, s)
	if differ := differences(y, want); differ != "" || said != wantSaid || e != api.OK {
		t.Errorf("Send of %d bytes, Seq %d:%s said %s (want %s), %v", len(s), x.Out.Seq, differ, hexed(said), hexed(wantSaid), e)
	}
	if differ := differences(x, ahead); differ != "" {
		t.Errorf("Send changes what it is given:%s", differ)
	}
	return y, said
}

// P16.3: texts of nothing, of as many bytes as one record holds, one fewer, one more, and many; the other end is told them.
func TestSend(t *testing.T) {
	x := talked(t).ends[atOpen]
	other := api.Tls{State: api.TsOpen, In: x.Out, Out: x.In}
	for _, size := range []int{0, 1, 2, 255, 256, 1000, 16383, 16384, 16385, 32767, 32768, 32769, 50000, 0, 5} {
		text := drawn(int64(size), size)
		y, said := holdSend(t, x, text)
		if got := uint64((size + 16383) / 16384); y.Out.Seq-x.Out.Seq != got {
			t.Errorf("Send of %d bytes: %d records", size, y.Out.Seq-x.Out.Seq)
		}
		heard, answer, told := hold(t, other, said)
		if heard.State != api.TsOpen || heard.In != y.Out || answer != "" || told != text {
			t.Errorf("the other end hears %d of %d bytes, in the state %d, %v", len(told), size, heard.State, heard.Why)
		}
		x, other = y, heard
	}
	if _, said, _ := tlsc.Send(x, ""); said != "" {
		t.Errorf("Send of nothing says %s", hexed(said))
	}
}

// P16.3: what is sent goes on where the last one ended, and what comes meanwhile plays no part.
func TestSendBesideFeed(t *testing.T) {
	x := talked(t).ends[atOpen]
	for i := range 5 {
		x, _ = holdSend(t, x, drawn(int64(i), i*9000))
		in := x.In
		y, said, told := hold(t, x, sealed(t, in, 23, "tick"))
		if y.Out != x.Out || y.In.Seq != in.Seq+1 || said != "" || told != "tick" {
			t.Errorf("Feed behind Send: %d, %d, told %s", y.In.Seq, y.Out.Seq, hexed(told))
		}
		x = y
	}
}

// P16.3, rules 0.2 and 0.3: an end that is not open, whatever else it has, ahead of a Seq that is too great.
func TestSendState(t *testing.T) {
	our := talked(t)
	ends := append([]api.Tls{{}}, our.ends[:atOpen]...)
	for _, state := range []int{api.TsWait, api.TsHand, api.TsDead, 0, 5, -1, api.TsOpen + 256, math.MaxInt, math.MinInt} {
		x := our.ends[atOpen]
		x.State = state
		ends = append(ends, x)
	}
	for _, x := range ends {
		for _, seq := range []uint64{0, 1 << 63, 1<<63 + 1, math.MaxUint64} {
			for _, s := range []string{"", "text", drawn(1, 20000)} {
				x.Out.Seq = seq
				if y, said, e := tlsc.Send(x, s); e != api.ErrState || said != "" || !reflect.DeepEqual(y, api.Tls{}) {
					t.Errorf("Send of an end in the state %d: %v, said %s, an end in the state %d", x.State, e, hexed(said), y.State)
				}
			}
		}
		if out, e := tlsc.Export(x, "label", "", 32); e != api.ErrState || out != "" {
			t.Errorf("Export of an end in the state %d: %s, %v", x.State, hexed(out), e)
		}
	}
}

// P16.3: Out's Seq at 2^63, one less and one more, with texts of no record, of one and of several.
func TestSendSeq(t *testing.T) {
	for _, s := range []string{"", "text", drawn(1, 16385), drawn(1, 40000)} {
		x := talked(t).ends[atOpen]
		for _, seq := range []uint64{0, 1, 255, 1<<32 - 1, 1<<63 - 1000, 1<<63 - 1, 1 << 63} {
			x.Out.Seq = seq
			holdSend(t, x, s)
		}
		for _, seq := range []uint64{1<<63 + 1, 1<<63 + 2, 1<<64 - 2, 1<<64 - 1} {
			x.Out.Seq = seq
			if y, said, e := tlsc.Send(x, s); e != api.ErrMany || said != "" || !reflect.DeepEqual(y, api.Tls{}) {
				t.Errorf("Send of %d bytes, Seq %d: %v, said %s, an end in the state %d", len(s), seq, e, hexed(said), y.State)
			}
		}
	}
}

// P16.3: an end may be any that is open and has a direction: nothing else is asked of it, and all of it stays.
func TestSendOfAnyEnd(t *testing.T) {
	x := full(t)
	holdSend(t, x, "text")
	holdSend(t, api.Tls{State: api.TsOpen, Out: api.Side{Key: drawn(1, 16), Iv: drawn(2, 12)}}, "text")
	x.Step, x.In, x.App, x.Keys, x.Log, x.Why = -5, api.Side{Key: "short"}, api.Secrets{}, api.Secrets{}, "", api.ErrMany
	holdSend(t, x, drawn(1, 17000))
	x.Out = api.Side{Key: strings.Repeat("\x00", 16), Iv: strings.Repeat("\xff", 12), Seq: 1 << 63}
	holdSend(t, x, drawn(1, 17000))
}

// P16.3: what Export tells is sched.Export of App, with its errors, the label's first.
func TestExport(t *testing.T) {
	x := talked(t).ends[atOpen]
	for _, n := range []int{0, 1, 31, 32, 33, 64, 8160} {
		for _, label := range []string{"", "EXPORTER-network-time-security", drawn(1, 249)} {
			for _, context := range []string{"", "\x00\x00\x00\x0f\x00", "\x00\x00\x00\x0f\x01", drawn(2, 5000)} {
				got, e := tlsc.Export(x, label, context, n)
				if want := exported(t, x.App, label, context, n); got != want || e != api.OK || len(got) != n {
					t.Errorf("Export(%s, %s, %d) = %s, %v; want %s", hexed(label), hexed(context), n, hexed(got), e, hexed(want))
				}
			}
		}
	}
	for _, c := range []struct {
		export string
		label  int
		n      int
		want   api.Errno
	}{
		{x.App.Export, 250, 32, api.ErrLong}, {x.App.Export, 250, -1, api.ErrLong}, {x.App.Export, 5000, 8161, api.ErrLong},
		{x.App.Export, 249, -1, api.ErrNumber}, {x.App.Export, 0, 8161, api.ErrNumber}, {x.App.Export, 1, math.MinInt, api.ErrNumber}, {x.App.Export, 1, math.MaxInt, api.ErrNumber},
		{"", 1, 32, api.ErrForm}, {x.App.Export[1:], 250, -1, api.ErrForm}, {x.App.Export + "x", 1, 32, api.ErrForm},
	} {
		y := x
		y.App.Export = c.export
		if got, e := tlsc.Export(y, drawn(1, c.label), "context", c.n); got != "" || e != c.want {
			t.Errorf("Export of a label of %d bytes, %d: %s, %v; want %v", c.label, c.n, hexed(got), e, c.want)
		}
	}
	y := api.Tls{State: api.TsOpen, App: api.Secrets{Export: drawn(9, 32)}}
	if got, e := tlsc.Export(y, "label", "context", 40); got != exported(t, y.App, "label", "context", 40) || e != api.OK {
		t.Errorf("Export of an end with nothing else = %s, %v", hexed(got), e)
	}
}

// P16.3: no two records that an end sends are sealed by one nonce.
func TestSendNonces(t *testing.T) {
	x := talked(t).ends[atOpen]
	seen := map[string]bool{}
	for range 4 {
		for i := range uint64(3) {
			side := x.Out
			side.Seq += i
			nonce, _ := rec.Nonce(side)
			if seen[nonce] {
				t.Errorf("the nonce %s is there twice", hexed(nonce))
			}
			seen[nonce] = true
		}
		x, _ = holdSend(t, x, drawn(1, 3*16384))
	}
}
