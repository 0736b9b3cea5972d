package der_test

import (
	"math"
	"math/rand"
	"strings"
	"testing"
	"time"

	"pendulum/api"
	"pendulum/der"
)

// timeText is a time by Go's own library.
func timeText(t int64) string {
	return time.Unix(t, 0).UTC().Format("20060102150405Z")
}

// checkTime holds one time against the library, there and back.
func checkTime(t testing.TB, at int64) {
	t.Helper()
	s, e := der.Time(at)
	if want := timeText(at); s != want || e != api.OK {
		t.Fatalf("Time(%d) = %q, %v; want %q", at, s, e, want)
	}
	if back, e := der.ToTime(s); back != at || e != api.OK {
		t.Fatalf("ToTime(%q) = %d, %v; want %d", s, back, e, at)
	}
}

func mustNotToTime(t testing.TB, s string) {
	t.Helper()
	if at, e := der.ToTime(s); at != 0 || e != api.ErrForm {
		t.Fatalf("ToTime(%q) = %d, %v; want 0, %v", s, at, e, api.ErrForm)
	}
}

// P11.5: times written out, there and back.
func TestTime(t *testing.T) {
	for _, c := range []struct {
		at int64
		s  string
	}{
		{0, "19700101000000Z"}, {1, "19700101000001Z"}, {-1, "19691231235959Z"}, {59, "19700101000059Z"}, {60, "19700101000100Z"},
		{3599, "19700101005959Z"}, {3600, "19700101010000Z"}, {86399, "19700101235959Z"}, {86400, "19700102000000Z"},
		{951782399, "20000228235959Z"}, {951782400, "20000229000000Z"}, {951868800, "20000301000000Z"},
		{1709164800, "20240229000000Z"}, {4107456000, "21000228000000Z"}, {4107542400, "21000301000000Z"},
		{-2203977600, "19000228000000Z"}, {-2203891200, "19000301000000Z"},
		{1000000000, "20010909014640Z"}, {1<<31 - 1, "20380119031407Z"}, {1 << 31, "20380119031408Z"}, {1 << 32, "21060207062816Z"},
		{api.LeastTime, "00010101000000Z"}, {api.LeastTime + 1, "00010101000001Z"}, {api.LeastTime + 31536000, "00020101000000Z"},
		{api.MostTime, "99991231235959Z"}, {api.MostTime - 1, "99991231235958Z"}, {api.MostTime - 86399, "99991231000000Z"},
	} {
		if s, e := der.Time(c.at); s != c.s || e != api.OK {
			t.Errorf("Time(%d) = %q, %v; want %q", c.at, s, e, c.s)
		}
		if at, e := der.ToTime(c.s); at != c.at || e != api.OK {
			t.Errorf("ToTime(%q) = %d, %v; want %d", c.s, at, e, c.at)
		}
	}
}

// P11.5: times outside of the years 1 to 9999 are refused.
func TestTimeFaults(t *testing.T) {
	for _, at := range []int64{api.LeastTime - 1, api.LeastTime - 86400, api.MostTime + 1, api.MostTime + 86400, 2 * api.MostTime, math.MinInt64, math.MinInt64 + 1, math.MaxInt64 - 1, math.MaxInt64} {
		if s, e := der.Time(at); s != "" || e != api.ErrNumber {
			t.Errorf("Time(%d) = %q, %v; want none, %v", at, s, e, api.ErrNumber)
		}
	}
}

// P11.5, P11.6: the first and the last second of every month of every year.
func TestEveryMonth(t *testing.T) {
	for year := 1; year <= 9999; year++ {
		for month := time.January; month <= time.December; month++ {
			checkTime(t, time.Date(year, month, 1, 0, 0, 0, 0, time.UTC).Unix())
			checkTime(t, time.Date(year, month+1, 1, 0, 0, 0, 0, time.UTC).Unix()-1)
		}
	}
}

// P11.5, P11.6: every day of some years, every second of a day, and times drawn from all of them.
func TestTimesThereAndBack(t *testing.T) {
	for _, year := range []int{1, 4, 1900, 1970, 2000, 2023, 2024, 9999} {
		from := time.Date(year, 1, 1, 0, 0, 0, 0, time.UTC).Unix()
		for day := range int64(365) {
			checkTime(t, from+86400*day+day*229)
		}
	}
	for second := range int64(86400) {
		checkTime(t, 951782400+second)
	}
	r := rand.New(rand.NewSource(1))
	for range 100000 {
		checkTime(t, api.LeastTime+r.Int63n(api.MostTime-api.LeastTime+1))
	}
}

func twoDigits(n int) string {
	return string([]byte{byte('0' + n/10), byte('0' + n%10)})
}

// P11.5: of all months and days of two digits just those of the calendar are read.
func TestEveryDate(t *testing.T) {
	for _, year := range []int{0, 1, 3, 4, 99, 100, 101, 200, 300, 400, 1582, 1600, 1700, 1800, 1900, 1904, 1999, 2000, 2001, 2004, 2023, 2024, 2100, 2400, 9996, 9999} {
		for month := range 100 {
			for day := range 100 {
				s := twoDigits(year/100) + twoDigits(year%100) + twoDigits(month) + twoDigits(day) + "123456Z"
				d := time.Date(year, time.Month(month), day, 12, 34, 56, 0, time.UTC)
				if year < 1 || d.Year() != year || int(d.Month()) != month || d.Day() != day {
					mustNotToTime(t, s)
					continue
				}
				if at, e := der.ToTime(s); at != d.Unix() || e != api.OK {
					t.Fatalf("ToTime(%q) = %d, %v; want %d", s, at, e, d.Unix())
				}
			}
		}
	}
}

// P11.5: of all hours, minutes and seconds of two digits just those of a day are read.
func TestEveryHour(t *testing.T) {
	for n := range 100 {
		for _, c := range []struct {
			s    string
			unit int
			most int
		}{
			{"19700101" + twoDigits(n) + "0000Z", 3600, 23},
			{"1970010100" + twoDigits(n) + "00Z", 60, 59},
			{"197001010000" + twoDigits(n) + "Z", 1, 59},
		} {
			if n > c.most {
				mustNotToTime(t, c.s)
			} else if at, e := der.ToTime(c.s); at != int64(n*c.unit) || e != api.OK {
				t.Errorf("ToTime(%q) = %d, %v; want %d", c.s, at, e, n*c.unit)
			}
		}
	}
}

// P11.5: texts that are no times.
func TestToTimeFaults(t *testing.T) {
	for _, s := range []string{
		"", "Z", "1970010100000", "19700101000000", "1970010100000Z", "197001010000000Z", "197001010000000", "19700101000000ZZ", "Z19700101000000", "19700101000000z",
		"19700101000000Y", "19700101000000 ", "19700101000000\x00", "19700101000000Z\x00", " 19700101000000Z", "1970-1-1000000Z", "1970 101000000Z", "+1970101000000Z", "-1970101000000Z", "197001010000.0Z", "700101000000Z",
		"20230229000000Z", "20240230000000Z", "19000229000000Z", "21000229000000Z", "20000230000000Z", "20240431000000Z", "20240132000000Z",
		"20240001000000Z", "20241301000000Z", "20240100000000Z", "00000101000000Z", "00000229000000Z", "00001231235959Z",
		"20240101240000Z", "20240101006000Z", "20240101000060Z", "20161231235960Z", "99991231235960Z", "99991231240000Z", "99999999999999Z",
		"19700101000000+0000", "19700101000000.5Z", strings.Repeat("0", 15), strings.Repeat("0", 14) + "Z", strings.Repeat("9", 1000) + "Z",
	} {
		mustNotToTime(t, s)
	}
}

// P11.5: of all bytes, at every place, just the digits are read, and at the last one the letter; each byte less or more is refused.
func TestToTimeEveryByte(t *testing.T) {
	good := "11111111111111Z"
	for at := range len(good) {
		for b := range 256 {
			s := good[:at] + bytesOf(b) + good[at+1:]
			_, err := time.Parse("20060102150405Z", s)
			if isDigit := b >= '0' && b <= '9'; at == len(good)-1 && b == 'Z' || at < len(good)-1 && isDigit && err == nil {
				if got, e := der.ToTime(s); timeText(got) != s || e != api.OK {
					t.Errorf("ToTime(%q) = %d, %v", s, got, e)
				}
				continue
			}
			mustNotToTime(t, s)
		}
		mustNotToTime(t, good[:at])
		mustNotToTime(t, good[:at]+good[at+1:])
		mustNotToTime(t, good[:at]+"1"+good[at:])
	}
	mustNotToTime(t, good+"1")
	mustNotToTime(t, good+good)
}

// FuzzToTime looks for texts that are read as wrong times, and for times that are written wrongly.
func FuzzToTime(f *testing.F) {
	f.Add("19700101000000Z", int64(0))
	f.Add("20000229235959Z", int64(api.LeastTime))
	f.Add("00000101000000Z", int64(api.MostTime))
	f.Add("20230229000000Z", int64(api.MostTime+1))
	f.Fuzz(func(t *testing.T, s string, at int64) {
		if at >= api.LeastTime && at <= api.MostTime {
			checkTime(t, at)
		} else if got, e := der.Time(at); got != "" || e != api.ErrNumber {
			t.Fatalf("Time(%d) = %q, %v", at, got, e)
		}
		d, err := time.Parse("20060102150405Z", s)
		if len(s) != 15 || err != nil || d.Year() < 1 {
			mustNotToTime(t, s)
			return
		}
		if got, e := der.ToTime(s); got != d.Unix() || e != api.OK {
			t.Fatalf("ToTime(%q) = %d, %v; want %d", s, got, e, d.Unix())
		}
	})
}
