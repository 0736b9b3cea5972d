package der

import (
	"sort"
	"strconv"
	"strings"

	"pendulum/api"
)

const (
	timeDigits = 14  // YYYYMMDDHHMMSS
	timeEnd    = "Z" // for UTC
	lastYear   = 9999
	months     = 12
	daySeconds = 24 * 60 * 60
)

// Time is a time as it stands within TagTime.
func Time(t int64) (string, api.Errno) {
	if t < api.LeastTime || t > api.MostTime {
		return "", api.ErrNumber
	}
	past := t - api.LeastTime // never below 0, where / and % would not round down
	year, month, day := dateOf(int(past / daySeconds))
	second := int(past % daySeconds)
	return digits(year, 4) + digits(month, 2) + digits(day, 2) +
		digits(second/3600, 2) + digits(second/60%60, 2) + digits(second%60, 2) + timeEnd, api.OK
}

// ToTime reads one.
func ToTime(s string) (int64, api.Errno) {
	if !hasTimeForm(s) {
		return 0, api.ErrForm
	}
	year, month, day := value(s[:4]), value(s[4:6]), value(s[6:8])
	hour, minute, second := value(s[8:10]), value(s[10:12]), value(s[12:14])
	if !isDay(year, month, day) || hour > 23 || minute > 59 || second > 59 {
		return 0, api.ErrForm
	}
	days := daysAhead(year) + day - 1
	for m := 1; m < month; m++ {
		days += monthDays(year, m)
	}
	return api.LeastTime + int64(days)*daySeconds + int64(3600*hour+60*minute+second), api.OK
}

// hasTimeForm tells whether a text is as many digits as a time has, and the letter behind them.
func hasTimeForm(s string) bool {
	if len(s) != timeDigits+len(timeEnd) || !strings.HasSuffix(s, timeEnd) {
		return false
	}
	for i := range timeDigits {
		if s[i] < '0' || s[i] > '9' {
			return false
		}
	}
	return true
}

// digits is a number that is not below 0, with digits 0 ahead up to the size that is told.
func digits(n, size int) string {
	s := strconv.Itoa(n)
	return strings.Repeat("0", size-len(s)) + s
}

// value is the number of a few digits.
func value(s string) int {
	n := 0
	for i := range len(s) {
		n = 10*n + int(s[i]-'0')
	}
	return n
}

// dateOf is the day that comes so many days behind the first one of the year 1, up to the last year.
func dateOf(days int) (year, month, day int) {
	year = 1 + sort.Search(lastYear-1, func(past int) bool { return daysAhead(past+2) > days })
	days -= daysAhead(year)
	month = 1
	for days >= monthDays(year, month) {
		days -= monthDays(year, month)
		month++
	}
	return year, month, days + 1
}

func isDay(year, month, day int) bool {
	return year >= 1 && month >= 1 && month <= months && day >= 1 && day <= monthDays(year, month)
}

// daysAhead is how many days there are from the first one of the year 1 to the first one of a year.
func daysAhead(year int) int {
	past := year - 1
	return 365*past + past/4 - past/100 + past/400
}

// monthDays is how many days a month has, from 1 to 12.
func monthDays(year, month int) int {
	switch month {
	case 2:
		return daysAhead(year+1) - daysAhead(year) - 337 // what the other months leave of the year
	case 4, 6, 9, 11:
		return 30
	}
	return 31
}
