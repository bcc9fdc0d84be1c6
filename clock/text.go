package clock

import (
	"strconv"
	"strings"

	"almucantar/api"
	"almucantar/calendar"
)

const (
	second = 1000        // milliseconds
	minute = 60 * second // milliseconds

	clockWidth    = 2 // digits of an hour, a minute, or a second
	fractionWidth = 3 // digits of the milliseconds behind a point
)

// part is a number in the text of a time of day.
type part struct {
	text                   string
	width, least, greatest int
	unit                   int // milliseconds
}

// Text returns the text of an instant.
func Text(t int) (string, api.Errno) {
	d, ms, e := Split(t)
	if e != api.OK {
		return "", e
	}
	// No error is possible, since Split returns valid dates alone.
	date, _ := calendar.Text(d)
	return date + " " + clockText(ms), api.OK
}

// Parse returns the instant with a text.
func Parse(s string) (int, api.Errno) {
	// Without a space, what should follow it is empty, which is no time of day.
	date, clock, _ := strings.Cut(s, " ")
	d, e := calendar.Parse(date)
	ms, ok := parseClock(clock)
	if e != api.OK || !ok {
		return 0, api.ErrForm
	}
	return At(d, ms)
}

// clockText writes the milliseconds since the beginning of a day.
func clockText(ms int) string {
	text := padded(ms/api.Hour, clockWidth) + ":" + padded(ms%api.Hour/minute, clockWidth) + ":" + padded(ms%minute/second, clockWidth)
	if ms%second == 0 {
		return text
	}
	return text + "." + padded(ms%second, fractionWidth)
}

// parseClock returns the milliseconds since the beginning of a day that a text stands for, and whether it has the form.
func parseClock(s string) (int, bool) {
	// Without a colon, what should follow it is empty, which is no number.
	hour, rest, _ := strings.Cut(s, ":")
	minutes, rest, _ := strings.Cut(rest, ":")
	seconds, fraction, pointed := strings.Cut(rest, ".")
	parts := []part{
		{hour, clockWidth, 0, 23, api.Hour},
		{minutes, clockWidth, 0, 59, minute},
		{seconds, clockWidth, 0, 59, second},
	}
	if pointed {
		// A whole second is written without a point, so that 000 does not stand behind one.
		parts = append(parts, part{fraction, fractionWidth, 1, 999, 1})
	}
	ms := 0
	for _, p := range parts {
		n, ok := unpadded(p.text, p.width)
		if !ok || n < p.least || n > p.greatest {
			return 0, false
		}
		ms += n * p.unit
	}
	return ms, true
}

// padded writes a number of no more digits than the width with leading zeros.
func padded(n, width int) string {
	digits := strconv.Itoa(n)
	return strings.Repeat("0", width-len(digits)) + digits
}

// unpadded returns the number that as many digits as the width stand for, and whether the string consists of these.
func unpadded(s string, width int) (int, bool) {
	if len(s) != width {
		return 0, false
	}
	n := 0
	for _, digit := range []byte(s) {
		if digit < '0' || digit > '9' {
			return 0, false
		}
		n = 10*n + int(digit-'0')
	}
	return n, true
}
