package calendar

import (
	"strings"

	"almucantar/api"
	"almucantar/decimal"
)

// Digits of a year, and of a month or a day.
const (
	yearWidth  = 4
	monthWidth = 2
	dayWidth   = 2
)

// leading makes a number with leading zeros the fraction of a decimal text, in which layer 1 writes and reads them.
const leading = "0."

// Text returns the text of a date.
func Text(d api.Date) (string, api.Errno) {
	if !Valid(d) {
		return "", api.ErrArg
	}
	return padded(d.Year, yearWidth) + "-" + padded(d.Month, monthWidth) + "-" + padded(d.Day, dayWidth), api.OK
}

// Parse returns the valid date with a text.
func Parse(s string) (api.Date, api.Errno) {
	// Without a hyphen, what should follow it is empty, which is no number.
	year, rest, _ := strings.Cut(s, "-")
	month, day, _ := strings.Cut(rest, "-")
	d := api.Date{Year: unpadded(year, yearWidth), Month: unpadded(month, monthWidth), Day: unpadded(day, dayWidth)}
	if !Valid(d) {
		return api.Date{}, api.ErrForm
	}
	return d, api.OK
}

// padded returns the digits of a number, with leading zeros up to the width.
func padded(n, width int) string {
	// No error is possible, since the parts of a date are small.
	text, _ := decimal.Format(n, width)
	return strings.TrimPrefix(text, leading)
}

// unpadded returns the number that as many digits as the width stand for, or 0, which no part of a date is, for all other strings.
func unpadded(s string, width int) int {
	if len(s) != width {
		return 0
	}
	n, e := decimal.Parse(leading+s, width)
	if e != api.OK {
		return 0
	}
	return n
}
