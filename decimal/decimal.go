// Package decimal is layer 1: decimal numbers, their rounding, and tokens of texts; see shared/doc/01-decimal.md.
package decimal

import (
	"strings"

	"almucantar/api"
)

const (
	greatest  = 1 << 60 // the greatest absolute value of a number
	maxDigits = 9       // digits after the point
	maxUnit   = 1 << 40 // the greatest unit to round to
)

// Format returns the decimal text of n with the digits after the point.
func Format(n, digits int) (string, api.Errno) {
	if !validDigits(digits) {
		return "", api.ErrRange
	}
	if !fits(n) {
		return "", api.ErrBig
	}
	return decimalText(n, digits), api.OK
}

// Parse returns the integer n for which the string stands for n / 10^digits.
func Parse(s string, digits int) (int, api.Errno) {
	if !validDigits(digits) {
		return 0, api.ErrRange
	}
	unsigned, negative := strings.CutPrefix(s, "-")
	whole, fraction, pointed := strings.Cut(unsigned, ".")
	if !isWhole(whole) || pointed && !isFraction(fraction, digits) {
		return 0, api.ErrForm
	}
	missing := strings.Repeat("0", digits-len(fraction))
	n, ok := magnitude(whole + fraction + missing)
	if !ok {
		return 0, api.ErrBig
	}
	if negative {
		n = -n
	}
	return n, api.OK
}

// Round returns the multiple of the unit (divided by it) to which both lo and hi round.
func Round(lo, hi, unit int) (int, api.Errno) {
	low, high, e := roundEnds(lo, hi, unit)
	if e != api.OK {
		return 0, e
	}
	if low != high {
		return 0, api.ErrWide
	}
	return low, api.OK
}

// Print returns the decimal text of the multiple to which lo and hi round, or both texts if they round to different ones.
func Print(lo, hi, unit, digits int) (string, api.Errno) {
	low, high, e := roundEnds(lo, hi, unit)
	if e != api.OK {
		return "", e
	}
	if !validDigits(digits) {
		return "", api.ErrRange
	}
	if low == high {
		return decimalText(low, digits), api.OK
	}
	return decimalText(low, digits) + " .. " + decimalText(high, digits), api.OK
}

func validDigits(digits int) bool { return digits >= 0 && digits <= maxDigits }

func fits(n int) bool { return n >= -greatest && n <= greatest }

// decimalText writes a number that fits with a valid number of digits.
func decimalText(n, digits int) string {
	rest := n
	if n < 0 {
		rest = -n
	}
	// A sign, a point, and the 19 digits of the greatest number have room.
	text := make([]byte, 24)
	first := len(text)
	for written := 0; written <= digits || rest > 0; written++ {
		if written == digits && digits > 0 {
			first--
			text[first] = '.'
		}
		first--
		text[first] = byte('0' + rest%10)
		rest /= 10
	}
	if n < 0 {
		first--
		text[first] = '-'
	}
	return string(text[first:])
}

// isWhole reports whether a string is an integral part without superfluous zeros.
func isWhole(s string) bool { return isDigits(s) && (len(s) == 1 || s[0] != '0') }

func isFraction(s string, digits int) bool { return isDigits(s) && len(s) <= digits }

func isDigits(s string) bool { return s != "" && endOfRun(s, 0, isDigit) == len(s) }

// magnitude returns the number that the digits stand for, and whether it fits.
func magnitude(digits string) (int, bool) {
	n := 0
	for i := range len(digits) {
		digit := int(digits[i] - '0')
		// Looked at before the step, since the product itself could overflow.
		if n > (greatest-digit)/10 {
			return 0, false
		}
		n = 10*n + digit
	}
	return n, true
}

// roundEnds returns the multiples (divided by the unit) to which lo and hi round, or the first error of Round but ErrWide.
func roundEnds(lo, hi, unit int) (int, int, api.Errno) {
	if unit < 1 || unit > maxUnit {
		return 0, 0, api.ErrRange
	}
	if !fits(lo) || !fits(hi) {
		return 0, 0, api.ErrBig
	}
	if lo > hi {
		return 0, 0, api.ErrArg
	}
	return nearest(lo, unit), nearest(hi, unit), api.OK
}

// nearest returns floor((2 n + unit) / (2 unit)).
func nearest(n, unit int) int {
	dividend, divisor := 2*n+unit, 2*unit
	quotient := dividend / divisor
	// Go's division cuts off towards zero, which is up for a negative dividend.
	if dividend%divisor < 0 {
		quotient--
	}
	return quotient
}
