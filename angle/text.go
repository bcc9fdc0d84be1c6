package angle

import (
	"strconv"
	"strings"

	"almucantar/api"
)

const (
	minuteDigits = 2 // digits of whole minutes
	maxDigits    = 3 // digits of a fraction of a minute, at most
)

// Text returns the text of an integer in degrees and minutes.
func Text(n int) (string, api.Errno) {
	if !fits(n) {
		return "", api.ErrBig
	}
	var text strings.Builder
	rest := n
	if n < 0 {
		text.WriteByte('-')
		rest = -n
	}
	text.WriteString(strconv.Itoa(rest / api.Degree))
	text.WriteByte('-')
	text.WriteString(padded(rest%api.Degree/api.Minute, minuteDigits))
	text.WriteByte('.')
	text.WriteString(fractionText(rest % api.Minute))
	return text.String(), api.OK
}

// Parse returns the integer that a text in degrees and minutes stands for.
func Parse(s string) (int, api.Errno) {
	unsigned, negative := strings.CutPrefix(s, "-")
	// Without a hyphen, there are no minutes, which is not their form.
	degreeText, minuteText, _ := strings.Cut(unsigned, "-")
	wholeText, fraction, pointed := strings.Cut(minuteText, ".")
	if !isDegrees(degreeText) || !isMinutes(wholeText) || pointed && !isFraction(fraction) {
		return 0, api.ErrForm
	}
	// All of them are digits, so that only the degrees can be too great for an int.
	degrees, err := strconv.Atoi(degreeText)
	if err != nil || degrees > api.MaxArc/api.Degree {
		return 0, api.ErrBig
	}
	missing := strings.Repeat("0", maxDigits-len(fraction))
	thousandths, _ := strconv.Atoi(wholeText + fraction + missing)
	n := degrees*api.Degree + thousandths
	if negative {
		n = -n
	}
	if !fits(n) {
		return 0, api.ErrBig
	}
	return n, api.OK
}

// Print returns the text of the tenth to which both ends round, or both texts if they round to different ones.
func Print(a api.Arc) (string, api.Errno) {
	if !Valid(a) {
		return "", api.ErrArg
	}
	rounded, e := fitted(nearestTenth(a.Lo), nearestTenth(a.Hi))
	if e != api.OK {
		return "", e
	}
	// No error is possible, since both ends fit.
	low, _ := Text(rounded.Lo)
	high, _ := Text(rounded.Hi)
	if low == high {
		return low, api.OK
	}
	return low + " .. " + high, api.OK
}

// nearestTenth returns the tenth to which a number rounds, in units.
func nearestTenth(n int) int { return floor(n+api.Tenth/2, api.Tenth) * api.Tenth }

// fractionText writes thousandths with one digit if it is enough, and otherwise with all three.
func fractionText(thousandths int) string {
	if thousandths%api.Tenth == 0 {
		return strconv.Itoa(thousandths / api.Tenth)
	}
	return padded(thousandths, maxDigits)
}

// padded writes a number of no more digits than the width with leading zeros.
func padded(n, width int) string {
	digits := strconv.Itoa(n)
	return strings.Repeat("0", width-len(digits)) + digits
}

// isDegrees reports whether a string is a number without superfluous zeros.
func isDegrees(s string) bool { return isDigits(s) && (len(s) == 1 || s[0] != '0') }

func isMinutes(s string) bool { return isDigits(s) && len(s) == minuteDigits && s < "60" }

func isFraction(s string) bool { return isDigits(s) && len(s) <= maxDigits }

func isDigits(s string) bool {
	for i := range len(s) {
		if s[i] < '0' || s[i] > '9' {
			return false
		}
	}
	return s != ""
}
