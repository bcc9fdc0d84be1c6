package decimal_test

import (
	"fmt"
	"math"
	"math/big"
	"regexp"
	"strings"
	"testing"

	"almucantar/api"
	"almucantar/decimal"
)

const (
	greatest     = 1 << 60
	greatestUnit = 1 << 40
)

// numbers are the ends of the range, numbers beside them, and those at which the number of digits changes.
func numbers() []int {
	list := []int{0, 5, 7, 12, 50, 1234, greatest - 1, greatest}
	for power := 1; power < greatest/10; power *= 10 {
		list = append(list, power-1, power, power+1)
	}
	for _, n := range list {
		list = append(list, -n)
	}
	return list
}

// outside are numbers beyond both ends of the range.
var outside = []int{greatest + 1, -greatest - 1, math.MaxInt, math.MinInt, math.MinInt + 1, 1 << 61, -1 << 61, 1 << 62}

// invalidDigits are numbers of digits that are not from 0 to 9.
var invalidDigits = []int{-1, 10, math.MinInt, math.MaxInt}

// invalidUnits are units that are not from 1 to 2^40.
var invalidUnits = []int{0, -1, greatestUnit + 1, math.MinInt, math.MaxInt}

func power(digits int) *big.Int {
	return new(big.Int).Exp(big.NewInt(10), big.NewInt(int64(digits)), nil)
}

// exactText is the decimal text as exact fractions print it.
func exactText(n, digits int) string {
	return new(big.Rat).SetFrac(big.NewInt(int64(n)), power(digits)).FloatString(digits)
}

func wantFormat(t *testing.T, n, digits int, want string, wantErr api.Errno) {
	t.Helper()
	if s, e := decimal.Format(n, digits); s != want || e != wantErr {
		t.Errorf("Format(%d, %d) = %q, %d; want %q, %d", n, digits, s, e, want, wantErr)
	}
}

func wantParse(t *testing.T, s string, digits, want int, wantErr api.Errno) {
	t.Helper()
	if n, e := decimal.Parse(s, digits); n != want || e != wantErr {
		t.Errorf("Parse(%q, %d) = %d, %d; want %d, %d", s, digits, n, e, want, wantErr)
	}
}

func wantRound(t *testing.T, lo, hi, unit, want int, wantErr api.Errno) {
	t.Helper()
	if n, e := decimal.Round(lo, hi, unit); n != want || e != wantErr {
		t.Errorf("Round(%d, %d, %d) = %d, %d; want %d, %d", lo, hi, unit, n, e, want, wantErr)
	}
}

func wantPrint(t *testing.T, lo, hi, unit, digits int, want string, wantErr api.Errno) {
	t.Helper()
	if s, e := decimal.Print(lo, hi, unit, digits); s != want || e != wantErr {
		t.Errorf("Print(%d, %d, %d, %d) = %q, %d; want %q, %d", lo, hi, unit, digits, s, e, want, wantErr)
	}
}

// P1.1: examples of the chapter, and the ends of the range.
func TestFormatWritesExamples(t *testing.T) {
	for _, c := range []struct {
		n, digits int
		want      string
	}{
		{-1234, 2, "-12.34"},
		{5, 3, "0.005"},
		{-5, 3, "-0.005"},
		{0, 0, "0"},
		{0, 9, "0.000000000"},
		{10, 0, "10"},
		{100, 2, "1.00"},
		{-100, 2, "-1.00"},
		{-99, 2, "-0.99"},
		{greatest, 0, "1152921504606846976"},
		{-greatest, 0, "-1152921504606846976"},
		{greatest, 9, "1152921504.606846976"},
		{-greatest, 9, "-1152921504.606846976"},
		{-1, 9, "-0.000000001"},
	} {
		wantFormat(t, c.n, c.digits, c.want, api.OK)
	}
}

// P1.1: every number of digits.
func TestFormatWritesExactFractions(t *testing.T) {
	for _, n := range numbers() {
		for digits := 0; digits <= 9; digits++ {
			wantFormat(t, n, digits, exactText(n, digits), api.OK)
		}
	}
}

// P1.1: ErrRange comes before ErrBig.
func TestFormatRejects(t *testing.T) {
	for _, n := range outside {
		for digits := 0; digits <= 9; digits++ {
			wantFormat(t, n, digits, "", api.ErrBig)
		}
	}
	for _, digits := range invalidDigits {
		for _, n := range append(numbers(), outside...) {
			wantFormat(t, n, digits, "", api.ErrRange)
		}
	}
}

// P1.2: examples of the chapter, missing digits, and the ends of the range.
func TestParseReadsExamples(t *testing.T) {
	for _, c := range []struct {
		s            string
		digits, want int
	}{
		{"12.3", 2, 1230},
		{"12.34", 2, 1234},
		{"12", 2, 1200},
		{"-12.3", 2, -1230},
		{"0", 9, 0},
		{"-0", 0, 0},
		{"-0.0", 1, 0},
		{"-0.5", 1, -5},
		{"0.000000001", 9, 1},
		{"7.0", 9, 7000000000},
		{"1152921504606846976", 0, greatest},
		{"-1152921504606846976", 0, -greatest},
		{"1152921504.606846976", 9, greatest},
		{"-1152921504.606846976", 9, -greatest},
		{"1152921504.60684697", 9, greatest - 6},
	} {
		wantParse(t, c.s, c.digits, c.want, api.OK)
	}
}

// P1.2: what is not of the form is ErrForm, even if it is too big.
func TestParseRejectsOtherForms(t *testing.T) {
	for _, s := range []string{
		"", "-", "--1", "+1", " 1", "1 ", "- 1", "1\n", "1\x00", "x", "1x", "x1", "1e3", "0x1", "1_0", "1,5",
		".", "-.", ".5", "-.5", "5.", "-5.", "1..5", "1.5.", "1.5.5", "1.-5", "1.5-", "1. 5", "1.x",
		"00", "01", "-00", "-01", "00.5", "012", "\xff", "١", "1.0000000000",
		strings.Repeat("9", 40) + "x", strings.Repeat("9", 40) + ".", strings.Repeat("9", 40) + "-",
		"0" + strings.Repeat("9", 40), "1." + strings.Repeat("0", 5000),
	} {
		for digits := 0; digits <= 9; digits++ {
			wantParse(t, s, digits, 0, api.ErrForm)
		}
	}
}

// P1.2: 1 to digits further digits may follow the point, and none if digits is 0.
func TestParseCountsDigits(t *testing.T) {
	for digits := 0; digits <= 9; digits++ {
		for further := 1; further <= 12; further++ {
			s := "3." + "123456789123"[:further]
			if further > digits {
				wantParse(t, s, digits, 0, api.ErrForm)
				continue
			}
			want := 3123456789
			for range 9 - further {
				want /= 10
			}
			for range digits - further {
				want *= 10
			}
			wantParse(t, s, digits, want, api.OK)
		}
	}
}

// P1.2: ErrBig is the last error, ErrRange the first.
func TestParseRejectsBigNumbers(t *testing.T) {
	for _, c := range []struct {
		s      string
		digits int
	}{
		{"1152921504606846977", 0},
		{"-1152921504606846977", 0},
		{"1152921504.606846977", 9},
		{"1152921505", 9},
		{"115292150460684698", 1},
		{"9223372036854775807", 0},
		{"9223372036854775808", 0},
		{"-9223372036854775808", 0},
		{"18446744073709551616", 0},
		{"18446744073709551617", 0},
		{"36893488147419103232", 0},
		{"1" + strings.Repeat("0", 64), 0},
		{strings.Repeat("9", 5000), 9},
		{"-" + strings.Repeat("9", 5000) + ".5", 9},
	} {
		wantParse(t, c.s, c.digits, 0, api.ErrBig)
	}
	for _, digits := range invalidDigits {
		for _, s := range []string{"", "1", "x", "1.5", strings.Repeat("9", 30)} {
			wantParse(t, s, digits, 0, api.ErrRange)
		}
	}
}

// P1.2: all short strings over some bytes, compared with a pattern.
func TestParseAgreesWithPattern(t *testing.T) {
	for digits := 0; digits <= 3; digits++ {
		form := `^-?(0|[1-9][0-9]*)$`
		if digits > 0 {
			form = fmt.Sprintf(`^-?(0|[1-9][0-9]*)(\.[0-9]{1,%d})?$`, digits)
		}
		pattern := regexp.MustCompile(form)
		everyString("-.019x", 5, func(s string) {
			if !pattern.MatchString(s) {
				wantParse(t, s, digits, 0, api.ErrForm)
				return
			}
			value, _ := new(big.Rat).SetString(s)
			value.Mul(value, new(big.Rat).SetInt(power(digits)))
			wantParse(t, s, digits, int(value.Num().Int64()), api.OK)
		})
	}
}

// everyString visits all strings over the letters of up to the length.
func everyString(letters string, length int, visit func(string)) {
	visitAfter("", letters, length, visit)
}

func visitAfter(prefix, letters string, length int, visit func(string)) {
	visit(prefix)
	if length == 0 {
		return
	}
	for i := range len(letters) {
		visitAfter(prefix+letters[i:i+1], letters, length-1, visit)
	}
}

// P1.3: halves go up, for negative numbers too.
func TestRoundExamples(t *testing.T) {
	for _, c := range []struct{ lo, hi, unit, want int }{
		{150, 249, 100, 2},
		{149, 149, 100, 1},
		{50, 50, 100, 1},
		{49, 49, 100, 0},
		{-50, -50, 100, 0},
		{-51, -51, 100, -1},
		{-150, -51, 100, -1},
		{-151, -151, 100, -2},
		{-50, 49, 100, 0},
		{1, 1, 2, 1},
		{-1, -1, 2, 0},
		{-2, -2, 2, -1},
		{-3, -3, 2, -1},
		{1, 1, 3, 0},
		{-1, 1, 3, 0},
		{2, 4, 3, 1},
		{-4, -2, 3, -1},
		{7, 7, 1, 7},
		{-7, -7, 1, -7},
		{greatest, greatest, 1, greatest},
		{-greatest, -greatest, 1, -greatest},
		{greatest, greatest, greatestUnit, 1 << 20},
		{-greatest, -greatest, greatestUnit, -1 << 20},
		{1 << 39, 1 << 39, greatestUnit, 1},
		{-1 << 39, 1<<39 - 1, greatestUnit, 0},
		{-1<<39 - 1, -1<<39 - 1, greatestUnit, -1},
	} {
		wantRound(t, c.lo, c.hi, c.unit, c.want, api.OK)
	}
}

// exactNearest is floor((2 n + unit) / (2 unit)); Div is rounded down, since the divisor is positive.
func exactNearest(n, unit int) int {
	dividend := new(big.Int).Lsh(big.NewInt(int64(n)), 1)
	dividend.Add(dividend, big.NewInt(int64(unit)))
	return int(dividend.Div(dividend, big.NewInt(2*int64(unit))).Int64())
}

var units = []int{1, 2, 3, 7, 10, 60, 100, 1000, 60000, 1<<39 + 1, greatestUnit - 1, greatestUnit}

// P1.3, P1.4: the formula, for the ends of the range and around zero.
func TestRoundIsTheFormula(t *testing.T) {
	list := numbers()
	for n := -250; n <= 250; n++ {
		list = append(list, n)
	}
	for _, unit := range units {
		for _, lo := range list {
			for _, hi := range []int{lo, lo + 1, lo + unit/2, lo + unit} {
				if hi > greatest {
					continue
				}
				low, high := exactNearest(lo, unit), exactNearest(hi, unit)
				if low == high {
					wantRound(t, lo, hi, unit, low, api.OK)
					wantPrint(t, lo, hi, unit, 3, exactText(low, 3), api.OK)
				} else {
					wantRound(t, lo, hi, unit, 0, api.ErrWide)
					wantPrint(t, lo, hi, unit, 3, exactText(low, 3)+" .. "+exactText(high, 3), api.OK)
				}
			}
		}
	}
}

// badEnds are arguments of Round and Print with their first error, which digits that are not valid do not change.
var badEnds = []struct {
	lo, hi, unit int
	want         api.Errno
}{
	{greatest + 1, greatest + 1, 1, api.ErrBig},
	{0, greatest + 1, 1, api.ErrBig},
	{-greatest - 1, 0, greatestUnit, api.ErrBig},
	{greatest + 1, 0, 1, api.ErrBig},
	{0, -greatest - 1, 1, api.ErrBig},
	{math.MaxInt, math.MinInt, 1, api.ErrBig},
	{math.MinInt, math.MaxInt, 1, api.ErrBig},
	{1, 0, 1, api.ErrArg},
	{1, 0, 100, api.ErrArg},
	{251, 149, 100, api.ErrArg},
	{greatest, -greatest, greatestUnit, api.ErrArg},
}

// P1.3, P1.4: ErrRange for the unit, then ErrBig, then ErrArg.
func TestRoundRejects(t *testing.T) {
	for _, c := range badEnds {
		wantRound(t, c.lo, c.hi, c.unit, 0, c.want)
		for _, digits := range append([]int{0, 9}, invalidDigits...) {
			wantPrint(t, c.lo, c.hi, c.unit, digits, "", c.want)
		}
		for _, unit := range invalidUnits {
			wantRound(t, c.lo, c.hi, unit, 0, api.ErrRange)
			wantPrint(t, c.lo, c.hi, unit, 2, "", api.ErrRange)
		}
	}
	for _, unit := range invalidUnits {
		wantRound(t, 0, 0, unit, 0, api.ErrRange)
		wantPrint(t, 0, 0, unit, 2, "", api.ErrRange)
	}
	wantRound(t, 149, 150, 100, 0, api.ErrWide)
	wantRound(t, -51, -50, 100, 0, api.ErrWide)
	wantRound(t, -greatest, greatest, 1, 0, api.ErrWide)
	wantRound(t, greatest-1, greatest, 1, 0, api.ErrWide)
}

// P1.4: one text, or two, with each number of digits.
func TestPrintExamples(t *testing.T) {
	for _, c := range []struct {
		lo, hi, unit, digits int
		want                 string
	}{
		{149, 151, 100, 1, "0.1 .. 0.2"},
		{150, 249, 100, 1, "0.2"},
		{-151, -150, 100, 1, "-0.2 .. -0.1"},
		{-51, 50, 100, 0, "-1 .. 1"},
		{-50, 49, 100, 0, "0"},
		{-1, -1, 2, 2, "0.00"},
		{0, 10000, 100, 2, "0.00 .. 1.00"},
		{-greatest, greatest, 1, 0, "-1152921504606846976 .. 1152921504606846976"},
		{-greatest, greatest, 1, 9, "-1152921504.606846976 .. 1152921504.606846976"},
		{-greatest, greatest, greatestUnit, 0, "-1048576 .. 1048576"},
	} {
		wantPrint(t, c.lo, c.hi, c.unit, c.digits, c.want, api.OK)
	}
	for digits := 0; digits <= 9; digits++ {
		wantPrint(t, 120, 130, 100, digits, exactText(1, digits), api.OK)
		wantPrint(t, 120, 180, 100, digits, exactText(1, digits)+" .. "+exactText(2, digits), api.OK)
	}
}

// P1.4: ErrRange for the digits is the last error, and comes although the ends round to different multiples.
func TestPrintRejectsDigits(t *testing.T) {
	for _, digits := range invalidDigits {
		wantPrint(t, 0, 0, 1, digits, "", api.ErrRange)
		wantPrint(t, 149, 151, 100, digits, "", api.ErrRange)
	}
}

// P1.6: decimal texts are read back.
func TestTextsAreReadBack(t *testing.T) {
	for _, n := range numbers() {
		for digits := 0; digits <= 9; digits++ {
			s, _ := decimal.Format(n, digits)
			wantParse(t, s, digits, n, api.OK)
		}
	}
}

// P1.6: a number lies within half a unit of its multiple, and rounding keeps the order.
func TestRoundingIsNearAndKeepsOrder(t *testing.T) {
	for _, unit := range []int{1, 2, 3, 10, 99, 100} {
		last := math.MinInt
		for n := -1000; n <= 1000; n++ {
			multiple, e := decimal.Round(n, n, unit)
			if e != api.OK || 2*n-2*unit*multiple < -unit || 2*n-2*unit*multiple >= unit {
				t.Error(n, unit, multiple, e)
			}
			if multiple < last {
				t.Error("order", n, unit, last, multiple)
			}
			last = multiple
		}
	}
}
