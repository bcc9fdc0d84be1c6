package calendar_test

import (
	"math"
	"math/big"
	"math/rand/v2"
	"slices"
	"sync"
	"testing"

	"almucantar/api"
	"almucantar/calendar"
)

const (
	rounds      = 200000
	firstNumber = -730119
	lastNumber  = 2921939
)

func date(year, month, day int) api.Date { return api.Date{Year: year, Month: month, Day: day} }

var (
	first    = date(1, 1, 1)
	last     = date(9999, 12, 31)
	epoch    = date(2000, 1, 1)
	noDate   = api.Date{}
	ends     = []int{math.MinInt, math.MinInt + 1, math.MaxInt - 1, math.MaxInt}
	badDates = []api.Date{
		{}, date(0, 1, 1), date(0, 12, 31), date(10000, 1, 1), date(-1, 1, 1), date(-2024, 2, 29),
		date(2024, 0, 1), date(2024, 13, 1), date(2024, -1, 1), date(2024, 1, 0), date(2024, 1, -1), date(2024, 1, 32),
		date(2023, 2, 29), date(1900, 2, 29), date(2024, 2, 30), date(2024, 4, 31), date(2024, 6, 31), date(2024, 9, 31), date(2024, 11, 31), date(2024, 12, 32),
		date(math.MinInt, 1, 1), date(math.MaxInt, 1, 1), date(2024, math.MinInt, 1), date(2024, math.MaxInt, 1), date(2024, 1, math.MinInt), date(2024, 1, math.MaxInt),
		date(math.MinInt, math.MinInt, math.MinInt), date(math.MaxInt, math.MaxInt, math.MaxInt),
	}
)

// isLeap is the definition, in exact integers.
func isLeap(year int) bool {
	divisible := func(by int64) bool {
		return new(big.Int).Mod(big.NewInt(int64(year)), big.NewInt(by)).Sign() == 0
	}
	return divisible(4) && !divisible(100) || divisible(400)
}

// monthLength is the definition, for a month from 1 to 12.
func monthLength(month int, inLeapYear bool) int {
	switch month {
	case 2:
		if inLeapYear {
			return 29
		}
		return 28
	case 4, 6, 9, 11:
		return 30
	}
	return 31
}

// isDate is the definition of a valid date.
func isDate(d api.Date) bool {
	return d.Year >= 1 && d.Year <= 9999 && d.Month >= 1 && d.Month <= 12 && d.Day >= 1 && d.Day <= monthLength(d.Month, isLeap(d.Year))
}

// allDates are all valid dates in their order, by going day by day.
var allDates = sync.OnceValue(func() []api.Date {
	list := make([]api.Date, 0, lastNumber-firstNumber+1)
	for year := 1; year <= 9999; year++ {
		inLeapYear := isLeap(year)
		for month := 1; month <= 12; month++ {
			for day := 1; day <= monthLength(month, inLeapYear); day++ {
				list = append(list, date(year, month, day))
			}
		}
	}
	return list
})

// indexOfEpoch is the place of 2000-01-01 among all dates.
var indexOfEpoch = sync.OnceValue(func() int { return slices.Index(allDates(), epoch) })

// numbers are reproducible random numbers.
type numbers struct{ source *rand.Rand }

func newNumbers() numbers { return numbers{rand.New(rand.NewPCG(9, 9))} }

// int is any int, small ones as likely as great ones.
func (r numbers) int() int { return int(r.source.Uint64()) >> r.source.IntN(64) }

// near is a number that is, or is nearly, one of a range from 0.
func (r numbers) near(most int) int { return r.source.IntN(most+4) - 1 }

// P9.1: each of the years, months and days that are near to a limit, with each other.
func TestValid(t *testing.T) {
	years := append([]int{-2000, -400, -4, -1, 0, 1, 3, 4, 100, 400, 1899, 1900, 1904, 1999, 2000, 2001, 2023, 2024, 2100, 9996, 9999, 10000, 12000}, ends...)
	for _, year := range years {
		for _, month := range append([]int{-12, -1, 0, 1, 2, 3, 4, 5, 6, 7, 8, 9, 10, 11, 12, 13, 14, 24}, ends...) {
			for _, day := range append([]int{-31, -1, 0, 1, 2, 15, 27, 28, 29, 30, 31, 32, 33, 59}, ends...) {
				d := date(year, month, day)
				if got := calendar.Valid(d); got != isDate(d) {
					t.Errorf("Valid(%v) = %t", d, got)
				}
			}
		}
	}
	for _, d := range allDates() {
		if !calendar.Valid(d) {
			t.Fatalf("Valid(%v) = false", d)
		}
	}
	for _, d := range badDates {
		if calendar.Valid(d) {
			t.Errorf("Valid(%v) = true", d)
		}
	}
}

// P9.1: the years that the chapter names, negative ones, and the ends of the ints.
func TestLeapExamples(t *testing.T) {
	for _, c := range []struct {
		year int
		want bool
	}{
		{0, true}, {1, false}, {2, false}, {3, false}, {4, true}, {8, true}, {100, false}, {200, false}, {300, false}, {400, true}, {404, true},
		{1700, false}, {1800, false}, {1896, true}, {1900, false}, {1904, true}, {1996, true}, {1999, false}, {2000, true}, {2001, false}, {2023, false}, {2024, true}, {2100, false}, {2400, true},
		{9996, true}, {9999, false}, {10000, true}, {10100, false}, {12000, true},
		{-1, false}, {-2, false}, {-3, false}, {-4, true}, {-100, false}, {-104, true}, {-200, false}, {-300, false}, {-400, true}, {-401, false}, {-1900, false}, {-2000, true},
		{math.MaxInt, false}, {math.MaxInt - 3, true}, {math.MaxInt - 7, false}, {math.MaxInt - 207, true},
		{math.MinInt, true}, {math.MinInt + 1, false}, {math.MinInt + 8, false}, {math.MinInt + 208, true},
	} {
		if got := calendar.Leap(c.year); got != c.want {
			t.Errorf("Leap(%d) = %t", c.year, got)
		}
	}
}

// P9.1: all years of some thousands around 0, and any ints.
func TestLeap(t *testing.T) {
	check := func(year int) {
		if got := calendar.Leap(year); got != isLeap(year) {
			t.Errorf("Leap(%d) = %t", year, got)
		}
	}
	for year := -20000; year <= 20000; year++ {
		check(year)
	}
	r := newNumbers()
	for range rounds {
		year := r.int()
		check(year)
		check(year / 100 * 100)
		check(year / 400 * 400)
	}
}

func wantDays(t *testing.T, year, month, want int, wantErr api.Errno) {
	t.Helper()
	if got, e := calendar.Days(year, month); got != want || e != wantErr {
		t.Errorf("Days(%d, %d) = %d, %d; want %d, %d", year, month, got, e, want, wantErr)
	}
}

// P9.1: all months of all years, Februaries that are known, and years and months out of range.
func TestDays(t *testing.T) {
	for year := 1; year <= 9999; year++ {
		for month := 1; month <= 12; month++ {
			wantDays(t, year, month, monthLength(month, isLeap(year)), api.OK)
		}
	}
	for _, c := range []struct{ year, want int }{{1, 28}, {4, 29}, {100, 28}, {400, 29}, {1900, 28}, {2000, 29}, {2023, 28}, {2024, 29}, {9996, 29}, {9999, 28}} {
		wantDays(t, c.year, 2, c.want, api.OK)
	}
	for _, year := range append([]int{-400, -1, 0, 10000, 10400}, ends...) {
		for _, month := range append([]int{-1, 0, 1, 2, 12, 13}, ends...) {
			wantDays(t, year, month, 0, api.ErrRange)
		}
	}
	for _, year := range []int{1, 4, 1900, 2000, 9999} {
		for _, month := range append([]int{-12, -1, 0, 13, 14, 256}, ends...) {
			wantDays(t, year, month, 0, api.ErrRange)
		}
	}
}
