package clock_test

import (
	"math"
	"math/big"
	"math/rand/v2"
	"testing"
	"time"

	"almucantar/api"
	"almucantar/clock"
)

const (
	rounds = 100000
	most   = api.MaxTime
	hour   = api.Hour
	day    = api.Day

	firstNumber = -730119           // of 0001-01-01
	lastNumber  = 814453            // of 4229-11-24, on which MaxTime is
	firstMoment = firstNumber * day // the first instant that is on a valid date
)

func date(year, month, day int) api.Date { return api.Date{Year: year, Month: month, Day: day} }

// between is the interval with these ends.
func between(lo, hi int) api.Time { return api.Time{Lo: lo, Hi: hi} }

// only is the interval of one instant.
func only(n int) api.Time { return api.Time{Lo: n, Hi: n} }

var (
	epoch      = date(2000, 1, 1)
	ends       = []int{math.MinInt, math.MinInt + 1, math.MaxInt - 1, math.MaxInt}
	noInstants = append([]int{-most - 1, most + 1, -most - 2, most + 2, -most - day, most + day, -2 * most, 2 * most, -1 << 60, 1 << 60}, ends...)
	badDates   = []api.Date{
		{}, date(0, 12, 31), date(10000, 1, 1), date(-1, 1, 1), date(2024, 0, 1), date(2024, 13, 1), date(2024, 1, 0), date(2024, 1, 32),
		date(2023, 2, 29), date(1900, 2, 29), date(2024, 2, 30), date(2024, 4, 31), date(2024, 6, 31), date(2024, 9, 31), date(2024, 11, 31), date(-229, 2, 6),
		date(math.MinInt, 1, 1), date(math.MaxInt, 1, 1), date(2024, math.MinInt, 1), date(2024, math.MaxInt, 1), date(2024, 1, math.MinInt), date(2024, 1, math.MaxInt),
	}
	invalid = []api.Time{
		between(1, 0), between(0, -1), between(most, -most), between(most, most-1), between(1-most, -most), between(day, day-1),
		between(-most-1, 0), between(-most-1, -most), between(-most-1, -most-1), between(-most-1, most), between(0, most+1), between(most, most+1), between(most+1, most+1), between(-most, most+1), between(-most-1, most+1), between(most+1, most+2), between(-most-2, -most-1),
		between(math.MinInt, 0), between(0, math.MaxInt), between(math.MinInt, math.MaxInt), between(math.MaxInt, math.MinInt), only(math.MinInt), only(math.MaxInt), between(most, math.MinInt), between(math.MaxInt, -most),
	}
)

func isInstant(n int) bool { return n >= -most && n <= most }

// isDate is whether Go's library, which moves the 30th of February into March, leaves a date as it is.
func isDate(d api.Date) bool {
	if d.Year < 1 || d.Year > 9999 || d.Month < 1 || d.Month > 12 || d.Day < 1 || d.Day > 31 {
		return false
	}
	year, month, day := moment(d, 0).Date()
	return d == date(year, int(month), day)
}

// moment is the point in time of Go's library.
func moment(d api.Date, ms int) time.Time {
	return time.Date(d.Year, time.Month(d.Month), d.Day, 0, 0, 0, 0, time.UTC).Add(time.Duration(ms) * time.Millisecond)
}

// since2000 are the milliseconds of a point in time of Go's library.
func since2000(m time.Time) int { return int(m.UnixMilli() - moment(epoch, 0).UnixMilli()) }

// momentAt is the point in time of Go's library at an instant.
func momentAt(t int) time.Time {
	return time.UnixMilli(moment(epoch, 0).UnixMilli() + int64(t)).UTC()
}

// quotients are those of exact integers, rounded down and up.
func quotients(n, divisor int) (down, up int) {
	by := big.NewInt(int64(divisor))
	down = int(new(big.Int).Div(big.NewInt(int64(n)), by).Int64())
	up = -int(new(big.Int).Div(new(big.Int).Neg(big.NewInt(int64(n))), by).Int64())
	return down, up
}

// fitting is an exact integer, if it is an instant.
func fitting(n *big.Int) (int, api.Errno) {
	if n.CmpAbs(big.NewInt(most)) > 0 {
		return 0, api.ErrBig
	}
	return int(n.Int64()), api.OK
}

// sum is exact.
func sum(a, b int) *big.Int { return new(big.Int).Add(big.NewInt(int64(a)), big.NewInt(int64(b))) }

// numbers makes ints of all sizes, the same ones in each run.
type numbers struct{ source *rand.Rand }

func newNumbers() numbers { return numbers{rand.New(rand.NewPCG(10, 46))} }

// int is any int, small ones as likely as great ones.
func (r numbers) int() int { return int(r.source.Uint64()) >> r.source.IntN(64) }

// from is a number from lo to hi.
func (r numbers) from(lo, hi int) int { return lo + r.source.IntN(hi-lo+1) }

// instant makes those near to 0, to a limit, and to the beginning of a day as likely as others.
func (r numbers) instant() int {
	switch r.source.IntN(4) {
	case 0:
		return r.from(-most, most) >> r.source.IntN(48)
	case 1:
		return r.from(firstNumber, lastNumber)*day + r.from(-2, 2)
	case 2:
		return (most - r.from(0, 2*day)) * (1 - 2*r.source.IntN(2))
	}
	return r.from(-most, most)
}

func (r numbers) time() api.Time {
	a, b := r.instant(), r.instant()
	if r.source.IntN(2) == 0 {
		b = min(most, a+r.from(0, 3))
	}
	return between(min(a, b), max(a, b))
}

// want compares the result of a function, and its error.
func want[T comparable](t *testing.T, name string, arguments any, got, wanted T, e, wantErr api.Errno) {
	t.Helper()
	if got != wanted || e != wantErr {
		t.Errorf("%s(%v) = %v, %d; want %v, %d", name, arguments, got, e, wanted, wantErr)
	}
}

func wantAt(t *testing.T, d api.Date, ms, wanted int, wantErr api.Errno) {
	t.Helper()
	got, e := clock.At(d, ms)
	want(t, "At", []any{d, ms}, got, wanted, e, wantErr)
}

func wantSplit(t *testing.T, at int, d api.Date, ms int, wantErr api.Errno) {
	t.Helper()
	type parts struct {
		d  api.Date
		ms int
	}
	gotDate, gotMs, e := clock.Split(at)
	want(t, "Split", at, parts{gotDate, gotMs}, parts{d, ms}, e, wantErr)
}

func wantAdd(t *testing.T, a api.Time, lo, hi int, wanted api.Time, wantErr api.Errno) {
	t.Helper()
	got, e := clock.Add(a, lo, hi)
	want(t, "Add", []any{a, lo, hi}, got, wanted, e, wantErr)
}

// P10.1: both ends at the limits and one beyond, equal ends, and a Lo greater than Hi.
func TestValid(t *testing.T) {
	for _, a := range []api.Time{
		{}, only(1), only(-1), only(most), only(-most), between(-most, most), between(-1, 0), between(0, 1), between(-most, 1-most), between(most-1, most), between(-most, 0), between(0, most), between(-most, -1), between(762530709250, 762530709251),
	} {
		if !clock.Valid(a) {
			t.Errorf("%v is not valid", a)
		}
	}
	for _, a := range invalid {
		if clock.Valid(a) {
			t.Errorf("%v is valid", a)
		}
	}
	list := append([]int{-most - 1, -most, 1 - most, -1, 0, 1, most - 1, most, most + 1}, ends...)
	for _, lo := range list {
		for _, hi := range list {
			if got := clock.Valid(between(lo, hi)); got != (isInstant(lo) && isInstant(hi) && lo <= hi) {
				t.Errorf("Valid(%d, %d) = %t", lo, hi, got)
			}
		}
	}
}

// P10.1: the chapter's example, the beginnings and ends of days, before 2000-01-01 too, and the first and the last instants on valid dates.
func TestAtAndSplitExamples(t *testing.T) {
	for _, c := range []struct {
		d        api.Date
		ms, want int
	}{
		{date(2024, 2, 29), 50709250, 762530709250},
		{epoch, 0, 0},
		{epoch, 1, 1},
		{epoch, day - 1, day - 1},
		{date(2000, 1, 2), 0, day},
		{date(2000, 1, 2), 1, day + 1},
		{date(1999, 12, 31), day - 1, -1},
		{date(1999, 12, 31), 1, 1 - day},
		{date(1999, 12, 31), 0, -day},
		{date(1999, 12, 30), day - 1, -day - 1},
		{date(1999, 12, 30), 0, -2 * day},
		{date(2000, 2, 29), 12 * hour, 59*day + 12*hour},
		{date(2001, 1, 1), 0, 366 * day},
		{date(1970, 1, 1), 0, -946684800000},
		{date(1, 1, 1), 0, firstMoment},
		{date(1, 1, 1), 1, firstMoment + 1},
		{date(1, 1, 1), day - 1, firstMoment + day - 1},
		{date(1, 1, 2), 0, firstMoment + day},
		{date(4229, 11, 23), day - 1, lastNumber*day - 1},
		{date(4229, 11, 24), 0, lastNumber * day},
		{date(4229, 11, 24), 4977663, most - 1},
		{date(4229, 11, 24), 4977664, most},
	} {
		wantAt(t, c.d, c.ms, c.want, api.OK)
		wantSplit(t, c.want, c.d, c.ms, api.OK)
	}
}

// P10.1: the errors of At, and which comes first: no date, no number of milliseconds, behind the last instant.
func TestAtErrors(t *testing.T) {
	for _, d := range badDates {
		for _, ms := range append([]int{-1, 0, 1, day - 1, day}, ends...) {
			wantAt(t, d, ms, 0, api.ErrArg)
		}
	}
	for _, d := range []api.Date{epoch, date(1, 1, 1), date(1999, 12, 31), date(2024, 2, 29), date(4229, 11, 24), date(4229, 11, 25), date(9999, 12, 31)} {
		for _, ms := range append([]int{-1, -2, -day, day, day + 1, 2 * day}, ends...) {
			wantAt(t, d, ms, 0, api.ErrRange)
		}
	}
	for _, d := range []api.Date{date(4229, 11, 25), date(4229, 12, 31), date(4230, 1, 1), date(5000, 6, 30), date(9999, 12, 31)} {
		for _, ms := range []int{0, 1, 4977664, 4977665, day - 1} {
			wantAt(t, d, ms, 0, api.ErrBig)
		}
	}
	wantAt(t, date(4229, 11, 24), 4977665, 0, api.ErrBig)
	wantAt(t, date(4229, 11, 24), day-1, 0, api.ErrBig)
}

// P10.1: no instants, and instants before the first valid date.
func TestSplitErrors(t *testing.T) {
	for _, n := range noInstants {
		wantSplit(t, n, api.Date{}, 0, api.ErrRange)
	}
	for _, n := range []int{-most, 1 - most, -most + day, firstMoment - day - 1, firstMoment - day, firstMoment - day + 1, firstMoment - 2, firstMoment - 1} {
		wantSplit(t, n, api.Date{}, 0, api.ErrTime)
	}
}

// P10.1, P10.6: all days of instants, one after the other, at their beginnings and ends, and dates and milliseconds read back.
func TestAtAndSplitDayByDay(t *testing.T) {
	m := moment(date(1, 1, 1), 0)
	for number := firstNumber; number <= lastNumber && !t.Failed(); number++ {
		year, month, dayOfMonth := m.Date()
		d := date(year, int(month), dayOfMonth)
		begins := number * day
		for _, ms := range []int{0, day - 1} {
			if begins+ms > most {
				wantAt(t, d, ms, 0, api.ErrBig)
				continue
			}
			wantAt(t, d, ms, begins+ms, api.OK)
			wantSplit(t, begins+ms, d, ms, api.OK)
		}
		m = m.Add(24 * time.Hour)
	}
	if year, month, dayOfMonth := m.Date(); date(year, int(month), dayOfMonth) != date(4229, 11, 25) {
		t.Errorf("the day behind the last instant is %v", m)
	}
}

// P10.1: any dates and milliseconds, valid or not, against Go's library.
func TestAtOfAnyDates(t *testing.T) {
	r := newNumbers()
	for range rounds {
		d := date(r.from(-1, 10001), r.from(0, 13), r.from(0, 32))
		ms := r.from(-2, 2) + r.source.IntN(2)*day
		if r.source.IntN(2) == 0 {
			ms = r.from(0, day-1)
		}
		if r.source.IntN(3) == 0 {
			d.Year = r.from(4229, 4230)
		}
		wanted, wantErr := 0, api.OK
		switch {
		case !isDate(d):
			wantErr = api.ErrArg
		case ms < 0 || ms > day-1:
			wantErr = api.ErrRange
		case since2000(moment(d, ms)) > most:
			wantErr = api.ErrBig
		default:
			wanted = since2000(moment(d, ms))
		}
		wantAt(t, d, ms, wanted, wantErr)
	}
}

// P10.1, P10.6: any instants, against Go's library; their dates and milliseconds lead back to them.
func TestSplitOfAnyInstants(t *testing.T) {
	r := newNumbers()
	for range rounds {
		at := r.instant()
		if at < firstMoment {
			wantSplit(t, at, api.Date{}, 0, api.ErrTime)
			continue
		}
		m := momentAt(at)
		year, month, dayOfMonth := m.Date()
		d := date(year, int(month), dayOfMonth)
		begins := since2000(moment(d, 0))
		wantSplit(t, at, d, at-begins, api.OK)
		wantAt(t, d, at-begins, at, api.OK)
	}
}

// P10.2: sums of ordinary intervals, at both ends of the instants and one beyond, with the ends of the ints, and the order of errors.
func TestAddExamples(t *testing.T) {
	for _, c := range []struct {
		a       api.Time
		lo, hi  int
		want    api.Time
		wantErr api.Errno
	}{
		{between(10, 20), 1, 2, between(11, 22), api.OK},
		{between(10, 20), -30, -5, between(-20, 15), api.OK},
		{between(-10, 20), -5, 7, between(-15, 27), api.OK},
		{only(5), 0, 0, only(5), api.OK},
		{only(5), -5, -5, only(0), api.OK},
		{only(762530709250), -hour, hour, between(762527109250, 762534309250), api.OK},
		{between(0, most-1), 0, 1, between(0, most), api.OK},
		{between(0, most), 0, 1, api.Time{}, api.ErrBig},
		{between(0, most-1), 0, 2, api.Time{}, api.ErrBig},
		{between(1-most, 0), -1, 0, between(-most, 0), api.OK},
		{between(-most, 0), -1, 0, api.Time{}, api.ErrBig},
		{between(1-most, 0), -2, 0, api.Time{}, api.ErrBig},
		{between(-most, most), 0, 0, between(-most, most), api.OK},
		{between(-most, most), -1, 0, api.Time{}, api.ErrBig},
		{between(-most, most), 0, 1, api.Time{}, api.ErrBig},
		{between(-most, most), 1, 1, api.Time{}, api.ErrBig},
		{only(most), -2 * most, -2 * most, only(-most), api.OK},
		{only(-most), 2 * most, 2 * most, only(most), api.OK},
		{only(most), -2*most - 1, -2*most - 1, api.Time{}, api.ErrBig},
		{only(-most), 2*most + 1, 2*most + 1, api.Time{}, api.ErrBig},
		{only(0), most, most, only(most), api.OK},
		{only(0), -most, most, between(-most, most), api.OK},
		{only(0), -most - 1, most, api.Time{}, api.ErrBig},
		{only(0), -most, most + 1, api.Time{}, api.ErrBig},
		{only(0), most + 1, most + 1, api.Time{}, api.ErrBig},
		{only(0), -most - 1, -most - 1, api.Time{}, api.ErrBig},
		{only(0), 1, 0, api.Time{}, api.ErrOrder},
		{between(10, 20), 2, 1, api.Time{}, api.ErrOrder},
		{only(most), 2, 1, api.Time{}, api.ErrOrder},
		{only(-most), math.MaxInt, math.MinInt, api.Time{}, api.ErrOrder},
		{only(most), math.MaxInt, math.MaxInt - 1, api.Time{}, api.ErrOrder},
	} {
		wantAdd(t, c.a, c.lo, c.hi, c.want, c.wantErr)
	}
	for _, a := range []api.Time{only(0), only(1), only(-1), only(most), only(-most), between(-most, most)} {
		for i, lo := range ends {
			for _, hi := range ends[i:] {
				wantAdd(t, a, lo, hi, api.Time{}, api.ErrBig)
			}
			wantAdd(t, a, min(lo, 0), max(lo, 0), api.Time{}, api.ErrBig)
		}
	}
	for _, a := range invalid {
		for _, hi := range append([]int{-2, 0, 1, most}, ends...) {
			wantAdd(t, a, 0, hi, api.Time{}, api.ErrArg)
			wantAdd(t, a, hi, 0, api.Time{}, api.ErrArg)
		}
	}
}

// P10.2: any intervals and numbers, against exact integers; each sum is in the interval, and the sums of parts are.
func TestAddOfAnyIntervals(t *testing.T) {
	r := newNumbers()
	for range rounds {
		a, lo, hi := r.time(), r.int(), r.int()
		if r.source.IntN(2) == 0 {
			lo, hi = -r.instant()-r.from(-3, 3), -r.instant()+r.from(-3, 3)
		}
		low, lowErr := fitting(sum(a.Lo, lo))
		high, highErr := fitting(sum(a.Hi, hi))
		if lo > hi {
			wantAdd(t, a, lo, hi, api.Time{}, api.ErrOrder)
			continue
		}
		if lowErr != api.OK || highErr != api.OK {
			wantAdd(t, a, lo, hi, api.Time{}, api.ErrBig)
			continue
		}
		wantAdd(t, a, lo, hi, between(low, high), api.OK)
		x, y := r.from(a.Lo, a.Hi), r.from(lo, hi)
		wantAdd(t, only(x), y, y, only(x+y), api.OK)
		if x+y < low || x+y > high {
			t.Errorf("%d + %d is not in [%d, %d]", x, y, low, high)
		}
	}
}
