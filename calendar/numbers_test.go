package calendar_test

import (
	"cmp"
	"testing"

	"almucantar/api"
	"almucantar/calendar"
)

// wantNumbers looks at all numbers that belong to a date.
func wantNumbers(t *testing.T, d api.Date, number, weekday, dayOfYear, julian int, wantErr api.Errno) {
	t.Helper()
	check := func(name string, got int, e api.Errno, want int) {
		if got != want || e != wantErr {
			t.Errorf("%s(%v) = %d, %d; want %d, %d", name, d, got, e, want, wantErr)
		}
	}
	got, e := calendar.Number(d)
	check("Number", got, e, number)
	got, e = calendar.Weekday(d)
	check("Weekday", got, e, weekday)
	got, e = calendar.DayOfYear(d)
	check("DayOfYear", got, e, dayOfYear)
	got, e = calendar.Julian(d)
	check("Julian", got, e, julian)
}

func wantDateOf(t *testing.T, n int, want api.Date, wantErr api.Errno) {
	t.Helper()
	if got, e := calendar.DateOf(n); got != want || e != wantErr {
		t.Errorf("DateOf(%d) = %v, %d; want %v, %d", n, got, e, want, wantErr)
	}
}

func wantAdd(t *testing.T, d api.Date, n int, want api.Date, wantErr api.Errno) {
	t.Helper()
	if got, e := calendar.Add(d, n); got != want || e != wantErr {
		t.Errorf("Add(%v, %d) = %v, %d; want %v, %d", d, n, got, e, want, wantErr)
	}
}

func wantCmp(t *testing.T, a, b api.Date, want int, wantErr api.Errno) {
	t.Helper()
	if got, e := calendar.Cmp(a, b); got != want || e != wantErr {
		t.Errorf("Cmp(%v, %v) = %d, %d; want %d, %d", a, b, got, e, want, wantErr)
	}
}

// P9.2, P9.3: the chapter's example, the first and the last date, the days around 2000-01-01, around the ends of Februaries and of years, and days that are known from history.
func TestNumbersOfExamples(t *testing.T) {
	for _, c := range []struct {
		d                                  api.Date
		number, weekday, dayOfYear, julian int
	}{
		{date(2024, 2, 29), 8825, 4, 60, 2460370},
		{first, firstNumber, 1, 1, 1721426},
		{date(1, 1, 2), firstNumber + 1, 2, 2, 1721427},
		{date(1, 12, 31), firstNumber + 364, 1, 365, 1721790},
		{last, lastNumber, 5, 365, 5373484},
		{date(9999, 12, 30), lastNumber - 1, 4, 364, 5373483},
		{epoch, 0, 6, 1, 2451545},
		{date(2000, 1, 2), 1, 7, 2, 2451546},
		{date(2000, 1, 3), 2, 1, 3, 2451547},
		{date(1999, 12, 31), -1, 5, 365, 2451544},
		{date(1999, 12, 27), -5, 1, 361, 2451540},
		{date(1999, 12, 26), -6, 7, 360, 2451539},
		{date(1999, 12, 25), -7, 6, 359, 2451538},
		{date(2000, 2, 28), 58, 1, 59, 2451603},
		{date(2000, 2, 29), 59, 2, 60, 2451604},
		{date(2000, 3, 1), 60, 3, 61, 2451605},
		{date(2000, 12, 31), 365, 7, 366, 2451910},
		{date(2001, 1, 1), 366, 1, 1, 2451911},
		{date(1900, 2, 28), -36466, 3, 59, 2415079},
		{date(1900, 3, 1), -36465, 4, 60, 2415080},
		{date(2023, 12, 31), 8765, 7, 365, 2460310},
		{date(2024, 1, 1), 8766, 1, 1, 2460311},
		{date(2024, 3, 1), 8826, 5, 61, 2460371},
		{date(2024, 12, 31), 9131, 2, 366, 2460676},
		{date(1970, 1, 1), -10957, 4, 1, 2440588},
		{date(1858, 11, 17), -51544, 3, 321, 2400001},
		{date(1582, 10, 15), -152384, 5, 288, 2299161},
	} {
		wantNumbers(t, c.d, c.number, c.weekday, c.dayOfYear, c.julian, api.OK)
		wantDateOf(t, c.number, c.d, api.OK)
	}
}

// P9.2: dates that are not valid.
func TestNumbersOfInvalidDates(t *testing.T) {
	for _, d := range badDates {
		wantNumbers(t, d, 0, 0, 0, 0, api.ErrArg)
	}
}

// P9.2, P9.3: all valid dates, by going day by day: back from 2000-01-01 to the first one, and from there to the last one.
func TestNumbersDayByDay(t *testing.T) {
	number, weekday, dayOfYear := 0, 6, 0
	for range indexOfEpoch() {
		number--
		weekday--
		if weekday == 0 {
			weekday = 7
		}
	}
	for _, d := range allDates() {
		if d.Month == 1 && d.Day == 1 {
			dayOfYear = 0
		}
		dayOfYear++
		wantNumbers(t, d, number, weekday, dayOfYear, 2451545+number, api.OK)
		wantDateOf(t, number, d, api.OK)
		if t.Failed() {
			return
		}
		number++
		weekday++
		if weekday == 8 {
			weekday = 1
		}
	}
	if from, to := -indexOfEpoch(), number-1; from != firstNumber || to != lastNumber {
		t.Errorf("numbers go from %d to %d", from, to)
	}
}

// P9.3: the numbers one before the first date and one behind the last one, others beyond them, and the ends of the ints.
func TestDateOfIsErrRange(t *testing.T) {
	wantDateOf(t, firstNumber, first, api.OK)
	wantDateOf(t, lastNumber, last, api.OK)
	for _, n := range append([]int{firstNumber - 1, firstNumber - 2, firstNumber - 366, -1721426, lastNumber + 1, lastNumber + 2, lastNumber + 366, 3652059, 1 << 31, -1 << 31, 1 << 32, -1 << 32, 1 << 60, -1 << 60}, ends...) {
		wantDateOf(t, n, noDate, api.ErrRange)
	}
}

// P9.3: the chapter's example, steps over the ends of Februaries and of years, from one end to the other, and no step.
func TestAddExamples(t *testing.T) {
	for _, c := range []struct {
		d    api.Date
		n    int
		want api.Date
	}{
		{date(1999, 12, 31), 1, epoch},
		{epoch, -1, date(1999, 12, 31)},
		{epoch, 0, epoch},
		{date(2024, 2, 28), 1, date(2024, 2, 29)},
		{date(2024, 2, 29), 1, date(2024, 3, 1)},
		{date(2024, 3, 1), -1, date(2024, 2, 29)},
		{date(2023, 2, 28), 1, date(2023, 3, 1)},
		{date(1900, 3, 1), -1, date(1900, 2, 28)},
		{date(2000, 2, 28), 2, date(2000, 3, 1)},
		{date(2024, 2, 29), 366, date(2025, 3, 1)},
		{date(2024, 2, 29), -366, date(2023, 2, 28)},
		{date(2024, 12, 31), 1, date(2025, 1, 1)},
		{epoch, 8825, date(2024, 2, 29)},
		{first, 0, first},
		{last, 0, last},
		{first, lastNumber - firstNumber, last},
		{last, firstNumber - lastNumber, first},
		{epoch, firstNumber, first},
		{epoch, lastNumber, last},
	} {
		wantAdd(t, c.d, c.n, c.want, api.OK)
	}
}

// P9.3: sums one beyond the first and the last date, and numbers at the ends of the ints, added to dates on both sides of 2000-01-01; dates that are not valid come first.
func TestAddErrors(t *testing.T) {
	wantAdd(t, first, -1, noDate, api.ErrRange)
	wantAdd(t, last, 1, noDate, api.ErrRange)
	wantAdd(t, first, lastNumber-firstNumber+1, noDate, api.ErrRange)
	wantAdd(t, last, firstNumber-lastNumber-1, noDate, api.ErrRange)
	wantAdd(t, epoch, firstNumber-1, noDate, api.ErrRange)
	wantAdd(t, epoch, lastNumber+1, noDate, api.ErrRange)
	far := append([]int{1 << 32, -1 << 32, 1 << 62, -1 << 62}, ends...)
	for _, d := range []api.Date{first, date(1999, 12, 31), epoch, date(2000, 1, 2), date(2024, 2, 29), last} {
		for _, n := range far {
			wantAdd(t, d, n, noDate, api.ErrRange)
		}
	}
	for _, d := range badDates {
		for _, n := range append([]int{-1, 0, 1, firstNumber, lastNumber + 1}, far...) {
			wantAdd(t, d, n, noDate, api.ErrArg)
		}
	}
}

// P9.3: any two dates: the one is the other one with the distance of their places added, and they compare as these do; a step that leads beyond the ends is none.
func TestAddAndCmpOfAnyDates(t *testing.T) {
	list := allDates()
	r := newNumbers()
	check := func(i, j int) {
		wantAdd(t, list[i], j-i, list[j], api.OK)
		wantCmp(t, list[i], list[j], cmp.Compare(i, j), api.OK)
	}
	for range rounds {
		i, j := r.source.IntN(len(list)), r.source.IntN(len(list))
		check(i, j)
		check(i, max(0, i-1))
		check(i, min(len(list)-1, i+r.source.IntN(800)))
		wantAdd(t, list[i], len(list)-i+j, noDate, api.ErrRange)
		wantAdd(t, list[i], -i-1-j, noDate, api.ErrRange)
	}
}

// P9.3: dates that differ in one number alone, or in several that say opposite things, and the same ones.
func TestCmpExamples(t *testing.T) {
	ordered := []api.Date{first, date(1, 1, 2), date(1, 2, 1), date(2, 1, 1), date(1999, 12, 31), epoch, date(2000, 1, 31), date(2000, 2, 1), date(2000, 12, 31), date(2001, 1, 1), date(2024, 2, 28), date(2024, 2, 29), date(2024, 3, 1), date(9999, 1, 1), last}
	for i, a := range ordered {
		for j, b := range ordered {
			wantCmp(t, a, b, cmp.Compare(i, j), api.OK)
		}
	}
}

// P9.3: one of both dates, or both, are not valid, even if they are the same.
func TestCmpOfInvalidDates(t *testing.T) {
	for _, bad := range badDates {
		for _, d := range []api.Date{first, epoch, last} {
			wantCmp(t, bad, d, 0, api.ErrArg)
			wantCmp(t, d, bad, 0, api.ErrArg)
		}
		for _, other := range badDates {
			wantCmp(t, bad, other, 0, api.ErrArg)
		}
	}
}
