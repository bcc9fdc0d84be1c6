package calendar_test

import (
	"testing"

	"almucantar/api"
	"almucantar/calendar"
)

// P9.5: each date has the number after that of the one before, the weekday that follows, and is the one before with 1 added; the numbers lead back.
func TestSuccessiveDates(t *testing.T) {
	d := first
	number, _ := calendar.Number(d)
	weekday, _ := calendar.Weekday(d)
	count := 1
	for ; d != last && !t.Failed(); count++ {
		next, e := calendar.Add(d, 1)
		nextNumber, numberErr := calendar.Number(next)
		nextWeekday, weekdayErr := calendar.Weekday(next)
		if e != api.OK || numberErr != api.OK || weekdayErr != api.OK {
			t.Fatalf("after %v: %d, %d, %d", d, e, numberErr, weekdayErr)
		}
		if nextNumber != number+1 || nextWeekday != weekday%7+1 {
			t.Errorf("%v is %d, weekday %d; %v is %d, weekday %d", d, number, weekday, next, nextNumber, nextWeekday)
		}
		wantDateOf(t, nextNumber, next, api.OK)
		wantCmp(t, d, next, -1, api.OK)
		wantAdd(t, next, -1, d, api.OK)
		d, number, weekday = next, nextNumber, nextWeekday
	}
	if count != len(allDates()) {
		t.Errorf("there are %d dates", count)
	}
}

// P9.5: 400 years have 146,097 days, from each date on; so they have whole weeks.
func TestFourHundredYears(t *testing.T) {
	for _, d := range allDates() {
		if d.Year > 9999-400 || t.Failed() {
			break
		}
		later := date(d.Year+400, d.Month, d.Day)
		wantAdd(t, d, 146097, later, api.OK)
		wantAdd(t, later, -146097, d, api.OK)
		weekday, _ := calendar.Weekday(d)
		laterWeekday, e := calendar.Weekday(later)
		if weekday != laterWeekday || e != api.OK {
			t.Errorf("%v is weekday %d, %v is %d, %d", d, weekday, later, laterWeekday, e)
		}
	}
}

// P9.5: the day of the year is the distance from the last day of the year before; the Julian day and the number differ by the same number everywhere.
func TestDaysOfYears(t *testing.T) {
	r := newNumbers()
	list := allDates()
	for range rounds {
		d := list[r.source.IntN(len(list))]
		number, _ := calendar.Number(d)
		newYear, _ := calendar.Number(date(d.Year, 1, 1))
		day, e := calendar.DayOfYear(d)
		if day != number-newYear+1 || e != api.OK {
			t.Errorf("DayOfYear(%v) = %d, %d", d, day, e)
		}
		julian, e := calendar.Julian(d)
		if julian-number != 2451545 || e != api.OK {
			t.Errorf("Julian(%v) = %d, %d", d, julian, e)
		}
	}
}

// P1: any ints, and dates that are nearly valid: no function panics, and beside an error all else is zero.
func TestAnyArguments(t *testing.T) {
	r := newNumbers()
	check := func(d api.Date, n int) {
		wantErr := api.ErrArg
		if isDate(d) {
			wantErr = api.OK
		}
		if calendar.Valid(d) != (wantErr == api.OK) {
			t.Errorf("Valid(%v) is wrong", d)
		}
		for name, f := range map[string]func(api.Date) (int, api.Errno){"Number": calendar.Number, "Weekday": calendar.Weekday, "DayOfYear": calendar.DayOfYear, "Julian": calendar.Julian} {
			if got, e := f(d); e != wantErr || e != api.OK && got != 0 {
				t.Errorf("%s(%v) = %d, %d", name, d, got, e)
			}
		}
		if s, e := calendar.Text(d); e != wantErr || (s == "") != (e != api.OK) {
			t.Errorf("Text(%v) = %q, %d", d, s, e)
		}
		if sum, e := calendar.Add(d, n); (sum == noDate) != (e != api.OK) || wantErr != api.OK && e != wantErr {
			t.Errorf("Add(%v, %d) = %v, %d", d, n, sum, e)
		}
		if got, e := calendar.DateOf(n); (got == noDate) != (e != api.OK) {
			t.Errorf("DateOf(%d) = %v, %d", n, got, e)
		}
	}
	for range rounds / 4 {
		n := r.int()
		calendar.Leap(n)
		check(date(r.int(), r.int(), r.int()), n)
		check(date(r.near(9999), r.near(12), r.near(31)), n)
		check(date(r.source.IntN(9999)+1, r.near(12), r.near(31)), n)
	}
}

// P1: any bytes: no text makes Parse panic, and what it reads is valid.
func TestAnyBytes(t *testing.T) {
	r := newNumbers()
	for range rounds {
		s := make([]byte, r.source.IntN(14))
		for i := range s {
			s[i] = byte(r.source.Uint32())
		}
		want, wantErr := parsed(string(s))
		wantParsed(t, string(s), want, wantErr)
	}
}
