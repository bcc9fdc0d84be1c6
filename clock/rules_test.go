package clock_test

import (
	"testing"

	"almucantar/angle"
	"almucantar/api"
	"almucantar/calendar"
	"almucantar/clock"
)

// P10.6: whatever date and milliseconds are put together comes apart again; the date of an instant has its day's number.
func TestDatesAreReadBack(t *testing.T) {
	r := newNumbers()
	for range rounds {
		number, ms := r.from(firstNumber, lastNumber-1), r.from(0, day-1)
		d, _ := calendar.DateOf(number)
		at, e := clock.At(d, ms)
		want(t, "At", []any{d, ms}, at, number*day+ms, e, api.OK)
		wantSplit(t, at, d, ms, api.OK)
	}
}

// P10.6: an angle's time has this angle alone; the times of the arc of a number of milliseconds contain it.
func TestAnglesAndTimesAreReadBack(t *testing.T) {
	r := newNumbers()
	for range rounds {
		a := r.from(-api.MaxArc, api.MaxArc) >> r.source.IntN(42)
		turned, e := clock.ToTime(a)
		if turned.Lo != turned.Hi || e != api.OK {
			t.Errorf("ToTime(%d) = %v, %d", a, turned, e)
		}
		wantToArc(t, turned.Lo, arc(a, a), api.OK)
		ms := r.from(-lastArc, lastArc) >> r.source.IntN(44)
		angles, _ := clock.ToArc(ms)
		from, _ := clock.ToTime(angles.Lo)
		to, e := clock.ToTime(angles.Hi)
		if ms < from.Lo || ms > to.Hi || to.Hi-from.Lo > 4 || e != api.OK {
			t.Errorf("%d is not in the times %v and %v, %d", ms, from, to, e)
		}
	}
}

// P10.6: zone time and local mean time differ by at most half an hour, and by no less at the western edge of a zone; zone time differs from universal time by whole hours.
func TestZoneTimeIsNearLocalMeanTime(t *testing.T) {
	r := newNumbers()
	greatest := 0
	check := func(at, lon int) {
		zone, e := clock.Zone(lon)
		local, localErr := clock.ZoneTime(at, lon)
		mean, meanErr := clock.LocalMean(at, lon)
		if e != api.OK || localErr != api.OK || meanErr != api.OK {
			t.Errorf("%d, %d: %d, %d, %d", at, lon, e, localErr, meanErr)
		}
		distance := max(local-mean.Lo, mean.Hi-local)
		greatest = max(greatest, distance)
		if distance > hour/2 || local != at+zone*hour {
			t.Errorf("at %d, %d: zone %d, zone time %d, local mean time %v", at, lon, zone, local, mean)
		}
	}
	for range rounds {
		check(r.from(day-most, most-day), r.from(-half, half))
	}
	for zone := -11; zone <= 12; zone++ {
		for by := -2; by <= 2; by++ {
			check(r.from(day-most, most-day), 15*degree*zone-edge+by)
		}
	}
	if greatest != hour/2 {
		t.Errorf("the greatest difference is %d", greatest)
	}
}

// P10.6: a degree of longitude is 4 minutes; 15 degrees are an hour.
func TestDegreesAreMinutes(t *testing.T) {
	const minute = 60000
	wantToTime(t, degree, only(4*minute), api.OK)
	wantToArc(t, 4*minute, arc(degree, degree), api.OK)
	r := newNumbers()
	for range rounds {
		at, lon := r.from(day-most, most-day), r.from(-half, half-degree)
		here, _ := clock.LocalMean(at, lon)
		east, e := clock.LocalMean(at, lon+degree)
		if sum, _ := clock.Add(here, 4*minute, 4*minute); east != sum || e != api.OK {
			t.Errorf("at %d, the local mean time is %v at %d, and %v a degree to the east", at, here, lon, east)
		}
		lon = r.from(-half, half-15*degree)
		zoned, _ := clock.ZoneTime(at, lon)
		zonedEast, e := clock.ZoneTime(at, lon+15*degree)
		if zonedEast-zoned != hour || e != api.OK {
			t.Errorf("at %d, the zone time is %d at %d, and %d 15 degrees to the east", at, zoned, lon, zonedEast)
		}
	}
}

// P10.6: a turn further there is the same time a day later: from the western side of 180 degrees to the eastern one, and for angles.
func TestTurnIsDay(t *testing.T) {
	r := newNumbers()
	for range rounds {
		at := r.from(day-most, most-day)
		zoned, _ := clock.ZoneTime(at, -half)
		wantZoneTime(t, at, half, zoned+day, api.OK)
		mean, _ := clock.LocalMean(at, -half)
		wantLocalMean(t, at, half, between(mean.Lo+day, mean.Hi+day), api.OK)

		a := r.from(-api.MaxArc, api.MaxArc-api.Turn)
		turned, _ := clock.ToTime(a)
		wantToTime(t, a+api.Turn, between(turned.Lo+day, turned.Hi+day), api.OK)
		ms := r.from(-lastArc, lastArc-day)
		angles, _ := clock.ToArc(ms)
		further, _ := angle.Add(angles, arc(api.Turn, api.Turn))
		wantToArc(t, ms+day, further, api.OK)
	}
}

// P1: any ints: no function panics, and beside an error all else is zero.
func TestAnyArguments(t *testing.T) {
	r := newNumbers()
	check := func(name string, isZero bool, e, wantErr api.Errno, valid bool) {
		if valid != (e != wantErr) || e != api.OK && !isZero {
			t.Errorf("%s: %d, and zero is %t", name, e, isZero)
		}
	}
	anyInt := func() int {
		if r.source.IntN(2) == 0 {
			return r.instant()
		}
		return r.int()
	}
	for range rounds {
		at, lon, other := anyInt(), r.int(), r.int()
		isLongitude := lon >= -half && lon <= half
		d := date(r.int(), r.int(), r.int())
		n, e := clock.At(d, at)
		check("At", n == 0, e, api.ErrArg, isDate(d))
		split, ms, e := clock.Split(at)
		check("Split", split == api.Date{} && ms == 0, e, api.ErrRange, isInstant(at))
		interval := between(at, other)
		sum, e := clock.Add(interval, lon, other)
		check("Add", sum == api.Time{}, e, api.ErrArg, isInstant(at) && isInstant(other) && at <= other)
		if clock.Valid(interval) != (e != api.ErrArg) {
			t.Errorf("Valid(%v) is wrong", interval)
		}
		n, e = clock.Zone(lon)
		check("Zone", n == 0, e, api.ErrRange, isLongitude)
		n, e = clock.ZoneTime(at, lon)
		check("ZoneTime", n == 0, e, api.ErrRange, isInstant(at) && isLongitude)
		sum, e = clock.LocalMean(at, lon)
		check("LocalMean", sum == api.Time{}, e, api.ErrRange, isInstant(at) && isLongitude)
		angles, e := clock.ToArc(at)
		check("ToArc", angles == api.Arc{}, e, api.ErrRange, isInstant(at))
		sum, e = clock.ToTime(at)
		check("ToTime", sum == api.Time{}, e, api.ErrRange, at >= -api.MaxArc && at <= api.MaxArc)
		s, e := clock.Text(at)
		check("Text", s == "", e, api.ErrRange, isInstant(at))
	}
}

// P1: any bytes: no text makes Parse panic, and what it reads is an instant.
func TestAnyBytes(t *testing.T) {
	r := newNumbers()
	for range rounds {
		s := make([]byte, r.source.IntN(28))
		for i := range s {
			s[i] = byte(r.source.Uint32())
		}
		checkParsed(t, string(s))
	}
}
