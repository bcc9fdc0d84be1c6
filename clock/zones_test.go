package clock_test

import (
	"math"
	"math/big"
	"testing"

	"almucantar/api"
	"almucantar/clock"
)

const (
	half   = api.HalfTurn
	degree = api.Degree
	edge   = 7*degree + degree/2 // 7-30

	lastArc = 4 * api.MaxArc // the milliseconds of the greatest arc
)

var noLongitudes = append([]int{-half - 1, half + 1, -half - 2, half + 2, -api.Turn, api.Turn, -1 << 60, 1 << 60}, ends...)

func wantZone(t *testing.T, lon, wanted int, wantErr api.Errno) {
	t.Helper()
	got, e := clock.Zone(lon)
	want(t, "Zone", lon, got, wanted, e, wantErr)
}

func wantZoneTime(t *testing.T, at, lon, wanted int, wantErr api.Errno) {
	t.Helper()
	got, e := clock.ZoneTime(at, lon)
	want(t, "ZoneTime", []int{at, lon}, got, wanted, e, wantErr)
}

func wantLocalMean(t *testing.T, at, lon int, wanted api.Time, wantErr api.Errno) {
	t.Helper()
	got, e := clock.LocalMean(at, lon)
	want(t, "LocalMean", []int{at, lon}, got, wanted, e, wantErr)
}

func wantToArc(t *testing.T, ms int, wanted api.Arc, wantErr api.Errno) {
	t.Helper()
	got, e := clock.ToArc(ms)
	want(t, "ToArc", ms, got, wanted, e, wantErr)
}

func wantToTime(t *testing.T, a int, wanted api.Time, wantErr api.Errno) {
	t.Helper()
	got, e := clock.ToTime(a)
	want(t, "ToTime", a, got, wanted, e, wantErr)
}

// arc is the arc with these ends.
func arc(lo, hi int) api.Arc { return api.Arc{Lo: lo, Hi: hi} }

// P10.3: the chapter's examples, the edges of zones and one unit beside them, and both ends.
func TestZoneExamples(t *testing.T) {
	for _, c := range []struct{ lon, want int }{
		{0, 0}, {1, 0}, {-1, 0},
		{edge, 1}, {edge - 1, 0}, {edge + 1, 1},
		{-edge, 0}, {-edge - 1, -1}, {1 - edge, 0},
		{15 * degree, 1}, {-15 * degree, -1}, {90 * degree, 6}, {-90 * degree, -6}, {-118*degree - 15*api.Minute, -8},
		{3*edge - 1, 1}, {3 * edge, 2}, {-3 * edge, -1}, {-3*edge - 1, -2},
		{half, 12}, {half - 1, 12}, {half - edge, 12}, {half - edge - 1, 11},
		{-half, -12}, {1 - half, -12}, {edge - half - 1, -12}, {edge - half, -11},
	} {
		wantZone(t, c.lon, c.want, api.OK)
	}
	for _, lon := range noLongitudes {
		wantZone(t, lon, 0, api.ErrRange)
	}
}

// P10.3: all longitudes, from the west to the east: a zone begins 15 degrees behind the one before.
func TestZoneOfAllLongitudes(t *testing.T) {
	zone := -12
	for lon := -half; lon <= half && !t.Failed(); lon++ {
		if lon == 15*degree*(zone+1)-edge {
			zone++
		}
		if got, e := clock.Zone(lon); got != zone || e != api.OK {
			t.Errorf("Zone(%d) = %d, %d; want %d", lon, got, e, zone)
		}
	}
	if zone != 12 {
		t.Errorf("the last zone is %d", zone)
	}
}

// P10.3: ordinary times, and results at the limits and one beyond.
func TestLocalTimeExamples(t *testing.T) {
	for _, c := range []struct{ at, lon, zoneTime, mean int }{
		{0, 0, 0, 0},
		{0, 1, 0, 4}, {0, -1, 0, -4},
		{762530709250, 15 * degree, 762530709250 + hour, 762530709250 + hour},
		{762530709250, -15 * degree, 762530709250 - hour, 762530709250 - hour},
		{0, edge, hour, hour / 2}, {0, edge - 1, 0, hour/2 - 4}, {0, -edge, 0, -hour / 2}, {0, -edge - 1, -hour, -hour/2 - 4},
		{5, degree, 5, 5 + 4*60000}, {5, -degree, 5, 5 - 4*60000},
		{0, half, day / 2, day / 2}, {0, -half, -day / 2, -day / 2},
		{-1, half, day/2 - 1, day/2 - 1}, {1, -half, 1 - day/2, 1 - day/2},
		{most, 0, most, most}, {-most, 0, -most, -most},
		{most, -half, most - day/2, most - day/2}, {-most, half, day/2 - most, day/2 - most},
		{most - day/2, half, most, most}, {day/2 - most, -half, -most, -most},
		{most - 4, 1, most - 4, most}, {4 - most, -1, 4 - most, -most},
		{most - hour, edge, most, most - hour/2}, {hour - most, -edge - 1, -most, hour/2 - 4 - most},
		{most, -edge, most, most - hour/2},
	} {
		wantZoneTime(t, c.at, c.lon, c.zoneTime, api.OK)
		wantLocalMean(t, c.at, c.lon, only(c.mean), api.OK)
	}
}

// P10.3: results that are no instants, of which one can be an instant while the other one is not; and what comes first.
func TestLocalTimeErrors(t *testing.T) {
	for _, c := range []struct{ at, lon int }{
		{most, half}, {-most, -half}, {most, edge}, {-most, -edge - 1}, {most - hour/2 + 1, edge}, {hour/2 - most, -edge - 1}, {most - day/2 + 1, half}, {day/2 - most - 1, -half},
	} {
		wantZoneTime(t, c.at, c.lon, 0, api.ErrBig)
		wantLocalMean(t, c.at, c.lon, api.Time{}, api.ErrBig)
	}
	wantZoneTime(t, most, 1, most, api.OK)
	wantLocalMean(t, most, 1, api.Time{}, api.ErrBig)
	wantLocalMean(t, most-3, 1, api.Time{}, api.ErrBig)
	wantZoneTime(t, -most, -1, -most, api.OK)
	wantLocalMean(t, -most, -1, api.Time{}, api.ErrBig)
	wantLocalMean(t, 3-most, -1, api.Time{}, api.ErrBig)
	wantZoneTime(t, most-hour+1, edge, 0, api.ErrBig)
	wantLocalMean(t, most-hour+1, edge, only(most-hour/2+1), api.OK)
	wantZoneTime(t, hour-most-1, -edge-1, 0, api.ErrBig)
	for _, at := range noInstants {
		for _, lon := range append([]int{0, half, -half, half + 1, -half - 1}, ends...) {
			wantZoneTime(t, at, lon, 0, api.ErrRange)
			wantLocalMean(t, at, lon, api.Time{}, api.ErrRange)
		}
	}
	for _, lon := range noLongitudes {
		for _, at := range []int{0, 1, most, -most, 762530709250} {
			wantZoneTime(t, at, lon, 0, api.ErrRange)
			wantLocalMean(t, at, lon, api.Time{}, api.ErrRange)
		}
	}
}

// P10.3: any instants and longitudes, against exact integers.
func TestLocalTimeOfAny(t *testing.T) {
	r := newNumbers()
	for range rounds {
		at, lon := r.instant(), r.from(-half, half)
		if r.source.IntN(3) == 0 {
			lon = max(-half, min(half, r.from(-12, 12)*15*degree+edge+r.from(-2, 2)))
		}
		zone, _ := quotients(2*lon+15*degree, 30*degree)
		wanted, wantErr := fitting(sum(at, zone*hour))
		wantZoneTime(t, at, lon, wanted, wantErr)
		wanted, wantErr = fitting(sum(at, 4*lon))
		wantLocalMean(t, at, lon, only(wanted), wantErr)
	}
}

// P10.4: the chapter's example, each remainder by 4, of negative numbers too, and arcs at the ends of what is valid and one beyond.
func TestToArcExamples(t *testing.T) {
	for _, c := range []struct {
		ms   int
		want api.Arc
	}{
		{0, arc(0, 0)}, {1, arc(0, 1)}, {2, arc(0, 1)}, {3, arc(0, 1)}, {4, arc(1, 1)}, {5, arc(1, 2)}, {6, arc(1, 2)}, {7, arc(1, 2)}, {8, arc(2, 2)},
		{-1, arc(-1, 0)}, {-2, arc(-1, 0)}, {-3, arc(-1, 0)}, {-4, arc(-1, -1)}, {-5, arc(-2, -1)}, {-6, arc(-2, -1)}, {-7, arc(-2, -1)}, {-8, arc(-2, -2)},
		{hour, arc(900000, 900000)}, {-hour, arc(-900000, -900000)}, {day, arc(api.Turn, api.Turn)}, {day - 1, arc(api.Turn-1, api.Turn)}, {-day - 1, arc(-api.Turn-1, -api.Turn)},
		{lastArc, arc(api.MaxArc, api.MaxArc)}, {lastArc - 1, arc(api.MaxArc-1, api.MaxArc)}, {lastArc - 3, arc(api.MaxArc-1, api.MaxArc)}, {lastArc - 4, arc(api.MaxArc-1, api.MaxArc-1)},
		{-lastArc, arc(-api.MaxArc, -api.MaxArc)}, {1 - lastArc, arc(-api.MaxArc, 1-api.MaxArc)}, {4 - lastArc, arc(1-api.MaxArc, 1-api.MaxArc)},
	} {
		wantToArc(t, c.ms, c.want, api.OK)
	}
	for _, ms := range []int{lastArc + 1, lastArc + 2, lastArc + 3, lastArc + 4, lastArc + 5, most - 1, most} {
		wantToArc(t, ms, api.Arc{}, api.ErrBig)
		wantToArc(t, -ms, api.Arc{}, api.ErrBig)
	}
	for _, ms := range noInstants {
		wantToArc(t, ms, api.Arc{}, api.ErrRange)
	}
}

// P10.4: any instants: the arc contains a quarter of the number, and none that is shorter does.
func TestToArcIsLeast(t *testing.T) {
	r := newNumbers()
	check := func(ms int) {
		down, up := quotients(ms, 4)
		if down < -api.MaxArc || up > api.MaxArc {
			wantToArc(t, ms, api.Arc{}, api.ErrBig)
			return
		}
		wantToArc(t, ms, arc(down, up), api.OK)
		angle := big.NewRat(int64(ms), 4)
		if low, high := big.NewRat(int64(down), 1), big.NewRat(int64(up), 1); low.Cmp(angle) > 0 || high.Cmp(angle) < 0 || up-down > 1 || up != down && angle.IsInt() {
			t.Errorf("%v is not least around %v", arc(down, up), angle)
		}
	}
	for ms := -1000; ms <= 1000; ms++ {
		check(ms)
		check(lastArc + ms)
		check(ms - lastArc)
	}
	for range rounds {
		check(r.instant())
		check(r.from(-lastArc, lastArc))
	}
}

// P10.4: the chapter's example, both limits, and one beyond.
func TestToTimeExamples(t *testing.T) {
	for _, c := range []struct{ a, want int }{
		{900000, hour}, {-900000, -hour}, {0, 0}, {1, 4}, {-1, -4}, {3, 12}, {degree, 240000}, {api.Turn, day}, {-api.Turn, -day}, {api.Turn - 1, day - 4},
		{api.MaxArc, lastArc}, {api.MaxArc - 1, lastArc - 4}, {-api.MaxArc, -lastArc}, {1 - api.MaxArc, 4 - lastArc},
	} {
		wantToTime(t, c.a, only(c.want), api.OK)
	}
	for _, a := range append([]int{-api.MaxArc - 1, api.MaxArc + 1, -api.MaxArc - 2, api.MaxArc + 2, 4 * api.MaxArc, 1 << 62, -1 << 62, math.MinInt / 4, math.MaxInt/4 + 1}, ends...) {
		wantToTime(t, a, api.Time{}, api.ErrRange)
	}
}

// P10.4: any angles, against exact integers.
func TestToTimeOfAny(t *testing.T) {
	r := newNumbers()
	for range rounds {
		a := r.int()
		if r.source.IntN(2) == 0 {
			a = r.from(-api.MaxArc, api.MaxArc)
		}
		if a < -api.MaxArc || a > api.MaxArc {
			wantToTime(t, a, api.Time{}, api.ErrRange)
			continue
		}
		exact := new(big.Int).Mul(big.NewInt(int64(a)), big.NewInt(4))
		wantToTime(t, a, only(int(exact.Int64())), api.OK)
	}
}
