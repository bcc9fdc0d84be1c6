package place_test

import (
	"testing"

	"almucantar/api"
	"almucantar/place"
)

func wantPlace(t *testing.T, name string, a, b any, got, want api.Place, e, wantErr api.Errno) {
	t.Helper()
	if got != want || e != wantErr {
		t.Errorf("%s(%v, %v) = %v, %d; want %v, %d", name, a, b, got, e, want, wantErr)
	}
}

func wantHull(t *testing.T, a, b, want api.Place) {
	t.Helper()
	got, e := place.Hull(a, b)
	wantPlace(t, "Hull", a, b, got, want, e, api.OK)
	got, e = place.Hull(b, a)
	wantPlace(t, "Hull", b, a, got, want, e, api.OK)
}

func wantMeet(t *testing.T, a, b, want api.Place) {
	t.Helper()
	got, e := place.Meet(a, b)
	wantPlace(t, "Meet", a, b, got, want, e, api.OK)
	got, e = place.Meet(b, a)
	wantPlace(t, "Meet", b, a, got, want, e, api.OK)
}

func wantMiss(t *testing.T, a, b api.Place) {
	t.Helper()
	got, e := place.Meet(a, b)
	wantPlace(t, "Meet", a, b, got, api.Place{}, e, api.ErrMiss)
	got, e = place.Meet(b, a)
	wantPlace(t, "Meet", b, a, got, api.Place{}, e, api.ErrMiss)
}

func wantInside(t *testing.T, a, b api.Place, want bool) {
	t.Helper()
	if got := place.Inside(a, b); got != want {
		t.Errorf("Inside(%v, %v) = %v", a, b, got)
	}
}

// P8.2: the chapter's example; both sides of HalfTurn, arcs that touch, that are inside one another, that go all around, and two least longitudes.
func TestHullExamples(t *testing.T) {
	for _, c := range []struct{ a, b, want api.Arc }{
		{only(10740000), only(-10740000), between(10740000, 10860000)},
		{only(-10), only(20), between(-10, 20)},
		{only(half - 1), only(-half), between(half-1, half)},
		{between(half-1, half+5), between(-half, 8-half), between(half-1, half+8)},
		{between(half-3, half+5), between(half-9, half-7), between(half-9, half+5)},
		{only(7), only(7), only(7)},
		{only(-half), only(-half), only(-half)},
		// They touch at one end, behind a gap of one unit, and over HalfTurn.
		{between(0, 5), between(5, 9), between(0, 9)},
		{between(0, 5), between(6, 9), between(0, 9)},
		{between(half-5, half), between(-half, 3-half), between(half-5, half+3)},
		// One is inside the other.
		{between(0, 9), between(3, 4), between(0, 9)},
		{long(5, turn-1), only(5), long(5, turn-1)},
		{long(5, turn-1), only(4), long(5, turn-1)},
		{long(5, turn-2), only(4), long(4, turn-1)},
		{long(half-1, turn-1), only(-half), long(half-1, turn-1)},
		{everywhere, only(0), everywhere},
		{everywhere, only(-half), everywhere},
		{everywhere, long(1, turn-1), everywhere},
		{everywhere, everywhere, everywhere},
		// Together they go all around.
		{between(-half, 0), between(0, half), everywhere},
		{between(-7, half+1), between(-half, 5-half), between(-7, half+5)},
		{long(-7, half), long(half-7, half), everywhere},
		{long(-7, half), long(half-8, half), long(-7, turn-1)},
		{long(-7, half), long(half-6, half-1), long(half-6, turn-1)},
		{long(0, turn-1), long(1, turn-1), everywhere},
		{long(0, turn-1), only(turn/2 - 1), long(0, turn-1)},
		{long(0, turn-1), between(-1, 0), everywhere},
		{long(3, turn-9), between(-6, 3), everywhere},
		{long(3, turn-9), between(-5, 2), long(-5, turn-1)},
		{long(3, turn-9), between(-6, 2), long(3, turn-1)},
		{long(quarter, half-1), long(-quarter-1, 1), long(quarter, half)},
		// Two least longitudes: the one with the lesser Lo.
		{only(0), only(-half), between(-half, 0)},
		{only(1), only(1 - half), between(1-half, 1)},
		{only(quarter), only(-quarter), between(-quarter, quarter)},
		{only(-1), only(half - 1), between(-1, half-1)},
		{long(0, 10), long(-half, 10), between(-half, 10)},
		{between(half-5, half+5), between(-5, 5), between(-5, half+5)},
	} {
		wantHull(t, atEquator(c.a), atEquator(c.b), atEquator(c.want))
	}
}

// P8.2: latitudes are not wrapped, whatever the longitudes.
func TestHullOfLatitudes(t *testing.T) {
	for _, c := range []struct{ a, b, want api.Arc }{
		{only(-quarter), only(quarter), anyLat},
		{between(1, 2), between(7, 9), between(1, 9)},
		{between(1, 8), between(7, 9), between(1, 9)},
		{between(-9, 9), between(1, 2), between(-9, 9)},
		{anyLat, only(0), anyLat},
	} {
		wantHull(t, box(c.a, only(3)), box(c.b, between(-3, 1)), box(c.want, between(-3, 3)))
	}
}

// P8.3: both sides of HalfTurn, one number in common, one inside the other, two pieces, and none.
func TestMeetExamples(t *testing.T) {
	for _, c := range []struct{ a, b, want api.Arc }{
		{between(0, 9), between(5, 20), between(5, 9)},
		{between(0, 9), between(9, 20), only(9)},
		{between(0, 9), between(3, 4), between(3, 4)},
		{only(7), only(7), only(7)},
		{between(half-5, half+5), between(-half, 3-half), between(-half, 3-half)},
		{between(half-5, half+5), between(-half, 9-half), between(-half, 5-half)},
		{between(half-5, half+5), between(half-9, half+2), between(half-5, half+2)},
		{between(half-5, half+5), between(half-9, half-5), only(half - 5)},
		{between(half-5, half), between(-half, 0), only(-half)},
		{between(0, half), only(-half), only(-half)},
		{long(quarter, half-1), long(-quarter-1, 1), only(-quarter - 1)},
		{everywhere, between(half-5, half+5), between(half-5, half+5)},
		{everywhere, only(-half), only(-half)},
		{everywhere, only(half - 1), only(half - 1)},
		{everywhere, long(5, turn-1), long(5, turn-1)},
		{everywhere, long(-half, turn-1), long(-half, turn-1)},
		{everywhere, long(half-1, turn-1), long(half-1, turn-1)},
		{everywhere, everywhere, everywhere},
		// Two pieces: the least longitudes go over the narrower gap, or begin at the lesser Lo.
		{between(-100, 100), between(90, turn-90), between(-100, 100)},
		{between(half-100, half+100), long(90-half, turn-180), between(half-100, half+100)},
		{between(0, turn-10), between(-30, 5), between(-30, 5)},
		{long(0, turn-10), long(-20, turn-5), long(0, turn-10)},
		{long(0, turn-5), long(-20, turn-10), long(-20, turn-10)},
		{between(0, half), between(-half, 0), between(-half, 0)},
		{between(1, half+1), between(1-half, 1), between(1-half, 1)},
		{between(-quarter, quarter), between(quarter, quarter+half), between(-quarter, quarter)},
		{between(-1, half-1), long(half-1, half), between(-1, half-1)},
		{between(-4, half+3), long(half-2, half+4), long(half-2, half+4)},
		{long(0, turn-1), long(10, turn-1), long(0, turn-1)},
		{long(-half, turn-1), long(0, turn-1), long(-half, turn-1)},
		{long(-9, turn-2), long(7, turn-2), long(-9, turn-2)},
		{long(-9, turn-3), long(7, turn-2), long(-9, turn-3)},
		{long(-9, turn-2), long(7, turn-3), long(7, turn-3)},
	} {
		wantMeet(t, atEquator(c.a), atEquator(c.b), atEquator(c.want))
	}
	for _, c := range [][2]api.Arc{
		{only(0), only(1)}, {only(0), only(-half)}, {only(half - 1), only(-half)},
		{between(0, 9), between(10, half)}, {between(0, 9), long(10, turn-11)}, {long(-7, half-1), long(half-7, half-1)},
		{between(half-5, half+5), between(6-half, half-6)}, {long(5, turn-2), only(4)}, {long(half-1, turn-2), only(half - 2)}, {long(-half, turn-2), only(half - 1)},
	} {
		wantMiss(t, atEquator(c[0]), atEquator(c[1]))
	}
}

// P8.3: latitudes that have a part, one number, or nothing in common, poles among them.
func TestMeetOfLatitudes(t *testing.T) {
	for _, c := range []struct{ a, b, want api.Arc }{
		{between(1, 8), between(7, 9), between(7, 8)},
		{between(1, 7), between(7, 9), only(7)},
		{anyLat, only(-quarter), only(-quarter)},
		{anyLat, between(1, 2), between(1, 2)},
		{anyLat, anyLat, anyLat},
	} {
		wantMeet(t, box(c.a, between(0, 3)), box(c.b, between(2, 9)), box(c.want, between(2, 3)))
		wantMiss(t, box(c.a, between(0, 3)), box(c.b, between(4, 9)))
	}
	for _, c := range [][2]api.Arc{{between(1, 7), between(8, 9)}, {only(-quarter), only(quarter)}, {only(0), only(-1)}} {
		wantMiss(t, box(c[0], between(0, 3)), box(c[1], between(2, 9)))
		wantMiss(t, box(c[0], everywhere), box(c[1], everywhere))
		wantMiss(t, box(c[0], between(0, 3)), box(c[1], between(4, 9)))
	}
}

// P8.2: equal ones, parts that end where the whole ends and one beyond, directions on the other side of HalfTurn, and what lies between two directions that are one unit apart.
func TestInsideExamples(t *testing.T) {
	for _, c := range []struct {
		a, b     api.Arc
		isInside bool
		isBack   bool // b is inside a
	}{
		{between(0, 9), between(0, 9), true, true},
		{between(0, 8), between(0, 9), true, false},
		{between(1, 9), between(0, 9), true, false},
		{between(-1, 9), between(0, 9), false, true},
		{between(0, 10), between(0, 9), false, true},
		{between(0, 9), between(5, 20), false, false},
		{only(-half), between(half-1, half), true, false},
		{only(-half), between(half-2, half-1), false, false},
		{only(half - 1), between(half-2, half-1), true, false},
		{between(-half, 5-half), between(half-5, half+5), true, false},
		{between(-half, 6-half), between(half-5, half+5), false, false},
		{between(half-6, half), between(half-5, half+5), false, false},
		{only(0), everywhere, true, false},
		{only(-half), everywhere, true, false},
		{long(1, turn-1), everywhere, true, false},
		{everywhere, everywhere, true, true},
		{long(1, turn-1), long(0, turn-1), false, false},
		{long(1, turn-2), long(0, turn-1), true, false},
		{only(-1), long(0, turn-1), true, false},
		{only(-1), long(0, turn-2), false, false},
		{between(-1, 0), long(0, turn-1), false, false},
		{between(-2, -1), long(0, turn-1), true, false},
	} {
		wantInside(t, atEquator(c.a), atEquator(c.b), c.isInside)
		wantInside(t, atEquator(c.b), atEquator(c.a), c.isBack)
		wantInside(t, box(between(1, 2), c.a), box(between(0, 2), c.b), c.isInside)
		wantInside(t, box(between(0, 2), c.a), box(between(1, 2), c.b), false)
	}
	// At a pole, too, longitudes are compared.
	wantInside(t, exactly(quarter, 0), exactly(quarter, 1), false)
	wantInside(t, exactly(quarter, 0), exactly(-quarter, 0), false)
	wantInside(t, exactly(-quarter, 0), box(anyLat, everywhere), true)
	wantInside(t, box(anyLat, everywhere), box(anyLat, everywhere), true)
	wantInside(t, box(anyLat, everywhere), box(between(1-quarter, quarter), everywhere), false)
}

// checkLongitudes compares what the functions say of two arcs with all pairs of their ends.
func checkLongitudes(t *testing.T, a, b api.Arc) {
	t.Helper()
	ends := marks(a, b)
	either := directionsOf(ends, func(n int) bool { return has(a, n) || has(b, n) })
	both := directionsOf(ends, func(n int) bool { return has(a, n) && has(b, n) })
	p, q := atEquator(a), atEquator(b)
	wantHull(t, p, q, atEquator(slowLongitudes(ends, either)))
	if len(both) == 0 {
		wantMiss(t, p, q)
	} else {
		wantMeet(t, p, q, atEquator(slowLongitudes(ends, both)))
	}
	wantInside(t, p, q, hasAll(b, directionsOf(ends, func(n int) bool { return has(a, n) })))
	wantInside(t, q, p, hasAll(a, directionsOf(ends, func(n int) bool { return has(b, n) })))
}

// P8.2, P8.3: all pairs of notable longitudes.
func TestSetsOfNotableLongitudes(t *testing.T) {
	list := notableLongitudes()
	for i, a := range list {
		for _, b := range list[:i+1] {
			checkLongitudes(t, a, b)
		}
	}
}

// P8.2, P8.3: all pairs of longitudes with ends in a small range, in the middle, at HalfTurn, and around it.
func TestSetsOfAllLongitudesInASmallRange(t *testing.T) {
	for _, base := range []int{-3, -half, half - 5} {
		list := []api.Arc{everywhere}
		for lo := base; lo < base+5; lo++ {
			for hi := base; hi < base+5; hi++ {
				if hi < lo {
					list = append(list, between(lo, hi+turn))
				} else {
					list = append(list, between(lo, hi))
				}
			}
		}
		for i, a := range list {
			for _, b := range list[:i+1] {
				checkLongitudes(t, a, b)
			}
		}
	}
}

// P8.2, P8.3: any longitudes, and those that have ends, the opposites of ends, or the numbers beside them in common.
func TestSetsOfAnyLongitudes(t *testing.T) {
	r := newNumbers()
	for range rounds {
		checkLongitudes(t, r.lon(), r.lon())
		n, m := r.from(between(-half, half-1)), r.from(between(-half, half-1))
		ends := marks(only(n), between(m, m+1), only(n+half), only(m+half))
		checkLongitudes(t, r.lonAmong(ends), r.lonAmong(ends))
	}
}

// P8.2, P8.3: ErrArg for each argument in turn, also before ErrMiss; nothing is inside, or has inside, what is not valid.
func TestSetsRejectInvalidPlaces(t *testing.T) {
	check := func(a, b api.Place) {
		hull, e := place.Hull(a, b)
		wantPlace(t, "Hull", a, b, hull, api.Place{}, e, api.ErrArg)
		meet, e := place.Meet(a, b)
		wantPlace(t, "Meet", a, b, meet, api.Place{}, e, api.ErrArg)
		wantInside(t, a, b, false)
	}
	for _, a := range invalidPlaces() {
		for _, b := range []api.Place{exactly(0, 0), exactly(quarter, -half), exactly(-quarter, half-1), box(anyLat, everywhere), a, invalidPlaces()[0]} {
			check(a, b)
			check(b, a)
		}
	}
}
