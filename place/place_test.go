package place_test

import (
	"math"
	"math/rand/v2"
	"testing"

	"almucantar/api"
	"almucantar/place"
)

const (
	quarter = api.Quarter
	half    = api.HalfTurn
	turn    = api.Turn

	rounds = 20000
)

var (
	everywhere = api.Arc{Lo: -half, Hi: half} // all longitudes
	anyLat     = api.Arc{Lo: -quarter, Hi: quarter}
)

// between is the arc with these ends.
func between(lo, hi int) api.Arc { return api.Arc{Lo: lo, Hi: hi} }

// only is the arc of one number.
func only(n int) api.Arc { return api.Arc{Lo: n, Hi: n} }

// long is the arc of a width.
func long(lo, width int) api.Arc { return api.Arc{Lo: lo, Hi: lo + width} }

func box(lat, lon api.Arc) api.Place  { return api.Place{Lat: lat, Lon: lon} }
func point(lat, lon int) api.Point    { return api.Point{Lat: lat, Lon: lon} }
func exactly(lat, lon int) api.Place  { return box(only(lat), only(lon)) }
func atEquator(lon api.Arc) api.Place { return box(only(0), lon) }

var validLatitudes = []api.Arc{
	anyLat, only(-quarter), only(quarter), only(0), between(-quarter, 0), between(0, quarter), between(1-quarter, quarter-1), between(-quarter, 1-quarter), between(quarter-1, quarter),
}

var invalidLatitudes = []api.Arc{
	between(1, 0), between(quarter, -quarter), between(quarter, quarter-1), between(0, -1),
	between(-quarter-1, quarter), between(-quarter, quarter+1), only(-quarter - 1), only(quarter + 1), between(-quarter-1, -quarter), between(quarter, quarter+1), between(-quarter-1, quarter+1),
	between(-api.MaxArc, api.MaxArc), between(0, api.MaxArc+1),
	between(math.MinInt, 0), between(0, math.MaxInt), between(math.MinInt, math.MaxInt), between(math.MaxInt, math.MinInt), only(math.MinInt), only(math.MaxInt),
}

var validLongitudes = []api.Arc{
	everywhere,
	only(-half), only(-half + 1), only(-1), only(0), only(1), only(half - 1),
	between(-1, 1), between(-half, half-1), between(0, half), between(half-1, half), between(half-1, half+1), between(10740000, 10860000),
	long(-half, turn-1), long(1-half, turn-1), long(-1, turn-1), long(0, turn-1), long(1, turn-1), long(half-1, turn-1), long(half-1, turn-2), long(0, half+1),
}

var invalidLongitudes = []api.Arc{
	between(1, 0), between(0, -1), between(half, -half), between(half-1, half-2), between(-half, -half-1), between(7, 6-turn),
	only(-half - 1), only(half), only(half + 1), between(-half-1, 0), between(-half-1, half-1), between(half, half+1), long(half, turn-1), only(turn), only(-turn),
	// of the width of a turn, or more, but not all longitudes
	long(-half-1, turn), long(1-half, turn), long(-1, turn), long(0, turn), long(1, turn), long(half-1, turn), long(half, turn), between(-half, half+1), long(-half-1, turn+1), long(0, turn+1), long(-turn, 2*turn),
	between(0, api.MaxArc), between(-api.MaxArc, api.MaxArc), only(api.MaxArc + 1),
	between(math.MinInt, 0), between(0, math.MaxInt), between(-half, math.MaxInt), between(half-1, math.MaxInt), between(0, math.MinInt), between(half-1, math.MinInt), between(-half, math.MinInt),
	between(math.MinInt, math.MaxInt), between(math.MaxInt, math.MinInt), only(math.MinInt), only(math.MaxInt),
}

// validPlaces have each valid latitude with each valid longitude.
func validPlaces() []api.Place { return combined(validLatitudes, validLongitudes) }

// invalidPlaces have one arc that is not valid, or two.
func invalidPlaces() []api.Place {
	list := combined(invalidLatitudes, invalidLongitudes)
	list = append(list, combined(validLatitudes, invalidLongitudes)...)
	return append(list, combined(invalidLatitudes, validLongitudes)...)
}

func combined(latitudes, longitudes []api.Arc) []api.Place {
	var list []api.Place
	for _, lat := range latitudes {
		for _, lon := range longitudes {
			list = append(list, box(lat, lon))
		}
	}
	return list
}

var validPoints = []api.Point{
	{}, point(quarter, 0), point(-quarter, 0), point(quarter, half-1), point(-quarter, -half), point(quarter, -half), point(-quarter, half-1),
	point(0, -half), point(0, half-1), point(1, -1), point(-1, 1), point(quarter-1, half-2), point(1-quarter, 1-half), point(2045500, -7095000),
}

var invalidPoints = []api.Point{
	point(quarter+1, 0), point(-quarter-1, 0), point(0, half), point(0, -half-1), point(0, half+1), point(0, turn), point(0, -turn), point(half, 0), point(-half, 0),
	point(quarter+1, half), point(-quarter-1, -half-1), point(quarter, half), point(-quarter, -half-1),
	point(math.MaxInt, 0), point(math.MinInt, 0), point(0, math.MaxInt), point(0, math.MinInt), point(math.MinInt, math.MinInt), point(math.MaxInt, math.MaxInt),
}

// numbers makes points and places, the same ones in each run.
type numbers struct{ source *rand.Rand }

func newNumbers() numbers { return numbers{rand.New(rand.NewPCG(8, 180))} }

// from makes a number of an arc.
func (r numbers) from(a api.Arc) int { return a.Lo + r.source.IntN(a.Hi-a.Lo+1) }

// point makes one of a place.
func (r numbers) point(p api.Place) api.Point {
	return point(r.from(p.Lat), signed(r.from(p.Lon)))
}

// lat makes an arc of latitudes, often one that ends at a pole.
func (r numbers) lat() api.Arc {
	a, b := r.from(anyLat), r.from(anyLat)
	switch r.source.IntN(4) {
	case 0:
		a = quarter
	case 1:
		a = -quarter
	}
	return between(min(a, b), max(a, b))
}

// lon makes an arc of longitudes, often a very narrow or a very wide one.
func (r numbers) lon() api.Arc {
	lo, width := r.from(between(-half, half-1)), r.source.IntN(turn)
	switch r.source.IntN(8) {
	case 0:
		width = r.source.IntN(3)
	case 1:
		width = turn - 1 - r.source.IntN(3)
	case 2:
		return everywhere
	}
	return long(lo, width)
}

func (r numbers) place() api.Place { return box(r.lat(), r.lon()) }

// signed is the longitude with the direction of a number of an arc of longitudes.
func signed(n int) int {
	for n >= half {
		n -= turn
	}
	return n
}

// P8.1: ordinary places, all longitudes, longitudes beyond HalfTurn, the least and the greatest Lo and width and one beyond, a Lo greater than Hi, and latitudes up to a pole and beyond it.
func TestValid(t *testing.T) {
	for _, p := range validPlaces() {
		if !place.Valid(p) {
			t.Errorf("%v is not valid", p)
		}
	}
	for _, p := range invalidPlaces() {
		if place.Valid(p) {
			t.Errorf("%v is valid", p)
		}
	}
}

// P8.1: poles and one beyond, and longitudes at -HalfTurn, HalfTurn - 1 and HalfTurn.
func TestValidPoint(t *testing.T) {
	for _, p := range validPoints {
		if !place.ValidPoint(p) {
			t.Errorf("%v is not valid", p)
		}
	}
	for _, p := range invalidPoints {
		if place.ValidPoint(p) {
			t.Errorf("%v is valid", p)
		}
	}
}

// P8.1: the place of a point has its coordinates alone.
func TestOf(t *testing.T) {
	for _, p := range validPoints {
		if got, e := place.Of(p); got != exactly(p.Lat, p.Lon) || e != api.OK {
			t.Errorf("Of(%v) = %v, %d", p, got, e)
		}
	}
	for _, p := range invalidPoints {
		if got, e := place.Of(p); got != (api.Place{}) || e != api.ErrArg {
			t.Errorf("Of(%v) = %v, %d", p, got, e)
		}
	}
}

func wantContains(t *testing.T, p api.Place, q api.Point, want bool) {
	t.Helper()
	if got, e := place.Contains(p, q); got != want || e != api.OK {
		t.Errorf("Contains(%v, %v) = %v, %d", p, q, got, e)
	}
}

// P8.1: points at the ends of both arcs and one beyond them, on both sides of HalfTurn, and in longitudes that have all directions but few.
func TestContainsExamples(t *testing.T) {
	wide := box(between(-5, 7), between(10740000, 10860000))
	for _, c := range []struct {
		p    api.Place
		q    api.Point
		want bool
	}{
		{wide, point(0, 10740000), true},
		{wide, point(0, 10739999), false},
		{wide, point(0, half-1), true},
		{wide, point(0, -half), true},
		{wide, point(0, -10740000), true},
		{wide, point(0, -10739999), false},
		{wide, point(0, 0), false},
		{wide, point(-5, -half), true},
		{wide, point(-6, -half), false},
		{wide, point(7, -half), true},
		{wide, point(8, -half), false},
		{exactly(0, 0), point(0, 0), true},
		{exactly(0, 0), point(0, 1), false},
		{exactly(0, 0), point(0, -1), false},
		{exactly(0, 0), point(1, 0), false},
		{exactly(0, 0), point(0, -half), false},
		{exactly(0, -half), point(0, -half), true},
		{exactly(0, -half), point(0, half-1), false},
		{atEquator(between(0, half)), point(0, -half), true},
		{atEquator(between(0, half-1)), point(0, -half), false},
		{atEquator(between(-half, 0)), point(0, half-1), false},
		{atEquator(everywhere), point(0, -half), true},
		{atEquator(everywhere), point(0, half-1), true},
		{atEquator(everywhere), point(0, 0), true},
		{atEquator(everywhere), point(1, 0), false},
		{atEquator(long(5, turn-1)), point(0, 4), true},
		{atEquator(long(5, turn-2)), point(0, 4), false},
		{atEquator(long(5, turn-2)), point(0, 3), true},
		{atEquator(long(5, turn-2)), point(0, 5), true},
		{atEquator(long(-half, turn-1)), point(0, half-1), true},
		{atEquator(long(-half, turn-2)), point(0, half-1), false},
		{atEquator(long(half-1, turn-1)), point(0, half-2), true},
		{atEquator(long(half-1, turn-2)), point(0, half-2), false},
	} {
		wantContains(t, c.p, c.q, c.want)
	}
}

// P8.1: a pole is contained whatever the longitude, if its latitude is; what is next to it is not.
func TestContainsPoles(t *testing.T) {
	for _, lon := range []int{-half, -1, 0, 10, 11, 20, 21, half - 1} {
		in := lon >= 10 && lon <= 20
		for _, sign := range []int{-1, 1} {
			pole, beside := point(sign*quarter, lon), point(sign*(quarter-1), lon)
			wantContains(t, box(anyLat, between(10, 20)), pole, true)
			wantContains(t, box(anyLat, between(10, 20)), beside, in)
			wantContains(t, box(only(sign*quarter), only(10)), pole, true)
			wantContains(t, box(only(sign*quarter), only(10)), beside, false)
			wantContains(t, box(only(-sign*quarter), everywhere), pole, false)
			wantContains(t, box(between(1-quarter, quarter-1), everywhere), pole, false)
			wantContains(t, box(between(1-quarter, quarter-1), everywhere), beside, true)
		}
	}
}

// P8.1: all notable longitudes, and the points beside their ends, compared with a search among whole turns.
func TestContainsComparesDirections(t *testing.T) {
	for _, lon := range notableLongitudes() {
		for _, end := range []int{lon.Lo, lon.Hi, -half, 0, half} {
			for n := end - 2; n <= end+2; n++ {
				q := point(0, signed(n))
				if q.Lon < -half {
					q.Lon += turn
				}
				wantContains(t, atEquator(lon), q, has(lon, 2*q.Lon))
			}
		}
	}
}

// P8.1: ErrArg if the place or the point is not valid, though no latitude, or the pole, is in common.
func TestContainsIsErrArg(t *testing.T) {
	check := func(p api.Place, q api.Point) {
		if got, e := place.Contains(p, q); got || e != api.ErrArg {
			t.Errorf("Contains(%v, %v) = %v, %d", p, q, got, e)
		}
	}
	for _, p := range invalidPlaces() {
		for _, q := range validPoints {
			check(p, q)
		}
		check(p, invalidPoints[0])
	}
	for _, p := range validPlaces() {
		for _, q := range invalidPoints {
			check(p, q)
		}
	}
}
