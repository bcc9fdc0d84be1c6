package arctrig_test

import (
	"testing"

	"almucantar/api"
	"almucantar/arctrig"
	"almucantar/fixed"
	"almucantar/trig"
)

func wantBearing(t *testing.T, y, x api.Fixed, want api.Arc) {
	if got, e := arctrig.Bearing(y, x); got != want || e != api.OK {
		t.Errorf("Bearing(%v, %v) = %v, %d; want %v", y, x, got, e, want)
	}
}

// checkBearing compares with more digits.
func checkBearing(t *testing.T, y, x api.Fixed) { wantBearing(t, y, x, directionsOf(y, x)) }

// bearingOf is the arc of valid intervals.
func bearingOf(t *testing.T, y, x api.Fixed) api.Arc {
	got, e := arctrig.Bearing(y, x)
	if e != api.OK {
		t.Errorf("Bearing(%v, %v) is %d", y, x, e)
	}
	return got
}

// P7.3: one point on each axis, between the axes, and in each quarter, near and far.
func TestPoints(t *testing.T) {
	for _, size := range []int{1, 2, 5, one - 1, one, one + 1} {
		for _, c := range []struct {
			y, x int
			want api.Arc
		}{
			{0, 1, only(0)}, {1, 0, only(quarter)}, {0, -1, only(half)}, {-1, 0, only(3 * quarter)},
			{0, 2, only(0)}, {2, 0, only(quarter)}, {0, -2, only(half)}, {-2, 0, only(3 * quarter)},
			{1, 1, only(quarter / 2)}, {1, -1, only(3 * quarter / 2)}, {-1, -1, only(5 * quarter / 2)}, {-1, 1, only(7 * quarter / 2)},
			{1, 2, between(1593903, 1593904)}, {2, 1, between(quarter-1593904, quarter-1593903)},
			{2, -1, between(quarter+1593903, quarter+1593904)}, {1, -2, between(half-1593904, half-1593903)},
			{-1, -2, between(half+1593903, half+1593904)}, {-2, -1, between(3*quarter-1593904, 3*quarter-1593903)},
			{-2, 1, between(3*quarter+1593903, 3*quarter+1593904)}, {-1, 2, between(turn-1593904, turn-1593903)},
		} {
			if y, x := c.y*size, c.x*size; max(y, -y, x, -x) <= two {
				wantBearing(t, single(y), single(x), c.want)
			}
		}
	}
	// As near to the axes, and to the directions between them, as points can be.
	for _, far := range []int{two, two - 1, one, one/2 + 1} {
		wantBearing(t, single(1), single(far), between(0, 1))
		wantBearing(t, single(-1), single(far), between(turn-1, turn))
		wantBearing(t, single(1), single(-far), between(half-1, half))
		wantBearing(t, single(-1), single(-far), between(half, half+1))
		wantBearing(t, single(far), single(1), between(quarter-1, quarter))
		wantBearing(t, single(far), single(-1), between(quarter, quarter+1))
		wantBearing(t, single(-far), single(1), between(3*quarter, 3*quarter+1))
		wantBearing(t, single(-far), single(-1), between(3*quarter-1, 3*quarter))
		wantBearing(t, single(far), single(far-1), between(quarter/2, quarter/2+1))
		wantBearing(t, single(far-1), single(far), between(quarter/2-1, quarter/2))
		wantBearing(t, single(far-1), single(-far), between(3*quarter/2, 3*quarter/2+1))
		wantBearing(t, single(-far), single(1-far), between(5*quarter/2, 5*quarter/2+1))
		wantBearing(t, single(1-far), single(far), between(7*quarter/2, 7*quarter/2+1))
	}
}

// P7.3: the origin inside of a box, on a side, at a corner, and alone; and all boxes of small numbers.
func TestBoxesAroundTheOrigin(t *testing.T) {
	whole := between(0, turn)
	for _, n := range []int{1, 7, one, two} {
		sides := []api.Fixed{fix(-n, n), fix(0, n), fix(-n, 0), single(0)}
		for _, y := range sides {
			for _, x := range sides {
				wantBearing(t, y, x, whole)
			}
		}
	}
	for a := -2; a <= 2; a++ {
		for b := a; b <= 2; b++ {
			for c := -2; c <= 2; c++ {
				for d := c; d <= 2; d++ {
					checkBearing(t, fix(a, b), fix(c, d))
				}
			}
		}
	}
}

// P7.3: boxes that touch an axis, or cross one, the direction 0 among them; as far out, and as wide, as there are.
func TestBoxesOverAxes(t *testing.T) {
	for _, c := range []struct {
		y, x api.Fixed
		want api.Arc
	}{
		{fix(-1, 1), single(one), between(turn-1, turn+1)},
		{fix(0, 1), single(one), between(0, 1)},
		{fix(-1, 0), single(one), between(turn-1, turn)},
		{fix(1, one), single(one), between(0, quarter/2)},
		{fix(-one, -1), single(one), between(7*quarter/2, turn)},
		{fix(-one, one), single(one), between(7*quarter/2, turn+quarter/2)},
		{fix(-one, 0), fix(one, two), between(7*quarter/2, turn)},
		{fix(0, one), fix(one, two), between(0, quarter/2)},
		{single(0), fix(1, two), only(0)},
		{single(0), fix(-two, -1), only(half)},
		{fix(1, two), single(0), only(quarter)},
		{fix(-two, -1), single(0), only(3 * quarter)},
		{fix(-two, two), fix(1, two), between(3*quarter, turn+quarter)},
		{fix(-two, two), single(1), between(3*quarter, turn+quarter)},
		{fix(-two, two), single(two), between(7*quarter/2, turn+quarter/2)},
		{fix(-two, two), fix(-two, -1), between(quarter, 3*quarter)},
		{fix(1, two), fix(-two, two), between(0, half)},
		{fix(-two, -1), fix(-two, two), between(half, turn)},
		{fix(1, two), fix(0, two), between(0, quarter)},
		{fix(0, two), fix(1, two), between(0, quarter)},
		{fix(-two, 0), fix(1, two), between(3*quarter, turn)},
		{fix(-two, -1), fix(0, two), between(3*quarter, turn)},
		{fix(0, two), fix(-two, -1), between(quarter, half)},
		{fix(-two, 0), fix(-two, -1), between(half, 3*quarter)},
		{fix(one, two), fix(one, two), between(1593903, quarter-1593903)},
		{fix(one, two), fix(-two, -one), between(quarter+1593903, half-1593903)},
		{fix(two-1, two), fix(two-1, two), between(quarter/2-1, quarter/2+1)},
		{fix(one, one), fix(-one, one), between(quarter/2, 3*quarter/2)},
		{fix(-one, one), single(-one), between(3*quarter/2, 5*quarter/2)},
		{single(-one), fix(-one, one), between(5*quarter/2, 7*quarter/2)},
	} {
		wantBearing(t, c.y, c.x, c.want)
		checkBearing(t, c.y, c.x)
	}
	ends := []int{-two, 1 - two, -one, -2, -1, 0, 1, 2, one, two - 1, two}
	for i, a := range ends {
		for _, b := range ends[i:] {
			for j, c := range ends {
				for _, d := range ends[j:] {
					checkBearing(t, fix(a, b), fix(c, d))
				}
			}
		}
	}
}

// P7.3: an interval that is not valid, or both.
func TestInvalidBoxes(t *testing.T) {
	wrong := func(y, x api.Fixed) {
		if got, e := arctrig.Bearing(y, x); got != (api.Arc{}) || e != api.ErrArg {
			t.Errorf("Bearing(%v, %v) = %v, %d; want the error %d", y, x, got, e, api.ErrArg)
		}
	}
	for _, a := range invalid {
		for _, b := range []api.Fixed{{}, single(one), fix(-two, two), single(-two), fix(1, two)} {
			wrong(a, b)
			wrong(b, a)
		}
		for _, b := range invalid {
			wrong(a, b)
		}
	}
	r := newNumbers()
	for range 3000 {
		y, x := fix(r.int(), r.int()), fix(r.int(), r.int())
		if fixed.Valid(y) && fixed.Valid(x) {
			checkBearing(t, y, x)
		} else {
			wrong(y, x)
		}
	}
}

// checkImages compares a point, and those that it is mirrored and turned to, and the box of the points beside it.
func checkImages(t *testing.T, y, x int) {
	for _, p := range [][2]int{{y, x}, {x, y}, {x, -y}, {y, -x}, {-y, -x}, {-x, -y}, {-x, y}, {-y, x}} {
		checkBearing(t, single(p[0]), single(p[1]))
	}
	beside := func(n int) api.Fixed { return fix(max(-two, n-1), min(two, n+1)) }
	checkBearing(t, beside(y), beside(x))
}

// P7.3: the points whose directions are the nearest ones to an integer of units, a little greater than it, or less.
func TestPointsNextToUnits(t *testing.T) {
	for _, c := range []struct {
		n, x, y int
		greater bool
	}{
		{386800, 886380502, 100154599, true}, {2313200, 986535101, 786225903, false}, {1078871, 251678198, 81683833, true},
		{958935, 1515264278, 433987065, false}, {2433663, 1421147886, 1216396201, false}, {572764, 1590625336, 267494271, false},
		{1661789, 807562045, 423916326, true}, {1621129, 333362031, 169994365, false}, {2316002, 691441249, 551970956, false},
		{1741065, 1949251343, 1081277213, true}, {1136602, 1618920695, 555649782, false}, {355692, 1402526302, 145634701, false},
	} {
		want := between(c.n-1, c.n)
		if c.greater {
			want = between(c.n, c.n+1)
		}
		wantBearing(t, single(c.y), single(c.x), want)
		wantBearing(t, single(c.x), single(c.y), between(quarter-want.Hi, quarter-want.Lo))
		wantBearing(t, single(-c.y), single(-c.x), between(half+want.Lo, half+want.Hi))
		wantBearing(t, single(c.x), single(-c.y), between(quarter+want.Lo, quarter+want.Hi))
		wantBearing(t, single(-c.y), single(c.x), between(turn-want.Hi, turn-want.Lo))
		checkImages(t, c.y, c.x)
	}
}

// P7.3: the points next to a direction, at all distances: convergents of the continued fraction of its tangent, as far as the digits of its sine lead.
func TestPointsNextToAnyUnit(t *testing.T) {
	r := newNumbers()
	for i := range 100 {
		n := 1 + r.source.IntN(quarter-1)
		if i < 40 {
			n = quarter/2 - 20 + i
		}
		sine, e := trig.Sin(only(n))
		cosine, f := trig.Cos(only(n))
		if e != api.OK || f != api.OK {
			t.Fatal(e, f)
		}
		checkImages(t, 2*sine.Lo, 2*cosine.Lo)
		checkImages(t, 2*sine.Hi, 2*cosine.Lo)
		x0, y0, x, y := 0, 1, 1, 0
		for a, b := cosine.Lo, sine.Lo; b != 0 && x <= two && y <= two; a, b = b, a%b {
			checkImages(t, y, x)
			x0, y0, x, y = x, y, a/b*x+x0, a/b*y+y0
		}
	}
}

// P7.3: boxes of all sizes.
func TestAnyBoxes(t *testing.T) {
	r := newNumbers()
	for range 2000 {
		limit := []int{two, one, 1000, 3}[r.source.IntN(4)]
		checkBearing(t, r.interval(limit), r.interval(limit))
		// Those that contain the origin are of less interest.
		y := r.interval(limit)
		if y.Hi >= 0 {
			y = fix(max(1, y.Lo), max(1, y.Hi))
		}
		checkBearing(t, y, r.interval(two))
		checkBearing(t, r.interval(two), y)
	}
}
