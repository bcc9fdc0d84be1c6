package arctrig

import (
	"math/bits"
	"slices"

	"almucantar/api"
	"almucantar/digits"
	"almucantar/fixed"
	"almucantar/wide"
)

// point is a corner of a box, in multiples of 1/One.
type point struct{ x, y int }

// Bearing returns the arc of the directions of a box.
func Bearing(y, x api.Fixed) (api.Arc, api.Errno) {
	if !fixed.Valid(y) || !fixed.Valid(x) {
		return api.Arc{}, api.ErrArg
	}
	if hasZero(y) && hasZero(x) {
		return api.Arc{Lo: 0, Hi: api.Turn}, api.OK
	}
	first, last := extremes([4]point{{x.Lo, y.Lo}, {x.Lo, y.Hi}, {x.Hi, y.Lo}, {x.Hi, y.Hi}})
	lo, _ := first.angle()
	_, hi := last.angle()
	if hi < lo {
		// The directions go on past a whole turn.
		hi += api.Turn
	}
	return api.Arc{Lo: lo, Hi: hi}, api.OK
}

// hasZero reports whether a valid interval contains 0.
func hasZero(a api.Fixed) bool { return a.Lo <= 0 && a.Hi >= 0 }

// extremes returns the corners with which the directions begin and end.
func extremes(corners [4]point) (first, last point) {
	first, last = corners[0], corners[0]
	for _, p := range corners[1:] {
		if p.before(first) {
			first = p
		}
		if last.before(p) {
			last = p
		}
	}
	return first, last
}

// before reports whether the way from the direction of p to that of q, which is less than half a turn, goes to greater angles.
func (p point) before(q point) bool {
	// At most 2^62, so that neither product overflows, though their difference could.
	return p.y*q.x < p.x*q.y
}

// angle returns the angle of a point other than the origin, rounded down and up.
func (p point) angle() (down, up int) {
	turned := 0
	for p.x <= 0 || p.y < 0 {
		p = point{p.y, -p.x}
		turned += api.Quarter
	}
	down, up = p.acute()
	return turned + down, turned + up
}

// acute returns the angle of a point with a positive x and a y that is not negative, rounded down and up.
func (p point) acute() (down, up int) {
	switch {
	// No other angle of such a point is an integer, since no other one has a rational tangent.
	case p.y == 0:
		return 0, 0
	case p.y == p.x:
		return api.Quarter / 2, api.Quarter / 2
	case p.y > p.x:
		down, up = point{p.y, p.x}.acute()
		return api.Quarter - up, api.Quarter - down
	}
	down, _ = arcsine(p.sine())
	// What the rounding of the sine took away is less than a unit of the angle: up to 45 degrees a unit adds more than 2/One to the sine.
	return around(down, down+2, p.compare)
}

// sine returns One times the sine of the angle of a point whose x is greater than its y, which is positive, rounded down.
func (p point) sine() int {
	x, y := uint64(p.x), uint64(p.y)
	square, _ := bits.Div64(y*y>>4, y*y<<60, x*x+y*y)
	// No error is possible, since the square is not negative.
	root, _ := wide.Root(wide.Of(int(square)))
	return root
}

// compare compares an integer angle with the one of the point, both of more than 0 and less than a right angle: the sine of their difference has the sign of x sin n - y cos n. This is at least 2^-51 away from 0 (a test of digits goes through all angles), so that the fine digits tell its sign.
func (p point) compare(n int) int {
	left := digits.Sine(n, digits.Fine).Times(p.x)
	right := digits.Sine(api.Quarter-n, digits.Fine).Times(p.y)
	return slices.Compare(left[:], right[:])
}
