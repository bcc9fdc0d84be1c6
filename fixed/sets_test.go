package fixed_test

import (
	"testing"

	"almucantar/api"
	"almucantar/fixed"
)

// P4.5: intervals that have a part, one number, or nothing in common, or of which one is inside the other.
func TestSetExamples(t *testing.T) {
	half := one / 2
	for _, c := range []struct {
		a, b, hull, meet api.Fixed
		meetErr          api.Errno
		inside           bool
	}{
		{between(-one, half), between(0, one), between(-one, one), between(0, half), api.OK, false},
		{between(0, half), between(half, one), between(0, one), only(half), api.OK, false},
		{between(0, half), between(half+1, one), between(0, one), api.Fixed{}, api.ErrMiss, false},
		{only(-1), only(0), between(-1, 0), api.Fixed{}, api.ErrMiss, false},
		{only(0), only(0), only(0), only(0), api.OK, true},
		{only(two), only(-two), between(-two, two), api.Fixed{}, api.ErrMiss, false},
		{only(two), between(-two, two), between(-two, two), only(two), api.OK, true},
		{only(-two), between(-two, two), between(-two, two), only(-two), api.OK, true},
		{between(-two, two), between(-two, two), between(-two, two), between(-two, two), api.OK, true},
		{between(1, 2), between(0, 3), between(0, 3), between(1, 2), api.OK, true},
		{between(0, 2), between(0, 3), between(0, 3), between(0, 2), api.OK, true},
		{between(1, 3), between(0, 3), between(0, 3), between(1, 3), api.OK, true},
		{between(0, 4), between(0, 3), between(0, 4), between(0, 3), api.OK, false},
		{between(-1, 3), between(0, 3), between(-1, 3), between(0, 3), api.OK, false},
		{between(-two, -one), between(one, two), between(-two, two), api.Fixed{}, api.ErrMiss, false},
	} {
		hull, e := fixed.Hull(c.a, c.b)
		wantFixed(t, "Hull", c.a, c.b, hull, c.hull, e, api.OK)
		hull, e = fixed.Hull(c.b, c.a)
		wantFixed(t, "Hull", c.b, c.a, hull, c.hull, e, api.OK)
		meet, e := fixed.Meet(c.a, c.b)
		wantFixed(t, "Meet", c.a, c.b, meet, c.meet, e, c.meetErr)
		meet, e = fixed.Meet(c.b, c.a)
		wantFixed(t, "Meet", c.b, c.a, meet, c.meet, e, c.meetErr)
		if got := fixed.Inside(c.a, c.b); got != c.inside {
			t.Errorf("Inside(%v, %v) = %v", c.a, c.b, got)
		}
		if got := fixed.Inside(c.b, c.a); got != (c.meetErr == api.OK && c.meet == c.b) {
			t.Errorf("Inside(%v, %v) = %v", c.b, c.a, got)
		}
	}
}

// has reports whether n/One is in an interval.
func has(a api.Fixed, n int) bool { return a.Lo <= n && n <= a.Hi }

// checkSets compares what all three functions say with what they say of each number.
func checkSets(t *testing.T, a, b api.Fixed) {
	t.Helper()
	hull, hullErr := fixed.Hull(a, b)
	meet, meetErr := fixed.Meet(a, b)
	inside, common := true, false
	for n := min(a.Lo, b.Lo) - 1; n <= max(a.Hi, b.Hi)+1; n++ {
		inside = inside && (!has(a, n) || has(b, n))
		both := has(a, n) && has(b, n)
		common = common || both
		if meetErr == api.OK && has(meet, n) != both {
			t.Errorf("Meet(%v, %v) = %v", a, b, meet)
		}
	}
	want := between(min(a.Lo, b.Lo), max(a.Hi, b.Hi))
	wantFixed(t, "Hull", a, b, hull, want, hullErr, api.OK)
	if !common {
		wantFixed(t, "Meet", a, b, meet, api.Fixed{}, meetErr, api.ErrMiss)
	}
	if common && meetErr != api.OK {
		t.Errorf("Meet(%v, %v) is %d", a, b, meetErr)
	}
	if fixed.Inside(a, b) != inside {
		t.Errorf("Inside(%v, %v) = %v", a, b, !inside)
	}
}

// P4.5: all pairs of small intervals, in the middle and at both limits.
func TestSetsOfAllSmallIntervals(t *testing.T) {
	for _, base := range []int{-two, -3, two - 6} {
		var list []api.Fixed
		for lo := base; lo <= base+6; lo++ {
			for hi := lo; hi <= base+6; hi++ {
				list = append(list, between(lo, hi))
			}
		}
		for _, a := range list {
			for _, b := range list {
				checkSets(t, a, b)
			}
		}
	}
}

// P4.5: ErrArg comes before ErrMiss, and nothing is inside, or has inside, what is not valid.
func TestSetsRejectInvalidArguments(t *testing.T) {
	check := func(a, b api.Fixed) {
		hull, e := fixed.Hull(a, b)
		wantFixed(t, "Hull", a, b, hull, api.Fixed{}, e, api.ErrArg)
		meet, e := fixed.Meet(a, b)
		wantFixed(t, "Meet", a, b, meet, api.Fixed{}, e, api.ErrArg)
		if fixed.Inside(a, b) {
			t.Errorf("%v is inside %v", a, b)
		}
	}
	for _, a := range invalid {
		for _, b := range append(invalid, only(0), only(-two), only(two), between(-two, two), between(-one, one)) {
			check(a, b)
			check(b, a)
		}
	}
}

// P4.5, P4.6: a hull contains both, and a part in common is inside both.
func TestSetsOfAnyIntervals(t *testing.T) {
	r := newNumbers()
	for range rounds {
		a, b := r.interval(), r.interval()
		hull, e := fixed.Hull(a, b)
		if e != api.OK || !fixed.Inside(a, hull) || !fixed.Inside(b, hull) {
			t.Errorf("Hull(%v, %v) = %v, %d", a, b, hull, e)
		}
		meet, e := fixed.Meet(a, b)
		if (e == api.OK) != (a.Lo <= b.Hi && b.Lo <= a.Hi) || e == api.OK && (!fixed.Inside(meet, a) || !fixed.Inside(meet, b)) {
			t.Errorf("Meet(%v, %v) = %v, %d", a, b, meet, e)
		}
		part := r.inner(a)
		if !fixed.Inside(part, a) {
			t.Errorf("%v is not inside %v", part, a)
		}
		whole, wholeErr := fixed.Meet(a, b)
		smaller, e := fixed.Meet(part, b)
		if e == api.OK && (wholeErr != api.OK || !fixed.Inside(smaller, whole)) {
			t.Errorf("Meet(%v, %v) = %v, of %v %v", part, b, smaller, a, whole)
		}
	}
}
