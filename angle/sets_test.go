package angle_test

import (
	"testing"

	"almucantar/angle"
	"almucantar/api"
)

// P5.1, P5.3: arcs that have a part, one number, or nothing in common, or of which one is inside the other.
func TestSetExamples(t *testing.T) {
	for _, c := range []struct {
		a, b, hull, meet api.Arc
		meetErr          api.Errno
		inside           bool
	}{
		{between(-10, 5), between(0, 10), between(-10, 10), between(0, 5), api.OK, false},
		{between(0, 5), between(5, 10), between(0, 10), only(5), api.OK, false},
		{between(0, 5), between(6, 10), between(0, 10), api.Arc{}, api.ErrMiss, false},
		{only(-1), only(0), between(-1, 0), api.Arc{}, api.ErrMiss, false},
		{only(0), only(0), only(0), only(0), api.OK, true},
		{only(most), only(-most), between(-most, most), api.Arc{}, api.ErrMiss, false},
		{only(most), between(-most, most), between(-most, most), only(most), api.OK, true},
		{only(-most), between(-most, most), between(-most, most), only(-most), api.OK, true},
		{between(-most, most), between(-most, most), between(-most, most), between(-most, most), api.OK, true},
		{between(1, 2), between(0, 3), between(0, 3), between(1, 2), api.OK, true},
		{between(0, 2), between(0, 3), between(0, 3), between(0, 2), api.OK, true},
		{between(1, 3), between(0, 3), between(0, 3), between(1, 3), api.OK, true},
		{between(0, 4), between(0, 3), between(0, 4), between(0, 3), api.OK, false},
		{between(-1, 3), between(0, 3), between(-1, 3), between(0, 3), api.OK, false},
		{between(-most, -1), between(1, most), between(-most, most), api.Arc{}, api.ErrMiss, false},
		// Numbers with the same direction are different numbers here.
		{only(0), only(turn), between(0, turn), api.Arc{}, api.ErrMiss, false},
	} {
		hull, e := angle.Hull(c.a, c.b)
		wantArc(t, "Hull", c.a, c.b, hull, c.hull, e, api.OK)
		hull, e = angle.Hull(c.b, c.a)
		wantArc(t, "Hull", c.b, c.a, hull, c.hull, e, api.OK)
		meet, e := angle.Meet(c.a, c.b)
		wantArc(t, "Meet", c.a, c.b, meet, c.meet, e, c.meetErr)
		meet, e = angle.Meet(c.b, c.a)
		wantArc(t, "Meet", c.b, c.a, meet, c.meet, e, c.meetErr)
		if got := angle.Inside(c.a, c.b); got != c.inside {
			t.Errorf("Inside(%v, %v) = %v", c.a, c.b, got)
		}
		if got := angle.Inside(c.b, c.a); got != (c.meetErr == api.OK && c.meet == c.b) {
			t.Errorf("Inside(%v, %v) = %v", c.b, c.a, got)
		}
	}
}

func has(a api.Arc, n int) bool { return a.Lo <= n && n <= a.Hi }

// checkSets compares what all three functions say with what they say of each number.
func checkSets(t *testing.T, a, b api.Arc) {
	t.Helper()
	hull, hullErr := angle.Hull(a, b)
	meet, meetErr := angle.Meet(a, b)
	inside, common := true, false
	for n := min(a.Lo, b.Lo) - 1; n <= max(a.Hi, b.Hi)+1; n++ {
		inside = inside && (!has(a, n) || has(b, n))
		both := has(a, n) && has(b, n)
		common = common || both
		if meetErr == api.OK && has(meet, n) != both {
			t.Errorf("Meet(%v, %v) = %v", a, b, meet)
		}
	}
	wantArc(t, "Hull", a, b, hull, between(min(a.Lo, b.Lo), max(a.Hi, b.Hi)), hullErr, api.OK)
	if !common {
		wantArc(t, "Meet", a, b, meet, api.Arc{}, meetErr, api.ErrMiss)
	}
	if common && meetErr != api.OK {
		t.Errorf("Meet(%v, %v) is %d", a, b, meetErr)
	}
	if angle.Inside(a, b) != inside {
		t.Errorf("Inside(%v, %v) = %v", a, b, !inside)
	}
}

// P5.1, P5.3: all pairs of small arcs, in the middle and at both limits.
func TestSetsOfAllSmallArcs(t *testing.T) {
	for _, base := range []int{-most, -3, most - 6} {
		var list []api.Arc
		for lo := base; lo <= base+6; lo++ {
			for hi := lo; hi <= base+6; hi++ {
				list = append(list, between(lo, hi))
			}
		}
		for _, a := range list {
			for _, b := range list {
				checkSets(t, a, b)
			}
		}
	}
}

// P5.1, P5.3: ErrArg comes before ErrMiss, and nothing is inside, or has inside, what is not valid.
func TestSetsRejectInvalidArcs(t *testing.T) {
	check := func(a, b api.Arc) {
		hull, e := angle.Hull(a, b)
		wantArc(t, "Hull", a, b, hull, api.Arc{}, e, api.ErrArg)
		meet, e := angle.Meet(a, b)
		wantArc(t, "Meet", a, b, meet, api.Arc{}, e, api.ErrArg)
		if angle.Inside(a, b) {
			t.Errorf("%v is inside %v", a, b)
		}
	}
	for _, a := range invalid {
		for _, b := range append(invalid, only(0), only(-most), only(most), between(-most, most), between(-turn, turn)) {
			check(a, b)
			check(b, a)
		}
	}
}

// P5.3: a hull contains both, and a part in common is inside both.
func TestSetsOfAnyArcs(t *testing.T) {
	r := newNumbers()
	for range rounds {
		a, b := r.arc(), r.arc()
		hull, e := angle.Hull(a, b)
		if e != api.OK || !angle.Inside(a, hull) || !angle.Inside(b, hull) {
			t.Errorf("Hull(%v, %v) = %v, %d", a, b, hull, e)
		}
		meet, e := angle.Meet(a, b)
		if (e == api.OK) != (a.Lo <= b.Hi && b.Lo <= a.Hi) || e == api.OK && (!angle.Inside(meet, a) || !angle.Inside(meet, b)) {
			t.Errorf("Meet(%v, %v) = %v, %d", a, b, meet, e)
		}
		if part := r.part(a); !angle.Inside(part, a) {
			t.Errorf("%v is not inside %v", part, a)
		}
	}
}
