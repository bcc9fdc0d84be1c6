package place_test

import (
	"strings"
	"testing"

	"almucantar/api"
	"almucantar/place"
)

// P8.5: a place of one point, and the hull of two, contain them, and have them inside.
func TestPlacesContainTheirPoints(t *testing.T) {
	r := newNumbers()
	check := func(p, q api.Point) {
		a, _ := place.Of(p)
		b, _ := place.Of(q)
		hull, e := place.Hull(a, b)
		if e != api.OK {
			t.Errorf("Hull(%v, %v) is %d", a, b, e)
		}
		wantContains(t, a, p, true)
		wantContains(t, b, q, true)
		wantContains(t, hull, p, true)
		wantContains(t, hull, q, true)
		wantInside(t, a, hull, true)
		wantInside(t, b, hull, true)
	}
	for _, p := range validPoints {
		for _, q := range validPoints {
			check(p, q)
		}
	}
	for range rounds {
		check(r.point(box(anyLat, everywhere)), r.point(box(anyLat, everywhere)))
	}
}

// contained is what Contains says of a valid place and point.
func contained(t *testing.T, p api.Place, q api.Point) bool {
	t.Helper()
	got, e := place.Contains(p, q)
	if e != api.OK {
		t.Errorf("Contains(%v, %v) is %d", p, q, e)
	}
	return got
}

// checkPoint looks at whether the hull of two places has a point that either has, and their meet one that both have.
func checkPoint(t *testing.T, a, b api.Place, q api.Point) {
	t.Helper()
	inA, inB := contained(t, a, q), contained(t, b, q)
	hull, e := place.Hull(a, b)
	if e != api.OK || (inA || inB) && !contained(t, hull, q) {
		t.Errorf("Hull(%v, %v) = %v, %d, without %v", a, b, hull, e, q)
	}
	if !inA || !inB || q.Lat == quarter || q.Lat == -quarter {
		return
	}
	meet, e := place.Meet(a, b)
	if e != api.OK || !contained(t, meet, q) {
		t.Errorf("Meet(%v, %v) = %v, %d, without %v", a, b, meet, e, q)
	}
}

// P8.5: points of either place, of the hull, and of all others, and those at corners and poles.
func TestHullsAndMeetsHaveThePoints(t *testing.T) {
	r := newNumbers()
	for range rounds {
		a, b := r.place(), r.place()
		hull, e := place.Hull(a, b)
		if e != api.OK {
			t.Errorf("Hull(%v, %v) is %d", a, b, e)
			continue
		}
		wantInside(t, a, hull, true)
		wantInside(t, b, hull, true)
		for _, p := range []api.Place{a, b, hull, box(anyLat, everywhere)} {
			checkPoint(t, a, b, r.point(p))
			checkPoint(t, a, b, point(p.Lat.Lo, signed(p.Lon.Lo)))
			checkPoint(t, a, b, point(p.Lat.Hi, signed(p.Lon.Hi)))
		}
	}
}

// P8.5: all directions of a small range, at 0 and on both sides of HalfTurn: a hull of narrow arcs has those from the first to the last one, a meet those that both have.
func TestHullsAndMeetsOfNarrowLongitudes(t *testing.T) {
	const size = 5
	for _, base := range []int{-3, half - 3} {
		var list []api.Arc // from 0 on, counted from the base
		for lo := range size {
			for hi := lo; hi < size; hi++ {
				list = append(list, between(lo, hi))
			}
		}
		at := func(a api.Arc) api.Place { return atEquator(long(signed(base+a.Lo), a.Hi-a.Lo)) }
		for _, a := range list {
			for _, b := range list {
				hull, _ := place.Hull(at(a), at(b))
				meet, e := place.Meet(at(a), at(b))
				for n := -1; n <= size; n++ {
					q := point(0, signed(base+n))
					wantContains(t, hull, q, n >= min(a.Lo, b.Lo) && n <= max(a.Hi, b.Hi))
					inBoth := n >= max(a.Lo, b.Lo) && n <= min(a.Hi, b.Hi)
					if e == api.OK {
						wantContains(t, meet, q, inBoth)
					} else if inBoth {
						t.Errorf("Meet(%v, %v) is %d", at(a), at(b), e)
					}
				}
			}
		}
	}
}

// P8.5: neither hulls nor meets depend on the order; what a place has in common with itself, or with a part, is this.
func TestOrderDoesNotMatter(t *testing.T) {
	r := newNumbers()
	for range rounds {
		a, b := r.place(), r.place()
		hull, e := place.Hull(a, b)
		other, otherErr := place.Hull(b, a)
		wantPlace(t, "Hull", a, b, hull, other, e, otherErr)
		wantMeet(t, a, hull, a)
		wantMeet(t, a, a, a)
		wantHull(t, a, hull, hull)
		wantHull(t, a, a, a)
		meet, e := place.Meet(a, b)
		other, otherErr = place.Meet(b, a)
		wantPlace(t, "Meet", a, b, meet, other, e, otherErr)
		if e != api.OK && (e != api.ErrMiss || meet != api.Place{}) {
			t.Errorf("Meet(%v, %v) = %v, %d", a, b, meet, e)
		}
	}
}

// P8.5: a pole that both contain is not in their meet, if they have no longitude in common.
func TestPolesCanBeMissed(t *testing.T) {
	pole := point(quarter, 7)
	a, b := box(between(0, quarter), between(10, 20)), box(between(-5, quarter), between(30, 40))
	wantContains(t, a, pole, true)
	wantContains(t, b, pole, true)
	wantMiss(t, a, b)
	hull, _ := place.Hull(a, b)
	wantContains(t, hull, pole, true)
}

// P1: any ints and bytes: no function panics; what they return is valid, or the zero value beside an error.
func TestAnyArguments(t *testing.T) {
	r := newNumbers()
	end := func() int { return int(r.source.Uint64()) >> r.source.IntN(64) }
	anyPlace := func() api.Place { return box(between(end(), end()), between(end(), end())) }
	check := func(name string, p api.Place, e api.Errno) {
		if e == api.OK && !place.Valid(p) || e != api.OK && p != (api.Place{}) {
			t.Errorf("%s is %v, %d", name, p, e)
		}
	}
	for range rounds {
		a, b, q := anyPlace(), anyPlace(), point(end(), end())
		if r.source.IntN(2) == 0 {
			b = r.place()
		}
		hull, e := place.Hull(a, b)
		check("a hull", hull, e)
		meet, e := place.Meet(b, a)
		check("a meet", meet, e)
		single, e := place.Of(q)
		check("a place of a point", single, e)
		if place.ValidPoint(q) != (e == api.OK) {
			t.Errorf("ValidPoint(%v) is not what Of says: %d", q, e)
		}
		if in, e := place.Contains(b, q); in && e != api.OK {
			t.Errorf("%v contains %v, %d", b, q, e)
		}
		if place.Inside(a, b) && !(place.Valid(a) && place.Valid(b)) {
			t.Errorf("%v is inside %v", a, b)
		}
		place.Print(a)
		place.Text(q)
		bytes := make([]byte, r.source.IntN(30))
		for i := range bytes {
			bytes[i] = byte(r.source.Uint32())
		}
		place.Parse(string(bytes))
	}
	for _, s := range []string{strings.Repeat(" ", 1<<20), strings.Repeat("0", 1<<20), strings.Repeat("-", 1<<20), strings.Repeat("N", 1<<20)} {
		wantParsed(t, s, api.Point{}, api.ErrForm)
	}
}
