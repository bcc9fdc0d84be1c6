package arctrig_test

import (
	"testing"

	"almucantar/angle"
	"almucantar/api"
	"almucantar/fixed"
	"almucantar/trig"
)

const rounds = 10000

func opposite(a api.Fixed) api.Fixed { return fix(-a.Hi, -a.Lo) }

// mirrored is the arc of the differences of an angle from those of an arc.
func mirrored(n int, a api.Arc) api.Arc { return between(n-a.Hi, n-a.Lo) }

// P7.4: the arcsine of the opposite, and arccosines.
func TestOpposites(t *testing.T) {
	r := newNumbers()
	for range rounds {
		a := r.interval(two)
		if a.Hi < -one || a.Lo > one {
			continue
		}
		arcsine := asin.of(t, a)
		asin.want(t, opposite(a), mirrored(0, arcsine))
		acos.want(t, a, mirrored(quarter, arcsine))
		acos.want(t, opposite(a), mirrored(half, acos.of(t, a)))
		if haversines := fix(one-a.Hi, one-a.Lo); haversines.Hi <= two && a.Hi >= 0 {
			ahav.want(t, haversines, mirrored(half, ahav.of(t, a)))
		}
	}
}

// arc makes wide and narrow ones of angles from lo to hi, and those of one angle.
func (r numbers) arc(lo, hi int) api.Arc {
	a, b := lo+r.source.IntN(hi-lo+1), lo+r.source.IntN(hi-lo+1)
	if r.source.IntN(2) == 0 {
		b = min(hi, a+r.source.IntN(4))
	}
	return between(min(a, b), max(a, b))
}

// P7.4, P2: angles are in the arcs of their sines, cosines, and haversines.
func TestAnglesThereAndBack(t *testing.T) {
	r := newNumbers()
	for range rounds {
		a := r.arc(-quarter, quarter)
		sine, _ := trig.Sin(a)
		if got := asin.of(t, sine); !angle.Inside(a, got) {
			t.Errorf("the arcsine of the sine of %v is %v", a, got)
		}
		a = r.arc(0, half)
		cosine, _ := trig.Cos(a)
		if got := acos.of(t, cosine); !angle.Inside(a, got) {
			t.Errorf("the arccosine of the cosine of %v is %v", a, got)
		}
		haversine, _ := trig.Haversine(a)
		if got := ahav.of(t, haversine); !angle.Inside(a, got) {
			t.Errorf("%v is not inside of the angles %v of its haversine", a, got)
		}
	}
}

// P7.4, P2: numbers are in the sines, cosines, and haversines of their arcs; a greater interval has a greater arc.
func TestNumbersThereAndBack(t *testing.T) {
	r := newNumbers()
	back := []func(api.Arc) (api.Fixed, api.Errno){trig.Sin, trig.Cos, trig.Haversine}
	for range rounds {
		for i, f := range []function{asin, acos, ahav} {
			whole := r.interval(one)
			whole = fix(max(f.least, whole.Lo), max(f.least, whole.Hi))
			arc := f.of(t, whole)
			if got, e := back[i](arc); !fixed.Inside(whole, got) || e != api.OK {
				t.Errorf("%s(%v) leads back to %v, %d", f.name, whole, got, e)
			}
			part := r.part(whole)
			if got := f.of(t, part); !angle.Inside(got, arc) {
				t.Errorf("%s(%v) = %v, and %s(%v) = %v", f.name, part, got, f.name, whole, arc)
			}
		}
	}
}

// P7.3, P7.4, P2: a greater box has a greater arc, and a direction form; what is not around the origin is narrower than half a turn, and the unit that rounding adds.
func TestPartsOfBoxes(t *testing.T) {
	r := newNumbers()
	for range rounds {
		y, x := r.interval(two), r.interval(two)
		whole := bearingOf(t, y, x)
		part := bearingOf(t, r.part(y), r.part(x))
		further := between(part.Lo+turn, part.Hi+turn)
		if !angle.Inside(part, whole) && !angle.Inside(further, whole) && whole != between(0, turn) {
			t.Errorf("the arc of a part of %v, %v is %v, the one of the whole %v", y, x, part, whole)
		}
		for _, a := range []api.Arc{whole, part} {
			if a != between(0, turn) && (a.Lo < 0 || a.Lo >= turn || a.Hi < a.Lo || a.Hi-a.Lo > half+1) {
				t.Errorf("%v is not in direction form", a)
			}
		}
	}
}

// wantMoved expects the directions of an arc in direction form.
func wantMoved(t *testing.T, y, x api.Fixed, arc api.Arc) {
	want, e := angle.Turn(arc)
	if e != api.OK {
		t.Fatal(e)
	}
	wantBearing(t, y, x, want)
}

// P7.4: a box that is turned by right angles, or mirrored, turns or mirrors its arc; P7.3: the directions are those of sines and cosines.
func TestTurnedBoxes(t *testing.T) {
	r := newNumbers()
	for range rounds {
		y, x := r.interval(two), r.interval(two)
		arc := bearingOf(t, y, x)
		wantMoved(t, x, opposite(y), between(arc.Lo+quarter, arc.Hi+quarter))
		wantMoved(t, opposite(y), opposite(x), between(arc.Lo+half, arc.Hi+half))
		wantMoved(t, opposite(x), y, between(arc.Lo-quarter, arc.Hi-quarter))
		wantMoved(t, opposite(y), x, mirrored(0, arc))
		wantMoved(t, y, opposite(x), mirrored(half, arc))
		wantMoved(t, x, y, mirrored(quarter, arc))
	}
}

// P7.4: a box that is stretched keeps its arc.
func TestStretchedBoxes(t *testing.T) {
	r := newNumbers()
	for range rounds {
		times := 1 + r.source.IntN(1<<r.source.IntN(20))
		y, x := r.interval(two/times), r.interval(two/times)
		arc := bearingOf(t, y, x)
		wantBearing(t, fix(times*y.Lo, times*y.Hi), fix(times*x.Lo, times*x.Hi), arc)
	}
}

// P7.4: the directions of the box of an arc's cosine and sine contain the arc.
func TestDirectionsOfCosinesAndSines(t *testing.T) {
	r := newNumbers()
	for range rounds {
		a := r.arc(0, 2*turn)
		if r.source.IntN(2) == 0 {
			a.Hi = a.Lo + r.source.IntN(quarter)
		}
		sine, _ := trig.Sin(a)
		cosine, _ := trig.Cos(a)
		whole := bearingOf(t, sine, cosine)
		form, e := angle.Turn(a)
		further := between(form.Lo+turn, form.Hi+turn)
		if e != api.OK || !angle.Inside(form, whole) && !angle.Inside(further, whole) && whole != between(0, turn) {
			t.Errorf("%v is not inside of the directions %v of its box", a, whole)
		}
	}
}
