package trig_test

import (
	"testing"

	"almucantar/angle"
	"almucantar/api"
	"almucantar/fixed"
	"almucantar/trig"
)

// formula works out the sides of formulas, and reports errors.
type formula struct{ t *testing.T }

func (f formula) fixed(got api.Fixed, e api.Errno) api.Fixed {
	if e != api.OK {
		f.t.Error("a formula with numbers is", e)
	}
	return got
}

func (f formula) arc(got api.Arc, e api.Errno) api.Arc {
	if e != api.OK {
		f.t.Error("a formula with arcs is", e)
	}
	return got
}

func (f formula) sin(a api.Arc) api.Fixed      { return sin.of(f.t, a) }
func (f formula) cos(a api.Arc) api.Fixed      { return cos.of(f.t, a) }
func (f formula) hav(a api.Arc) api.Fixed      { return hav.of(f.t, a) }
func (f formula) sum(a, b api.Fixed) api.Fixed { return f.fixed(fixed.Add(a, b)) }
func (f formula) less(a, b api.Fixed) api.Fixed {
	return f.fixed(fixed.Sub(a, b))
}
func (f formula) mul(a, b api.Fixed) api.Fixed   { return f.fixed(fixed.Mul(a, b)) }
func (f formula) square(a api.Fixed) api.Fixed   { return f.fixed(fixed.Square(a)) }
func (f formula) opposite(a api.Fixed) api.Fixed { return f.fixed(fixed.Neg(a)) }

// meet says that both sides of a formula have a number in common.
func (f formula) meet(name string, a, b api.Arc, left, right api.Fixed) {
	if _, e := fixed.Meet(left, right); e != api.OK {
		f.t.Errorf("%s of %v, %v: %v and %v", name, a, b, left, right)
	}
}

// inside says that all numbers of one enclosure are in the other.
func (f formula) inside(name string, part, whole api.Arc, left, right api.Fixed) {
	if !fixed.Inside(left, right) {
		f.t.Errorf("%s of %v in %v: %v and %v", name, part, whole, left, right)
	}
}

// smaller makes arcs of which two can be added, and a turn.
func (r numbers) smaller() api.Arc {
	for {
		a := r.arc()
		if a.Lo >= -most/2+turn && a.Hi <= most/2-turn {
			return a
		}
	}
}

func moved(a api.Arc, by int) api.Arc { return between(a.Lo+by, a.Hi+by) }

// P6.3, P2: a part of an arc has a part of the enclosure.
func TestParts(t *testing.T) {
	f := formula{t}
	r := newNumbers()
	for range rounds {
		whole := r.arc()
		part := r.part(whole)
		f.inside("Sin", part, whole, f.sin(part), f.sin(whole))
		f.inside("Cos", part, whole, f.cos(part), f.cos(whole))
		f.inside("Haversine", part, whole, f.hav(part), f.hav(whole))
		if end := only(part.Lo); f.sin(end).Hi-f.sin(end).Lo > 1 || f.cos(end).Hi-f.cos(end).Lo > 1 || f.hav(end).Hi-f.hav(end).Lo > 1 {
			t.Errorf("an enclosure of %v is wider than 1", end)
		}
	}
}

// P6.3: the sine is odd, the cosine and the haversine are even.
func TestOppositeArcs(t *testing.T) {
	f := formula{t}
	r := newNumbers()
	for range rounds {
		a := r.arc()
		opposite := between(-a.Hi, -a.Lo)
		sin.want(t, opposite, f.opposite(f.sin(a)))
		cos.want(t, opposite, f.cos(a))
		hav.want(t, opposite, f.hav(a))
		n, v := r.end(), r.int()
		wantBelow(t, -n, -v, -trig.Below(n, v))
	}
}

// P6.3: a quarter, half a turn, three quarters, and a turn further, and back.
func TestMovedArcs(t *testing.T) {
	f := formula{t}
	r := newNumbers()
	for range rounds {
		a := r.smaller()
		sine, cosine, haversine := f.sin(a), f.cos(a), f.hav(a)
		for _, by := range []int{quarter, quarter - turn} {
			sin.want(t, moved(a, by), cosine)
			cos.want(t, moved(a, by), f.opposite(sine))
		}
		for _, by := range []int{half, -half} {
			sin.want(t, moved(a, by), f.opposite(sine))
			cos.want(t, moved(a, by), f.opposite(cosine))
			hav.want(t, moved(a, by), f.less(fix(one, one), haversine))
		}
		for _, by := range []int{-quarter, 3 * quarter} {
			sin.want(t, moved(a, by), f.opposite(cosine))
			cos.want(t, moved(a, by), sine)
		}
		for _, by := range []int{turn, -turn} {
			sin.want(t, moved(a, by), sine)
			cos.want(t, moved(a, by), cosine)
			hav.want(t, moved(a, by), haversine)
			v := sine.Lo + r.source.IntN(4) - 1
			wantBelow(t, a.Lo+by, v, trig.Below(a.Lo, v))
		}
	}
}

// P6.3: sums and differences.
func TestSums(t *testing.T) {
	f := formula{t}
	r := newNumbers()
	for range rounds {
		a, b := r.smaller(), r.smaller()
		sum, difference := f.arc(angle.Add(a, b)), f.arc(angle.Sub(a, b))
		left, right := f.mul(f.sin(a), f.cos(b)), f.mul(f.cos(a), f.sin(b))
		f.meet("the sine of the sum", a, b, f.sin(sum), f.sum(left, right))
		f.meet("the sine of the difference", a, b, f.sin(difference), f.less(left, right))
		left, right = f.mul(f.cos(a), f.cos(b)), f.mul(f.sin(a), f.sin(b))
		f.meet("the cosine of the sum", a, b, f.cos(sum), f.less(left, right))
		f.meet("the cosine of the difference", a, b, f.cos(difference), f.sum(left, right))
	}
}

// P6.3: double angles and squares.
func TestDoubleAnglesAndSquares(t *testing.T) {
	f := formula{t}
	r := newNumbers()
	whole := fix(one, one)
	for range rounds {
		a := r.smaller()
		double := f.arc(angle.Add(a, a))
		product := f.mul(f.sin(a), f.cos(a))
		f.meet("the double sine", a, double, f.sin(double), f.sum(product, product))
		sines, cosines := f.square(f.sin(a)), f.square(f.cos(a))
		f.meet("the double cosine", a, double, f.cos(double), f.less(cosines, sines))
		f.meet("the double haversine", a, double, f.hav(double), sines)
		f.meet("the squares", a, a, f.sum(sines, cosines), whole)
		f.meet("the haversine", a, a, f.sum(f.hav(a), f.hav(a)), f.less(whole, f.cos(a)))
	}
}

// P1: any arcs, of which only valid ones have enclosures.
func TestArcsOfAnyInts(t *testing.T) {
	r := newNumbers()
	for range rounds {
		a := between(r.int(), r.int())
		for _, f := range []function{sin, cos, hav} {
			got, e := f.call(a)
			if (e == api.OK) != angle.Valid(a) || e != api.OK && (e != api.ErrArg || got != api.Fixed{}) {
				t.Errorf("%s(%v) = %v, %d", f.name, a, got, e)
			}
		}
	}
}
