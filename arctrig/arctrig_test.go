package arctrig_test

import (
	"math"
	"math/rand/v2"
	"testing"

	"almucantar/api"
	"almucantar/arctrig"
	"almucantar/fixed"
	"almucantar/trig"
)

const (
	one     = api.One
	two     = api.Two
	quarter = api.Quarter
	half    = api.HalfTurn
	turn    = api.Turn
	third   = api.Quarter / 3 // 30 degrees
)

// function is one of an interval; least is the least number that it is defined for, and answer its result with more digits.
type function struct {
	name   string
	call   func(api.Fixed) (api.Arc, api.Errno)
	least  int
	answer func(api.Fixed) api.Arc
}

var (
	asin = function{"Asin", arctrig.Asin, -one, arcsineOf}
	acos = function{"Acos", arctrig.Acos, -one, arccosineOf}
	ahav = function{"Ahav", arctrig.Ahav, 0, archaversineOf}
)

// between is the arc with these ends.
func between(lo, hi int) api.Arc { return api.Arc{Lo: lo, Hi: hi} }

// only is the arc of one angle.
func only(n int) api.Arc { return api.Arc{Lo: n, Hi: n} }

// fix is the interval with these ends.
func fix(lo, hi int) api.Fixed { return api.Fixed{Lo: lo, Hi: hi} }

// single is the interval of one number.
func single(n int) api.Fixed { return api.Fixed{Lo: n, Hi: n} }

// numbers makes intervals of all sizes, the same ones in each run.
type numbers struct{ source *rand.Rand }

func newNumbers() numbers { return numbers{rand.New(rand.NewPCG(7, 30))} }

// int makes any int.
func (r numbers) int() int { return int(r.source.Uint64()) >> r.source.IntN(64) }

// number makes one from -limit to limit, often a small one, or one beside a multiple of One / 4.
func (r numbers) number(limit int) int {
	n := (r.source.IntN(2*limit+1) - limit) >> r.source.IntN(32)
	if r.source.IntN(4) == 0 {
		n = n/(one/4)*(one/4) + r.source.IntN(5) - 2
	}
	return max(-limit, min(limit, n))
}

// interval makes wide and narrow ones, and those of one number, of numbers from -limit to limit.
func (r numbers) interval(limit int) api.Fixed {
	a, b := r.number(limit), r.number(limit)
	if r.source.IntN(2) == 0 {
		b = min(limit, a+r.source.IntN(3))
	}
	return fix(min(a, b), max(a, b))
}

// part makes an interval inside of one.
func (r numbers) part(a api.Fixed) api.Fixed {
	x, y := a.Lo+r.source.IntN(a.Hi-a.Lo+1), a.Lo+r.source.IntN(a.Hi-a.Lo+1)
	return fix(min(x, y), max(x, y))
}

func (f function) want(t *testing.T, a api.Fixed, want api.Arc) {
	if got, e := f.call(a); got != want || e != api.OK {
		t.Errorf("%s(%v) = %v, %d; want %v", f.name, a, got, e, want)
	}
}

func (f function) wantError(t *testing.T, a api.Fixed, want api.Errno) {
	if got, e := f.call(a); got != (api.Arc{}) || e != want {
		t.Errorf("%s(%v) = %v, %d; want the error %d", f.name, a, got, e, want)
	}
}

// of is the arc of an interval for which there is one.
func (f function) of(t *testing.T, a api.Fixed) api.Arc {
	got, e := f.call(a)
	if e != api.OK {
		t.Errorf("%s(%v) is %d", f.name, a, e)
	}
	return got
}

// check compares with more digits what there is for any valid interval.
func (f function) check(t *testing.T, a api.Fixed) {
	if a.Hi < f.least || a.Lo > one {
		f.wantError(t, a, api.ErrRange)
		return
	}
	f.want(t, a, f.answer(a))
}

func checkAll(t *testing.T, a api.Fixed) {
	for _, f := range []function{asin, acos, ahav} {
		f.check(t, a)
	}
}

// P7.1, P7.2: the chapter's examples, and others that are known without arithmetic.
func TestExamples(t *testing.T) {
	const root34, root12 = 929887696, 759250124 // rounded down
	asin.want(t, single(one/2), only(1800000))
	asin.want(t, single(1), between(0, 1))
	ahav.want(t, single(one/4), only(3600000))
	acos.want(t, single(one/2), only(3600000))
	acos.want(t, single(1), between(quarter-1, quarter))
	ahav.want(t, single(1), between(209, 210)) // the root of 4/One in radians is 209.8 units
	asin.want(t, single(root12), between(quarter/2-1, quarter/2))
	asin.want(t, single(root12+1), between(quarter/2, quarter/2+1))
	asin.want(t, single(root34), between(2*third-1, 2*third))
	asin.want(t, single(root34+1), between(2*third, 2*third+1))
	asin.want(t, fix(root12, root34+1), between(quarter/2-1, 2*third+1))
	acos.want(t, fix(root12, root34+1), between(third-1, quarter/2+1))
	asin.want(t, fix(-one/2, one/2), between(-third, third))
	acos.want(t, fix(-one/2, one/2), between(2*third, 4*third))
	ahav.want(t, fix(one/4, 3*one/4), between(2*third, 4*third))
}

// P7.1, P7.2: the rational sines and cosines, and parts of the interval that no angle has.
func TestRationalNumbers(t *testing.T) {
	for i, angle := range []int{-quarter, -third, 0, third, quarter} {
		sine := (i - 2) * one / 2
		asin.want(t, single(sine), only(angle))
		acos.want(t, single(sine), only(quarter-angle))
		ahav.want(t, single((one-sine)/2), only(quarter-angle))
		asin.want(t, fix(sine, two), between(angle, quarter))
		acos.want(t, fix(sine, two), between(0, quarter-angle))
		ahav.want(t, fix((one-sine)/2, two), between(quarter-angle, half))
		asin.want(t, fix(-two, sine), between(-quarter, angle))
		acos.want(t, fix(-two, sine), between(quarter-angle, half))
		ahav.want(t, fix(-two, (one-sine)/2), between(0, quarter-angle))
	}
	for _, a := range []api.Fixed{fix(-two, two), fix(-one, one), fix(-one-1, one+1), fix(-one, two), fix(-two, one)} {
		asin.want(t, a, between(-quarter, quarter))
		acos.want(t, a, between(0, half))
		ahav.want(t, a, between(0, half))
	}
	ahav.want(t, fix(0, one), between(0, half))
	ahav.want(t, fix(-1, one+1), between(0, half))
	ahav.want(t, fix(-1, 0), only(0))
	ahav.want(t, fix(one, one+1), only(half))
}

// P7.1, P7.2: ends at the least and the greatest valid numbers and one beyond, and a Lo greater than Hi; ErrArg comes before ErrRange.
func TestInvalidIntervals(t *testing.T) {
	for _, a := range invalid {
		for _, f := range []function{asin, acos, ahav} {
			f.wantError(t, a, api.ErrArg)
		}
	}
	for _, a := range []api.Fixed{single(-two), single(two), fix(-two, -one-1), fix(one+1, two), single(one + 1), single(-one - 1), fix(two-1, two)} {
		for _, f := range []function{asin, acos, ahav} {
			f.wantError(t, a, api.ErrRange)
		}
	}
	for _, a := range []api.Fixed{single(-1), fix(-two, -1), fix(-one, -one), fix(-one/2, -1)} {
		ahav.wantError(t, a, api.ErrRange)
		acos.check(t, a)
	}
}

var invalid = []api.Fixed{
	{Lo: 1}, {Hi: -1}, {Lo: 6, Hi: 5}, {Lo: two, Hi: -two}, {Lo: two, Hi: two - 1}, {Lo: 1 - two, Hi: -two}, {Lo: one + 2, Hi: one + 1},
	{Lo: -two - 1, Hi: -two - 1}, {Lo: -two - 1, Hi: -two}, {Lo: -two - 1}, {Lo: -two - 1, Hi: two},
	{Lo: two + 1, Hi: two + 1}, {Lo: two, Hi: two + 1}, {Hi: two + 1}, {Lo: -two, Hi: two + 1}, {Lo: -two - 1, Hi: two + 1},
	{Lo: math.MinInt}, {Hi: math.MaxInt}, {Lo: math.MinInt, Hi: math.MaxInt}, {Lo: math.MaxInt, Hi: math.MinInt},
	{Lo: math.MinInt, Hi: math.MinInt}, {Lo: math.MaxInt, Hi: math.MaxInt},
}

// P7.1, P7.2: all intervals that end at a multiple of 1/4, or at most two units beside it.
func TestNotableIntervals(t *testing.T) {
	var ends []int
	for n := -two; n <= two; n += one / 4 {
		for beside := -2; beside <= 2; beside++ {
			ends = append(ends, max(-two, min(two, n+beside)))
		}
	}
	for i, lo := range ends {
		checkAll(t, single(lo))
		for _, hi := range ends[i+1:] {
			if (lo+hi)%3 == 0 || hi-lo < 8 {
				checkAll(t, fix(lo, hi))
			}
		}
	}
}

// P7.1, P7.2: numbers next to One times a sine, or a haversine, below it, at it, and above it; P7.4: the angle is between the results for both numbers beside it.
func TestNumbersNextToSines(t *testing.T) {
	r := newNumbers()
	angles := []int{
		// One times the sines of these are nearest to an integer.
		3040838, 3866932, 98943, 177139, 4800677, 614272, 3644023, 1849458, 113912,
		1, 2, 3, quarter - 1, quarter - 2, quarter - 100, third - 1, third + 1, 2 * third, quarter / 2, half - 1, half - 2, 4 * third, 5 * third,
	}
	for range 300 {
		angles = append(angles, r.source.IntN(half))
	}
	for _, n := range angles {
		sine, e := trig.Sin(only(n))
		haversine, f := trig.Haversine(only(n))
		if e != api.OK || f != api.OK {
			t.Fatal(e, f)
		}
		for v := sine.Lo - 1; v <= sine.Hi+1; v++ {
			checkAll(t, single(v))
			checkAll(t, single(-v))
			checkAll(t, fix(-v, v+1))
		}
		for v := haversine.Lo - 1; v <= haversine.Hi+1; v++ {
			checkAll(t, single(v))
			checkAll(t, fix(v, v+2))
		}
	}
}

// P7.1, P7.2, P1: intervals of all sizes, valid or not.
func TestAnyIntervals(t *testing.T) {
	r := newNumbers()
	for range 3000 {
		checkAll(t, r.interval(two))
		checkAll(t, r.interval(one))
		a := fix(r.int(), r.int())
		if fixed.Valid(a) {
			checkAll(t, a)
			continue
		}
		for _, f := range []function{asin, acos, ahav} {
			f.wantError(t, a, api.ErrArg)
		}
	}
}
