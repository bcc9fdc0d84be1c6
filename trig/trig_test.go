package trig_test

import (
	"math"
	"math/rand/v2"
	"testing"

	"almucantar/api"
	"almucantar/trig"
)

const (
	one   = api.One
	third = api.Quarter / 3 // 30 degrees

	rounds = 20000
)

// function is one of an arc.
type function struct {
	name string
	call func(api.Arc) (api.Fixed, api.Errno)
}

var (
	sin = function{"Sin", trig.Sin}
	cos = function{"Cos", trig.Cos}
	hav = function{"Haversine", trig.Haversine}
)

// between is the arc with these ends.
func between(lo, hi int) api.Arc { return api.Arc{Lo: lo, Hi: hi} }

// only is the arc of one angle.
func only(n int) api.Arc { return api.Arc{Lo: n, Hi: n} }

// fix is the interval with these ends.
func fix(lo, hi int) api.Fixed { return api.Fixed{Lo: lo, Hi: hi} }

// numbers makes angles and arcs of all sizes, the same ones in each run.
type numbers struct{ source *rand.Rand }

func newNumbers() numbers { return numbers{rand.New(rand.NewPCG(6, 30))} }

// int makes any int.
func (r numbers) int() int { return int(r.source.Uint64()) >> r.source.IntN(64) }

// end makes an angle that can be an end of an arc, often beside a multiple of 15 degrees.
func (r numbers) end() int {
	n := (r.source.IntN(2*most+1) - most) >> r.source.IntN(42)
	if r.source.IntN(3) == 0 {
		n = n/(third/2)*(third/2) + r.source.IntN(5) - 2
	}
	return max(-most, min(most, n))
}

// arc makes wide and narrow ones, among them those of one angle, and of a width of about some right angles.
func (r numbers) arc() api.Arc {
	a, b := r.end(), r.end()
	switch r.source.IntN(4) {
	case 0:
		b = a + r.source.IntN(5)
	case 1:
		b = a + r.source.IntN(6)*quarter + r.source.IntN(5) - 2
	case 2:
		b = a + r.source.IntN(turn)
	}
	b = max(-most, min(most, b))
	return between(min(a, b), max(a, b))
}

// part makes an arc inside of one.
func (r numbers) part(a api.Arc) api.Arc {
	x, y := a.Lo+r.source.IntN(a.Hi-a.Lo+1), a.Lo+r.source.IntN(a.Hi-a.Lo+1)
	return between(min(x, y), max(x, y))
}

func wantBelow(t *testing.T, n, v, want int) {
	if got := trig.Below(n, v); got != want {
		t.Errorf("Below(%d, %d) = %d; want %d", n, v, got, want)
	}
}

func (f function) want(t *testing.T, a api.Arc, want api.Fixed) {
	if got, e := f.call(a); got != want || e != api.OK {
		t.Errorf("%s(%v) = %v, %d; want %v", f.name, a, got, e, want)
	}
}

// of is the enclosure over a valid arc.
func (f function) of(t *testing.T, a api.Arc) api.Fixed {
	got, e := f.call(a)
	if e != api.OK {
		t.Errorf("%s(%v) is %d", f.name, a, e)
	}
	return got
}

// P6.1: the chapter's examples, and the first one of the document.
func TestExamples(t *testing.T) {
	sin.want(t, only(1800000), fix(1<<29, 1<<29))
	sin.want(t, only(2700000), fix(759250124, 759250125))
	sin.want(t, between(0, 7200000), fix(0, 1<<30))
	cos.want(t, between(0, 7200000), fix(-1<<29, 1<<30))
	hav.want(t, between(0, 7200000), fix(0, 3<<28))
	wantBelow(t, 2700000, 759250125, -1)
	wantBelow(t, 2700000, 759250124, 1)
	wantBelow(t, 1800000, 1<<29, 0)
}

// P6.1: Lo and Hi at -MaxArc and MaxArc and one beyond, equal ones, and a Lo greater than Hi.
func TestLimits(t *testing.T) {
	for _, a := range []api.Arc{
		{Lo: 1}, {Hi: -1}, {Lo: 6, Hi: 5}, {Lo: turn, Hi: turn - 1}, {Lo: most, Hi: -most}, {Lo: most, Hi: most - 1}, {Lo: 1 - most, Hi: -most},
		only(-most - 1), between(-most-1, -most), between(-most-1, 0), between(-most-1, most),
		only(most + 1), between(most, most+1), between(0, most+1), between(-most, most+1), between(-most-1, most+1),
		{Lo: math.MinInt}, {Hi: math.MaxInt}, {Lo: math.MinInt, Hi: math.MaxInt}, {Lo: math.MaxInt, Hi: math.MinInt},
		only(math.MinInt), only(math.MaxInt), between(most-quarter, most+quarter), between(-most-quarter, -most),
	} {
		for _, f := range []function{sin, cos, hav} {
			if got, e := f.call(a); got != (api.Fixed{}) || e != api.ErrArg {
				t.Errorf("%s(%v) = %v, %d", f.name, a, got, e)
			}
		}
	}
	for _, n := range []int{-most, 1 - most, most - 1, most} {
		checkAngle(t, n)
	}
	sin.want(t, between(-most, most), fix(-one, one))
	cos.want(t, between(-most, most), fix(-one, one))
	hav.want(t, between(-most, most), fix(0, one))
}

// P6.1: the rational sines in all quarters, and no others.
func TestRationalAngles(t *testing.T) {
	sines := []int{0, one / 2, 0, one, 0, one / 2, 0, -one / 2, 0, -one, 0, -one / 2}
	for i, sine := range sines {
		// The sines of 60 degrees, and of 120, 240, and 300 degrees, are not rational.
		rational := i%3 == 0 || i%2 == 1
		for _, turns := range []int{0, turn, -turn, -2 * turn, 50000 * turn, -50000 * turn} {
			n := i*third + turns
			for beside := -1; beside <= 1; beside++ {
				checkAngle(t, n+beside)
			}
			if rational {
				sin.want(t, only(n), fix(sine, sine))
				cos.want(t, only(n-quarter), fix(sine, sine))
				hav.want(t, only(n-quarter), fix((one-sine)/2, (one-sine)/2))
				wantBelow(t, n, sine, 0)
			}
		}
	}
	// The root of 3/4 and the root of 1/2, in all quarters.
	const root34, root12 = 929887696, 759250124
	for _, n := range []int{2 * third, 4 * third} {
		sin.want(t, only(n), fix(root34, root34+1))
		sin.want(t, only(-n), fix(-root34-1, -root34))
		sin.want(t, only(n+half), fix(-root34-1, -root34))
	}
	for _, n := range []int{quarter / 2, 3 * quarter / 2} {
		sin.want(t, only(n), fix(root12, root12+1))
		sin.want(t, only(-n), fix(-root12-1, -root12))
		sin.want(t, only(n+half), fix(-root12-1, -root12))
	}
}

// P6.1, P6.2: multiples of 15 degrees and one unit to each side of them, in every quarter, negative, and beyond a turn.
func TestNotableAngles(t *testing.T) {
	for i := -60; i <= 60; i++ {
		for beside := -1; beside <= 1; beside++ {
			checkAngle(t, i*third/2+beside)
		}
	}
}

// P6.1, P6.2: the angles whose sines, times One, are nearest to an integer, just above it and just below the next one.
func TestSinesNextToIntegers(t *testing.T) {
	for _, c := range []struct{ n, down int }{
		{3040838, 830674673}, {3866932, 968730644}, {98943, 30899475}, {177139, 55302909},
		{4800677, 1057465970}, {614272, 190841668}, {3644023, 936686310}, {1849458, 550192951}, {113912, 35572630},
	} {
		above, below := fix(c.down, c.down+1), fix(-c.down-1, -c.down)
		for _, turns := range []int{0, turn, -turn, 50000 * turn, -50000 * turn} {
			sin.want(t, only(turns+c.n), above)
			sin.want(t, only(turns+half-c.n), above)
			sin.want(t, only(turns-c.n), below)
			sin.want(t, only(turns+half+c.n), below)
			cos.want(t, only(turns+c.n-quarter), above)
			cos.want(t, only(turns+c.n+quarter), below)
			wantBelow(t, turns+c.n, c.down, 1)
			wantBelow(t, turns+c.n, c.down+1, -1)
			wantBelow(t, turns-c.n, -c.down, -1)
			wantBelow(t, turns-c.n, -c.down-1, 1)
		}
	}
}

// P6.2: any ints, the least and the greatest among them, and numbers at and beyond One and -One.
func TestBelowAnyInts(t *testing.T) {
	for _, n := range []int{0, 1, -1, third, quarter, -quarter, 3 * quarter, quarter + 1, quarter - 1, half, turn, math.MaxInt, math.MinInt} {
		checkBelow(t, n)
		for _, v := range []int{one + 1, one + 2, 1 << 31, math.MaxInt} {
			wantBelow(t, n, v, -1)
			wantBelow(t, n, -v, 1)
		}
		wantBelow(t, n, math.MinInt, 1)
	}
	for _, c := range []struct{ n, v, want int }{
		{quarter, one, 0}, {quarter, one - 1, 1}, {quarter, one + 1, -1}, {quarter + 1, one, -1}, {quarter - 1, one, -1}, {quarter - 1, one - 1, 1},
		{-quarter, -one, 0}, {-quarter, 1 - one, -1}, {-quarter, -one - 1, 1}, {1 - quarter, -one, 1}, {-1 - quarter, 1 - one, -1},
		{0, 0, 0}, {0, 1, -1}, {0, -1, 1}, {1, 0, 1}, {-1, 0, -1}, {half, 0, 0}, {half + 1, 0, -1}, {half - 1, 0, 1}, {turn, 0, 0}, {turn - 1, 0, -1},
		{third - 1, one / 2, -1}, {third + 1, one / 2, 1}, {-third, -one / 2, 0}, {-third, 1 - one/2, -1}, {-third, -one/2 - 1, 1},
		// The directions of these are 4375807 and 17224192.
		{math.MaxInt, 0, 1}, {math.MinInt, 0, -1},
	} {
		wantBelow(t, c.n, c.v, c.want)
	}
	r := newNumbers()
	for range rounds {
		n := r.int()
		checkBelow(t, n)
		enclosure, v := sineOf(n), r.int()
		want := 0
		switch {
		case v <= enclosure.Lo && v < enclosure.Hi:
			want = 1
		case v >= enclosure.Hi && v > enclosure.Lo:
			want = -1
		}
		wantBelow(t, n, v, want)
	}
}

// P6.1, P6.2: angles of all sizes.
func TestAnyAngles(t *testing.T) {
	r := newNumbers()
	for range rounds {
		checkAngle(t, r.end())
	}
}
