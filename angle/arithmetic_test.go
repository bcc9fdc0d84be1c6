package angle_test

import (
	"math"
	"math/big"
	"testing"

	"almucantar/angle"
	"almucantar/api"
)

const factor = 1 << 20

// binary is a function of two arcs, and the same one of two numbers.
type binary struct {
	name  string
	apply func(a, b api.Arc) (api.Arc, api.Errno)
	exact func(x, y int) int
}

var binaries = []binary{
	{"Add", angle.Add, func(x, y int) int { return x + y }},
	{"Sub", angle.Sub, func(x, y int) int { return x - y }},
}

// P5.2: sums and differences of ordinary arcs, and at -MaxArc and MaxArc and one beyond.
func TestSumExamples(t *testing.T) {
	for _, c := range []struct {
		a, b, sum, difference api.Arc
		sumErr, differenceErr api.Errno
	}{
		{between(1, 2), between(10, 20), between(11, 22), between(-19, -8), api.OK, api.OK},
		{between(-5, 7), between(-3, 4), between(-8, 11), between(-9, 10), api.OK, api.OK},
		{only(0), only(0), only(0), only(0), api.OK, api.OK},
		{only(most), only(0), only(most), only(most), api.OK, api.OK},
		{only(-most), only(0), only(-most), only(-most), api.OK, api.OK},
		{only(most), only(-most), only(0), api.Arc{}, api.OK, api.ErrBig},
		{only(most), only(most), api.Arc{}, only(0), api.ErrBig, api.OK},
		{only(most), only(1), api.Arc{}, only(most - 1), api.ErrBig, api.OK},
		{only(most), only(-1), only(most - 1), api.Arc{}, api.OK, api.ErrBig},
		{only(-most), only(1), only(1 - most), api.Arc{}, api.OK, api.ErrBig},
		{only(-most), only(-1), api.Arc{}, only(1 - most), api.ErrBig, api.OK},
		// Only one end of the result is at a limit, or beyond it.
		{between(0, most-1), between(0, 1), between(0, most), between(-1, most-1), api.OK, api.OK},
		{between(0, most), between(0, 1), api.Arc{}, between(-1, most), api.ErrBig, api.OK},
		{between(0, most), between(-1, 0), between(-1, most), api.Arc{}, api.OK, api.ErrBig},
		{between(1-most, 0), between(-1, 0), between(-most, 0), between(1-most, 1), api.OK, api.OK},
		{between(-most, 0), between(-1, 0), api.Arc{}, between(-most, 1), api.ErrBig, api.OK},
		{between(-most, 0), between(0, 1), between(-most, 1), api.Arc{}, api.OK, api.ErrBig},
		{between(-most, most), only(0), between(-most, most), between(-most, most), api.OK, api.OK},
		{between(-most, most), between(-most, most), api.Arc{}, api.Arc{}, api.ErrBig, api.ErrBig},
	} {
		got, e := angle.Add(c.a, c.b)
		wantArc(t, "Add", c.a, c.b, got, c.sum, e, c.sumErr)
		got, e = angle.Add(c.b, c.a)
		wantArc(t, "Add", c.b, c.a, got, c.sum, e, c.sumErr)
		got, e = angle.Sub(c.a, c.b)
		wantArc(t, "Sub", c.a, c.b, got, c.difference, e, c.differenceErr)
	}
}

// P5.2: both signs, and both limits.
func TestNegExamples(t *testing.T) {
	for _, c := range []struct{ a, want api.Arc }{
		{between(1, 2), between(-2, -1)},
		{between(-3, 5), between(-5, 3)},
		{only(0), only(0)},
		{only(most), only(-most)},
		{only(-most), only(most)},
		{between(-most, most), between(-most, most)},
		{between(-most, 1), between(-1, most)},
	} {
		got, e := angle.Neg(c.a)
		wantArc(t, "Neg", c.a, "", got, c.want, e, api.OK)
	}
}

// P5.2: all sums, differences, and opposites, and nothing else: the extremes are found by trying all pairs.
func TestSumsOfAllSmallArcs(t *testing.T) {
	var list []api.Arc
	for _, base := range []int{-most, -2, most - 4} {
		for lo := base; lo <= base+4; lo++ {
			for hi := lo; hi <= base+4; hi++ {
				list = append(list, between(lo, hi))
			}
		}
	}
	for _, a := range list {
		opposite, e := angle.Neg(a)
		wantArc(t, "Neg", a, "", opposite, between(-a.Hi, -a.Lo), e, api.OK)
		for _, b := range list {
			for _, o := range binaries {
				checkBinary(t, o, a, b)
			}
		}
	}
}

func checkBinary(t *testing.T, o binary, a, b api.Arc) {
	t.Helper()
	want, wantErr := between(math.MaxInt, math.MinInt), api.OK
	for x := a.Lo; x <= a.Hi; x++ {
		for y := b.Lo; y <= b.Hi; y++ {
			n := o.exact(x, y)
			want = between(min(want.Lo, n), max(want.Hi, n))
		}
	}
	if want.Lo < -most || want.Hi > most {
		want, wantErr = api.Arc{}, api.ErrBig
	}
	got, e := o.apply(a, b)
	wantArc(t, o.name, a, b, got, want, e, wantErr)
}

// P5.2, P5.7: results have the results of all points, and those of parts of the arguments; sums and differences undo one another.
func TestSumsEnclose(t *testing.T) {
	r := newNumbers()
	for range rounds {
		a, b := r.arc(), r.arc()
		x, y := r.inside(a), r.inside(b)
		partOfA, partOfB := r.part(a), r.part(b)
		for _, o := range binaries {
			whole, e := o.apply(a, b)
			if e != api.OK {
				continue
			}
			part, e := o.apply(partOfA, partOfB)
			if n := o.exact(x, y); n < whole.Lo || n > whole.Hi || e != api.OK || part.Lo < whole.Lo || part.Hi > whole.Hi {
				t.Errorf("%s(%v, %v) = %v is without %d or %v, %d", o.name, a, b, whole, n, part, e)
			}
		}
		checkUndone(t, a, b, angle.Add, angle.Sub)
		checkUndone(t, a, b, angle.Sub, angle.Add)
	}
}

// checkUndone checks that what is done to a with b, and undone, encloses a, and is a if b is one number.
func checkUndone(t *testing.T, a, b api.Arc, do, undo func(a, b api.Arc) (api.Arc, api.Errno)) {
	t.Helper()
	done, e := do(a, b)
	if e != api.OK {
		return
	}
	back, e := undo(done, b)
	if e != api.OK {
		return
	}
	if !angle.Inside(a, back) || back.Hi-back.Lo != a.Hi-a.Lo+2*(b.Hi-b.Lo) {
		t.Errorf("%v becomes %v with %v, and back %v", a, done, b, back)
	}
}

// P5.2: the chapter's example, exact and rounded quotients of both signs, num at 0, and num, den and the results at their limits.
func TestTimesExamples(t *testing.T) {
	for _, c := range []struct {
		a        api.Arc
		num, den int
		want     api.Arc
		wantErr  api.Errno
	}{
		{between(1, 2), 1, 3, between(0, 1), api.OK},
		{between(-2, -1), 1, 3, between(-1, 0), api.OK},
		{between(1, 2), -1, 3, between(-1, 0), api.OK},
		{between(-2, -1), -1, 3, between(0, 1), api.OK},
		{between(3, 6), 1, 3, between(1, 2), api.OK},
		{between(-6, -3), 1, 3, between(-2, -1), api.OK},
		{between(3, 6), -1, 3, between(-2, -1), api.OK},
		{between(-6, -3), -1, 3, between(1, 2), api.OK},
		{between(4, 7), 1, 3, between(1, 3), api.OK},
		{between(-7, -4), 1, 3, between(-3, -1), api.OK},
		{between(4, 7), -2, 3, between(-5, -2), api.OK},
		{between(-7, 4), -2, 3, between(-3, 5), api.OK},
		{between(5, 5), 3, 2, between(7, 8), api.OK},
		{between(-5, -5), 3, 2, between(-8, -7), api.OK},
		{between(-5, 5), 0, 7, only(0), api.OK},
		{between(-most, most), 0, 1, only(0), api.OK},
		{between(-most, most), 1, 1, between(-most, most), api.OK},
		{between(-most, most), -1, 1, between(-most, most), api.OK},
		{between(-most, most), factor, factor, between(-most, most), api.OK},
		{between(-most, most), -factor, factor, between(-most, most), api.OK},
		{between(-most, most), 1, factor, between(-factor, factor), api.OK},
		{between(1-most, most-1), 1, factor, between(-factor, factor), api.OK},
		{only(factor), factor, 1, only(most), api.OK},
		{only(factor), -factor, 1, only(-most), api.OK},
		{only(-factor), factor, 1, only(-most), api.OK},
		{only(-factor), -factor, 1, only(most), api.OK},
		{only(factor + 1), factor, 1, api.Arc{}, api.ErrBig},
		{only(factor + 1), -factor, 1, api.Arc{}, api.ErrBig},
		{between(-factor-1, 0), factor, 1, api.Arc{}, api.ErrBig},
		{between(-factor-1, 0), -factor, 1, api.Arc{}, api.ErrBig},
		{between(-most, most), factor, 1, api.Arc{}, api.ErrBig},
		{between(-most, most), -factor, 1, api.Arc{}, api.ErrBig},
		{only(most), factor, factor - 1, api.Arc{}, api.ErrBig},
		{only(most), factor - 1, factor, only(most - factor), api.OK},
		// 1/4 below a limit, and 1/4 beyond it: it is the rounded end that counts.
		{only((4*most - 1) / 7), 7, 4, between(most-1, most), api.OK},
		{only((4*most - 1) / 7), -7, 4, between(-most, 1-most), api.OK},
		{only((4*most + 1) / 5), 5, 4, api.Arc{}, api.ErrBig},
		{only((4*most + 1) / 5), -5, 4, api.Arc{}, api.ErrBig},
		{only(1), 1, factor, between(0, 1), api.OK},
		{only(-1), 1, factor, between(-1, 0), api.OK},
		{only(1), -1, factor, between(-1, 0), api.OK},
		{only(-1), -1, factor, between(0, 1), api.OK},
	} {
		got, e := angle.Times(c.a, c.num, c.den)
		wantArc(t, "Times", c.a, [2]int{c.num, c.den}, got, c.want, e, c.wantErr)
	}
}

// exactTimes is the arc of the least and the greatest n num / den for n in a, rounded down and up.
func exactTimes(a api.Arc, num, den int) (api.Arc, api.Errno) {
	x, y := new(big.Int).Mul(big.NewInt(int64(a.Lo)), big.NewInt(int64(num))), new(big.Int).Mul(big.NewInt(int64(a.Hi)), big.NewInt(int64(num)))
	if x.Cmp(y) > 0 {
		x, y = y, x
	}
	// Div rounds down, since the divisor is positive; and so the opposite of an opposite is rounded up.
	divisor := big.NewInt(int64(den))
	lo := new(big.Int).Div(x, divisor)
	hi := new(big.Int).Div(new(big.Int).Neg(y), divisor)
	hi.Neg(hi)
	limit := big.NewInt(most)
	if lo.CmpAbs(limit) > 0 || hi.CmpAbs(limit) > 0 {
		return api.Arc{}, api.ErrBig
	}
	return between(int(lo.Int64()), int(hi.Int64())), api.OK
}

// P5.2: any arcs with any factors, and results about the limits.
func TestTimesIsTheLeastArc(t *testing.T) {
	r := newNumbers()
	check := func(a api.Arc, num, den int) {
		want, wantErr := exactTimes(a, num, den)
		got, e := angle.Times(a, num, den)
		wantArc(t, "Times", a, [2]int{num, den}, got, want, e, wantErr)
		part := r.part(a)
		smaller, e := angle.Times(part, num, den)
		if wantErr == api.OK && (e != api.OK || smaller.Lo < got.Lo || smaller.Hi > got.Hi) {
			t.Errorf("Times(%v, %d, %d) = %v, of %v %v", part, num, den, smaller, a, got)
		}
	}
	for range rounds {
		num := (r.source.IntN(2*factor+1) - factor) >> r.source.IntN(22)
		den := r.source.IntN(factor)>>r.source.IntN(21) + 1
		check(r.arc(), num, den)
		if num == 0 {
			continue
		}
		n := most * den / num
		for beside := -1; beside <= 1; beside++ {
			a := only(n + beside)
			if isValid(a) {
				check(a, num, den)
			}
		}
	}
}

// P5.2: num at -2^20 and 2^20, den at 1 and 2^20, and one beyond.
func TestTimesRejectsFactorsOutOfRange(t *testing.T) {
	nums := []int{math.MinInt, -1 << 32, -factor - 1, factor + 1, 1 << 32, math.MaxInt}
	dens := []int{math.MinInt, -factor, -1, 0, factor + 1, 1 << 32, math.MaxInt}
	for _, a := range []api.Arc{only(0), between(-5, 7), between(-most, most)} {
		for _, num := range []int{-factor, -1, 0, 1, factor} {
			for _, den := range dens {
				got, e := angle.Times(a, num, den)
				wantArc(t, "Times", a, [2]int{num, den}, got, api.Arc{}, e, api.ErrRange)
			}
		}
		for _, num := range nums {
			for _, den := range append(dens, 1, factor) {
				got, e := angle.Times(a, num, den)
				wantArc(t, "Times", a, [2]int{num, den}, got, api.Arc{}, e, api.ErrRange)
			}
		}
	}
}

// P5.2: ErrArg comes before ErrRange and ErrBig, for each argument in turn.
func TestArithmeticRejectsInvalidArcs(t *testing.T) {
	for _, a := range invalid {
		got, e := angle.Neg(a)
		wantArc(t, "Neg", a, "", got, api.Arc{}, e, api.ErrArg)
		for _, f := range [][2]int{{1, 1}, {0, 1}, {factor, 1}, {1, 0}, {factor + 1, 1}, {math.MinInt, math.MinInt}} {
			got, e = angle.Times(a, f[0], f[1])
			wantArc(t, "Times", a, f, got, api.Arc{}, e, api.ErrArg)
		}
		for _, b := range append(invalid, only(0), only(-most), only(most), between(-most, most)) {
			for _, o := range binaries {
				got, e := o.apply(a, b)
				wantArc(t, o.name, a, b, got, api.Arc{}, e, api.ErrArg)
				got, e = o.apply(b, a)
				wantArc(t, o.name, b, a, got, api.Arc{}, e, api.ErrArg)
			}
		}
	}
}
