package fixed_test

import (
	"math"
	"math/big"
	"testing"

	"almucantar/api"
	"almucantar/fixed"
)

func wantRange(t *testing.T, name string, a, b any, n, lo, hi, wantLo, wantHi int, e, wantErr api.Errno) {
	t.Helper()
	if lo != wantLo || hi != wantHi || e != wantErr {
		t.Errorf("%s(%v, %v, %d) = %d, %d, %d; want %d, %d, %d", name, a, b, n, lo, hi, e, wantLo, wantHi, wantErr)
	}
}

// P4.4: all signs, exact and rounded, and n at -MaxArc and MaxArc and one beyond.
func TestScaleExamples(t *testing.T) {
	for _, c := range []struct {
		a       api.Fixed
		n       int
		lo, hi  int
		wantErr api.Errno
	}{
		{only(one), 7, 7, 7, api.OK},
		{only(one), -7, -7, -7, api.OK},
		{only(-one), 7, -7, -7, api.OK},
		{only(-one), -7, 7, 7, api.OK},
		{only(one / 2), 7, 3, 4, api.OK},
		{only(one / 2), -7, -4, -3, api.OK},
		{only(-one / 2), 7, -4, -3, api.OK},
		{only(-one / 2), -7, 3, 4, api.OK},
		{between(-one/2, one), 10, -5, 10, api.OK},
		{between(-one/2, one), -10, -10, 5, api.OK},
		{between(one/2, one), -10, -10, -5, api.OK},
		{between(-two, two), 0, 0, 0, api.OK},
		{only(0), most, 0, 0, api.OK},
		{only(1), 1, 0, 1, api.OK},
		{only(-1), 1, -1, 0, api.OK},
		{only(1), one, 1, 1, api.OK},
		{only(1), most, 1 << 10, 1 << 10, api.OK},
		{only(1), most - 1, 1<<10 - 1, 1 << 10, api.OK},
		// Greater than MaxArc, but no more than 2 MaxArc.
		{only(two), most, 2 * most, 2 * most, api.OK},
		{only(two), -most, -2 * most, -2 * most, api.OK},
		{only(-two), -most, 2 * most, 2 * most, api.OK},
		{between(-two, two), most, -2 * most, 2 * most, api.OK},
		{only(two - 1), most, 2*most - 1<<10, 2*most - 1<<10, api.OK},
		{only(one), most + 1, 0, 0, api.ErrRange},
		{only(one), -most - 1, 0, 0, api.ErrRange},
		{only(0), most + 1, 0, 0, api.ErrRange},
		{only(0), math.MaxInt, 0, 0, api.ErrRange},
		{only(0), math.MinInt, 0, 0, api.ErrRange},
	} {
		lo, hi, e := fixed.Scale(c.a, c.n)
		wantRange(t, "Scale", c.a, "", c.n, lo, hi, c.lo, c.hi, e, c.wantErr)
	}
}

// P4.4: all signs, exact and rounded, n at its ends and one beyond, and ranges at -MaxArc and MaxArc and one beyond.
func TestQuotientExamples(t *testing.T) {
	half := one / 2
	for _, c := range []struct {
		a, b    api.Fixed
		n       int
		lo, hi  int
		wantErr api.Errno
	}{
		{only(one), only(two), 7, 3, 4, api.OK},
		{only(-one), only(two), 7, -4, -3, api.OK},
		{only(one), only(-two), 7, -4, -3, api.OK},
		{only(one), only(two), -7, -4, -3, api.OK},
		{only(-one), only(-two), 7, 3, 4, api.OK},
		{only(-one), only(two), -7, 3, 4, api.OK},
		{only(-one), only(-two), -7, -4, -3, api.OK},
		{only(6), only(3), 5, 10, 10, api.OK},
		{only(6), only(-3), 5, -10, -10, api.OK},
		{between(-one, half), between(half, one), 10, -20, 10, api.OK},
		{between(-one, half), between(half, one), -10, -10, 20, api.OK},
		{between(-one, half), between(-one, -half), 10, -10, 20, api.OK},
		{between(half, one), between(half, one), 1, 0, 2, api.OK},
		// Larger than any interval in between.
		{only(two), only(1), 100, 100 * two, 100 * two, api.OK},
		{between(-two, two), only(1), 0, 0, 0, api.OK},
		{only(1), only(two), 1, 0, 1, api.OK},
		{only(0), only(1), most, 0, 0, api.OK},
		{only(one), only(one), most, most, most, api.OK},
		{only(one), only(one), -most, -most, -most, api.OK},
		{only(one), only(-one), most, -most, -most, api.OK},
		{only(most >> 20), only(1), 1 << 20, most, most, api.OK},
		{only(most>>20 + 1), only(1), 1 << 20, 0, 0, api.ErrBig},
		{only(-most >> 20), only(1), 1 << 20, -most, -most, api.OK},
		{only(-most>>20 - 1), only(1), 1 << 20, 0, 0, api.ErrBig},
		// The quotients are MaxArc - 1/5 and MaxArc + 1/5: rounding up alone leads to MaxArc, and beyond.
		{only(179), only(5), 30712615301, most - 1, most, api.OK},
		{only(-179), only(5), 30712615301, -most, 1 - most, api.OK},
		{only(9), only(5), 610839793209, 0, 0, api.ErrBig},
		{only(-9), only(5), 610839793209, 0, 0, api.ErrBig},
		{only(one), only(one - 1), most - 1024, most, most, api.OK},
		{only(one), only(one - 1), most - 1023, 0, 0, api.ErrBig},
		{between(0, one), only(one - 1), most, 0, 0, api.ErrBig},
		{between(-one, 0), only(one - 1), most, 0, 0, api.ErrBig},
		{only(two), only(1), most, 0, 0, api.ErrBig},
		{only(two), only(-1), most, 0, 0, api.ErrBig},
		{only(-two), only(1), most, 0, 0, api.ErrBig},
		{only(-two), only(-1), -most, 0, 0, api.ErrBig},
		// The quotient is 2^63, which is no int, and its opposite, which is one.
		{only(two), only(256), most, 0, 0, api.ErrBig},
		{only(two), only(-256), most, 0, 0, api.ErrBig},
		{only(one), only(one), most + 1, 0, 0, api.ErrRange},
		{only(one), only(one), -most - 1, 0, 0, api.ErrRange},
		{only(one), only(one), math.MaxInt, 0, 0, api.ErrRange},
		{only(one), only(one), math.MinInt, 0, 0, api.ErrRange},
		{only(one), only(0), 1, 0, 0, api.ErrZero},
		{only(0), only(0), 0, 0, 0, api.ErrZero},
		{only(one), between(0, one), 1, 0, 0, api.ErrZero},
		{only(one), between(-one, 0), 1, 0, 0, api.ErrZero},
		{only(one), between(-1, 1), 1, 0, 0, api.ErrZero},
		{only(two), between(0, 1), most, 0, 0, api.ErrZero},
		{only(one), only(0), most + 1, 0, 0, api.ErrRange},
		{only(one), between(-1, 1), -most - 1, 0, 0, api.ErrRange},
	} {
		lo, hi, e := fixed.Quotient(c.a, c.b, c.n)
		wantRange(t, "Quotient", c.a, c.b, c.n, lo, hi, c.lo, c.hi, e, c.wantErr)
	}
}

// checkRanges compares both functions with exact ranges of some points.
func checkRanges(t *testing.T, a, b api.Fixed, n, step int) {
	t.Helper()
	factor := big.NewRat(int64(n), 1)
	var products, quotients []*big.Rat
	undefined := b.Lo <= 0 && b.Hi >= 0
	for _, x := range points(a, step) {
		product := x.Mul(x, factor)
		products = append(products, product)
		for _, y := range points(b, step) {
			if !undefined {
				quotients = append(quotients, y.Quo(product, y))
			}
		}
	}
	least, greatest := extremes(products)
	lo, hi, e := fixed.Scale(a, n)
	wantRange(t, "Scale", a, "", n, lo, hi, int(floor(least).Int64()), int(ceil(greatest).Int64()), e, api.OK)
	lo, hi, e = fixed.Quotient(a, b, n)
	if undefined {
		wantRange(t, "Quotient", a, b, n, lo, hi, 0, 0, e, api.ErrZero)
		return
	}
	wantLo, wantHi, wantErr := arcRange(quotients...)
	wantRange(t, "Quotient", a, b, n, lo, hi, wantLo, wantHi, e, wantErr)
}

// P4.4: ends at the limits and beside them, points within, and any others.
func TestRangesAreLeast(t *testing.T) {
	list, r := intervals(), newNumbers()
	factors := []int{-most, 1 - most, -one, -1, 0, 1, 7, api.Turn, one, most - 1, most}
	for i, a := range list {
		for j := i % 7; j < len(list); j += 7 {
			checkRanges(t, a, list[j], factors[(i+j)%len(factors)], 2*two)
		}
		for _, n := range factors {
			checkRanges(t, a, list[len(list)-1-i], n, one/2)
		}
	}
	for range rounds {
		checkRanges(t, r.interval(), r.interval(), r.arc(), 2*two)
	}
}

// P4.4: ErrArg comes before ErrRange, this before ErrZero, and this before ErrBig.
func TestRangesRejectInvalidArguments(t *testing.T) {
	for _, a := range invalid {
		for _, n := range []int{0, 1, most, most + 1, -most - 1, math.MaxInt, math.MinInt} {
			lo, hi, e := fixed.Scale(a, n)
			wantRange(t, "Scale", a, "", n, lo, hi, 0, 0, e, api.ErrArg)
			for _, b := range append(invalid, only(0), only(1), between(-1, 1), between(-two, 0)) {
				lo, hi, e = fixed.Quotient(a, b, n)
				wantRange(t, "Quotient", a, b, n, lo, hi, 0, 0, e, api.ErrArg)
				lo, hi, e = fixed.Quotient(b, a, n)
				wantRange(t, "Quotient", b, a, n, lo, hi, 0, 0, e, api.ErrArg)
			}
		}
	}
}

// P4.6: the range for a part of the arguments is inside that for the whole.
func TestPartsHaveRangesInside(t *testing.T) {
	r := newNumbers()
	for range rounds {
		a, b, n := r.interval(), r.interval(), r.arc()
		x, y := r.inner(a), r.inner(b)
		wholeLo, wholeHi, e := fixed.Scale(a, n)
		lo, hi, partErr := fixed.Scale(x, n)
		if e != api.OK || partErr != api.OK || lo < wholeLo || hi > wholeHi {
			t.Errorf("Scale(%v, %d) = %d, %d, %d, of %v %d, %d, %d", x, n, lo, hi, partErr, a, wholeLo, wholeHi, e)
		}
		wholeLo, wholeHi, e = fixed.Quotient(a, b, n)
		lo, hi, partErr = fixed.Quotient(x, y, n)
		if e == api.OK && (partErr != api.OK || lo < wholeLo || hi > wholeHi) {
			t.Errorf("Quotient(%v, %v, %d) = %d, %d, %d, of %v, %v %d, %d", x, y, n, lo, hi, partErr, a, b, wholeLo, wholeHi)
		}
	}
}
