package fixed_test

import (
	"math"
	"math/big"
	"math/rand/v2"
	"testing"

	"almucantar/api"
	"almucantar/fixed"
)

const (
	one  = api.One
	two  = api.Two
	most = api.MaxArc

	rounds = 20000
)

// invalid are intervals with a Lo greater than Hi, or with ends out of range.
var invalid = []api.Fixed{
	{Lo: 1}, {Hi: -1}, {Lo: one, Hi: one - 1}, {Lo: two, Hi: -two}, {Lo: two, Hi: two - 1}, {Lo: 1 - two, Hi: -two},
	{Lo: -two - 1}, {Lo: -two - 1, Hi: two}, {Lo: -two - 1, Hi: -two}, {Lo: -two - 1, Hi: -two - 1},
	{Hi: two + 1}, {Lo: -two, Hi: two + 1}, {Lo: two, Hi: two + 1}, {Lo: two + 1, Hi: two + 1}, {Lo: -two - 1, Hi: two + 1},
	{Lo: math.MinInt}, {Hi: math.MaxInt}, {Lo: math.MinInt, Hi: math.MaxInt}, {Lo: math.MaxInt, Hi: math.MinInt},
	{Lo: math.MinInt, Hi: math.MinInt}, {Lo: math.MaxInt, Hi: math.MaxInt}, {Lo: 1 << 32, Hi: 1 << 32}, {Lo: -1 << 32, Hi: -1 << 32},
}

// between is the interval with these ends.
func between(lo, hi int) api.Fixed { return api.Fixed{Lo: lo, Hi: hi} }

// only is the interval of one number.
func only(n int) api.Fixed { return api.Fixed{Lo: n, Hi: n} }

// value is n/One.
func value(n int) *big.Rat { return big.NewRat(int64(n), one) }

// floor rounds down: Div does, since its divisor is positive.
func floor(v *big.Rat) *big.Int { return new(big.Int).Div(v.Num(), v.Denom()) }

// ceil rounds up.
func ceil(v *big.Rat) *big.Int {
	n := floor(new(big.Rat).Neg(v))
	return n.Neg(n)
}

// extremes are the least and the greatest of some numbers.
func extremes(numbers []*big.Rat) (least, greatest *big.Rat) {
	least, greatest = numbers[0], numbers[0]
	for _, n := range numbers {
		if n.Cmp(least) < 0 {
			least = n
		}
		if n.Cmp(greatest) > 0 {
			greatest = n
		}
	}
	return least, greatest
}

// leastInterval is the chapter's least interval for some numbers, and ErrBig if there is none.
func leastInterval(numbers ...*big.Rat) (api.Fixed, api.Errno) {
	least, greatest := extremes(numbers)
	limit := big.NewRat(2, 1)
	if new(big.Rat).Neg(limit).Cmp(least) > 0 || greatest.Cmp(limit) > 0 {
		return api.Fixed{}, api.ErrBig
	}
	unit := big.NewRat(one, 1)
	lo, hi := floor(new(big.Rat).Mul(least, unit)), ceil(new(big.Rat).Mul(greatest, unit))
	return between(int(lo.Int64()), int(hi.Int64())), api.OK
}

// arcRange is what Quotient returns for some numbers.
func arcRange(numbers ...*big.Rat) (lo, hi int, e api.Errno) {
	least, greatest := extremes(numbers)
	down, up, limit := floor(least), ceil(greatest), big.NewInt(most)
	if down.CmpAbs(limit) > 0 || up.CmpAbs(limit) > 0 {
		return 0, 0, api.ErrBig
	}
	return int(down.Int64()), int(up.Int64()), api.OK
}

// intervals are those of one number and of two, with ends at 0, at 1 and 2, beside these, and at others, of both signs.
func intervals() []api.Fixed {
	ends := []int{-two, 1 - two, -one - 1, -one, 1 - one, -46341, -3, -1, 0, 1, 2, 32768, one / 3, one / 2, one - 1, one, one + 1, two - 1, two}
	var list []api.Fixed
	for i, lo := range ends {
		for _, hi := range ends[i:] {
			list = append(list, between(lo, hi))
		}
	}
	return list
}

// numbers makes ints and intervals of all sizes, the same ones in each run.
type numbers struct{ source *rand.Rand }

func newNumbers() numbers { return numbers{rand.New(rand.NewPCG(4, 30))} }

func (r numbers) int() int { return int(r.source.Uint64()) >> r.source.IntN(64) }

func (r numbers) end() int { return (r.source.IntN(2*two+1) - two) >> r.source.IntN(33) }

func (r numbers) arc() int { return (r.source.IntN(2*most+1) - most) >> r.source.IntN(42) }

// interval makes wide and narrow ones, among them those of one number.
func (r numbers) interval() api.Fixed {
	a, b := r.end(), r.end()
	if r.source.IntN(2) == 0 {
		b = max(-two, min(two, a+r.source.IntN(5)))
	}
	return between(min(a, b), max(a, b))
}

// inner makes an interval inside of one.
func (r numbers) inner(a api.Fixed) api.Fixed {
	x, y := a.Lo+r.source.IntN(a.Hi-a.Lo+1), a.Lo+r.source.IntN(a.Hi-a.Lo+1)
	return between(min(x, y), max(x, y))
}

func wantFixed(t *testing.T, name string, a, b any, got, want api.Fixed, e, wantErr api.Errno) {
	t.Helper()
	if got != want || e != wantErr {
		t.Errorf("%s(%v, %v) = %v, %d; want %v, %d", name, a, b, got, e, want, wantErr)
	}
}

// P4.1: Lo and Hi at -Two and Two and one beyond, equal ones, and a Lo greater than Hi.
func TestValid(t *testing.T) {
	for _, a := range append(intervals(), api.Fixed{}, only(-two), only(two), between(-two, two), between(two-1, two), between(-two, 1-two)) {
		if !fixed.Valid(a) {
			t.Errorf("%v is not valid", a)
		}
	}
	for _, a := range invalid {
		if fixed.Valid(a) {
			t.Errorf("%v is valid", a)
		}
	}
}

// P4.1: the chapter's example, signs, results at the ends and beside them, and the least and the greatest int.
func TestMakeExamples(t *testing.T) {
	for _, c := range []struct {
		num, den int
		want     api.Fixed
		wantErr  api.Errno
	}{
		{1, 3, between(357913941, 357913942), api.OK},
		{-1, 3, between(-357913942, -357913941), api.OK},
		{1, -3, between(-357913942, -357913941), api.OK},
		{-1, -3, between(357913941, 357913942), api.OK},
		{0, 1, only(0), api.OK},
		{0, -1, only(0), api.OK},
		{0, math.MinInt, only(0), api.OK},
		{1, 2, only(one / 2), api.OK},
		{-3, 2, only(-3 * one / 2), api.OK},
		{1, one, only(1), api.OK},
		{1, -one, only(-1), api.OK},
		{1, 2 * one, between(0, 1), api.OK},
		{-1, 2 * one, between(-1, 0), api.OK},
		{2, 1, only(two), api.OK},
		{-2, 1, only(-two), api.OK},
		{2, -1, only(-two), api.OK},
		{two - 1, one, only(two - 1), api.OK},
		{two + 1, one, api.Fixed{}, api.ErrBig},
		{-two - 1, one, api.Fixed{}, api.ErrBig},
		{two + 1, -one, api.Fixed{}, api.ErrBig},
		{3, 1, api.Fixed{}, api.ErrBig},
		{-3, 1, api.Fixed{}, api.ErrBig},
		// Just below 2 and just above.
		{math.MaxInt, 1 << 62, between(two-1, two), api.OK},
		{-math.MaxInt, 1 << 62, between(-two, 1-two), api.OK},
		{math.MaxInt, 1<<62 - 1, api.Fixed{}, api.ErrBig},
		{-math.MaxInt, 1<<62 - 1, api.Fixed{}, api.ErrBig},
		{math.MaxInt, 1 - 1<<62, api.Fixed{}, api.ErrBig},
		{math.MinInt, 1 << 62, only(-two), api.OK},
		{math.MinInt, -1 << 62, only(two), api.OK},
		{math.MinInt, 1<<62 - 1, api.Fixed{}, api.ErrBig},
		{math.MinInt, 1<<62 + 1, between(-two, 1-two), api.OK},
		{math.MinInt, math.MinInt, only(one), api.OK},
		{math.MaxInt, math.MaxInt, only(one), api.OK},
		{math.MaxInt, math.MinInt, between(-one, 1-one), api.OK},
		{math.MinInt, math.MaxInt, between(-one-1, -one), api.OK},
		{1, math.MinInt, between(-1, 0), api.OK},
		{-1, math.MinInt, between(0, 1), api.OK},
		{1, math.MaxInt, between(0, 1), api.OK},
		{-1, math.MaxInt, between(-1, 0), api.OK},
		{math.MinInt, 1, api.Fixed{}, api.ErrBig},
		{math.MinInt, -1, api.Fixed{}, api.ErrBig},
		{math.MaxInt, 1, api.Fixed{}, api.ErrBig},
		{math.MaxInt, -1, api.Fixed{}, api.ErrBig},
		{1 << 34, 1, api.Fixed{}, api.ErrBig},
		{0, 0, api.Fixed{}, api.ErrZero},
		{1, 0, api.Fixed{}, api.ErrZero},
		{3, 0, api.Fixed{}, api.ErrZero},
		{math.MaxInt, 0, api.Fixed{}, api.ErrZero},
		{math.MinInt, 0, api.Fixed{}, api.ErrZero},
	} {
		got, e := fixed.Make(c.num, c.den)
		wantFixed(t, "Make", c.num, c.den, got, c.want, e, c.wantErr)
	}
}

// P4.1: any ints, and numbers beside exact ones.
func TestMakeIsTheLeastInterval(t *testing.T) {
	r := newNumbers()
	check := func(num, den int) {
		if den == 0 {
			return
		}
		want, wantErr := leastInterval(big.NewRat(int64(num), int64(den)))
		got, e := fixed.Make(num, den)
		wantFixed(t, "Make", num, den, got, want, e, wantErr)
	}
	for range rounds {
		check(r.int(), r.int())
		n, factor := r.source.IntN(2*two+5)-two-2, r.source.IntN(1<<30)+1
		for beside := -1; beside <= 1; beside++ {
			check(n*factor+beside, one*factor)
			check(n*factor+beside, -one*factor)
		}
	}
}
