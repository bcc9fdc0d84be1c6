package fixed_test

import (
	"math/big"
	"testing"

	"almucantar/api"
	"almucantar/fixed"
)

// unary is a function of one interval, and the same one of a number.
type unary struct {
	name  string
	apply func(a api.Fixed) (api.Fixed, api.Errno)
	exact func(x *big.Rat) *big.Rat
}

var unaries = []unary{
	{"Neg", fixed.Neg, func(x *big.Rat) *big.Rat { return new(big.Rat).Neg(x) }},
	{"Square", fixed.Square, func(x *big.Rat) *big.Rat { return new(big.Rat).Mul(x, x) }},
}

// binary is a function of two intervals, and the same one of two numbers.
type binary struct {
	name  string
	apply func(a, b api.Fixed) (api.Fixed, api.Errno)
	exact func(x, y *big.Rat) *big.Rat
}

var binaries = []binary{
	{"Add", fixed.Add, func(x, y *big.Rat) *big.Rat { return new(big.Rat).Add(x, y) }},
	{"Sub", fixed.Sub, func(x, y *big.Rat) *big.Rat { return new(big.Rat).Sub(x, y) }},
	{"Mul", fixed.Mul, func(x, y *big.Rat) *big.Rat { return new(big.Rat).Mul(x, y) }},
	{"Div", fixed.Div, func(x, y *big.Rat) *big.Rat { return new(big.Rat).Quo(x, y) }},
}

// undefined reports whether a function has no result for some numbers of b.
func (o binary) undefined(b api.Fixed) bool { return o.name == "Div" && b.Lo <= 0 && b.Hi >= 0 }

// points are numbers of an interval in steps, its ends, and 0 if it has 0: those where the functions have their extremes are among them.
func points(a api.Fixed, step int) []*big.Rat {
	list := []*big.Rat{value(a.Lo), value(a.Hi)}
	if a.Lo <= 0 && a.Hi >= 0 {
		list = append(list, value(0))
	}
	for n := a.Lo + step; n < a.Hi; n += step {
		list = append(list, value(n))
	}
	return list
}

// checkUnary compares a result with the least interval for some points.
func checkUnary(t *testing.T, o unary, a api.Fixed, step int) {
	t.Helper()
	var results []*big.Rat
	for _, x := range points(a, step) {
		results = append(results, o.exact(x))
	}
	want, wantErr := leastInterval(results...)
	got, e := o.apply(a)
	wantFixed(t, o.name, a, "", got, want, e, wantErr)
}

// checkBinary compares a result with the least interval for some points of both.
func checkBinary(t *testing.T, o binary, a, b api.Fixed, step int) {
	t.Helper()
	got, e := o.apply(a, b)
	if o.undefined(b) {
		wantFixed(t, o.name, a, b, got, api.Fixed{}, e, api.ErrZero)
		return
	}
	var results []*big.Rat
	for _, x := range points(a, step) {
		for _, y := range points(b, step) {
			results = append(results, o.exact(x, y))
		}
	}
	want, wantErr := leastInterval(results...)
	wantFixed(t, o.name, a, b, got, want, e, wantErr)
}

// P4.2: the chapter's examples, roundings of both signs, and results at -Two and Two and one beyond.
func TestUnaryExamples(t *testing.T) {
	for _, c := range []struct {
		o       unary
		a, want api.Fixed
		wantErr api.Errno
	}{
		{unaries[0], between(-one, one/2), between(-one/2, one), api.OK},
		{unaries[0], only(-two), only(two), api.OK},
		{unaries[0], only(two), only(-two), api.OK},
		{unaries[0], between(-two, two), between(-two, two), api.OK},
		{unaries[0], only(0), only(0), api.OK},
		{unaries[1], between(-one, one/2), between(0, one), api.OK},
		{unaries[1], between(-one/2, one), between(0, one), api.OK},
		{unaries[1], between(-one, -one/2), between(one/4, one), api.OK},
		{unaries[1], between(one/2, one), between(one/4, one), api.OK},
		{unaries[1], only(0), only(0), api.OK},
		{unaries[1], only(1), between(0, 1), api.OK},
		{unaries[1], only(-1), between(0, 1), api.OK},
		{unaries[1], only(1 << 15), only(1), api.OK},
		{unaries[1], only(1<<15 + 1), between(1, 2), api.OK},
		{unaries[1], between(-1, 0), between(0, 1), api.OK},
		{unaries[1], only(-two), api.Fixed{}, api.ErrBig},
		{unaries[1], only(two), api.Fixed{}, api.ErrBig},
		{unaries[1], between(-two, 0), api.Fixed{}, api.ErrBig},
		// The root of 2 is between these two numbers.
		{unaries[1], only(1518500249), between(two-3, two-2), api.OK},
		{unaries[1], only(1518500250), api.Fixed{}, api.ErrBig},
		{unaries[1], between(-1518500249, 1518500249), between(0, two-2), api.OK},
		{unaries[1], between(-1518500250, 0), api.Fixed{}, api.ErrBig},
	} {
		got, e := c.o.apply(c.a)
		wantFixed(t, c.o.name, c.a, "", got, c.want, e, c.wantErr)
	}
}

// P4.2, P4.3: the chapter's examples, all signs, exact and rounded, and results at -Two and Two and one beyond.
func TestBinaryExamples(t *testing.T) {
	add, sub, mul, div := binaries[0], binaries[1], binaries[2], binaries[3]
	half := one / 2
	for _, c := range []struct {
		o          binary
		a, b, want api.Fixed
		wantErr    api.Errno
	}{
		{add, between(-one, half), between(half, one), between(-half, 3*half), api.OK},
		{add, only(one), only(one), only(two), api.OK},
		{add, only(one), only(one + 1), api.Fixed{}, api.ErrBig},
		{add, only(-one), only(-one), only(-two), api.OK},
		{add, only(-one), only(-one - 1), api.Fixed{}, api.ErrBig},
		{add, between(-one-1, 0), between(-one, 0), api.Fixed{}, api.ErrBig},
		{add, between(-two, two), only(0), between(-two, two), api.OK},
		{add, only(two), only(-two), only(0), api.OK},
		{sub, between(-one, half), between(half, one), between(-two, 0), api.OK},
		{sub, only(one), only(-one), only(two), api.OK},
		{sub, only(one), only(-one - 1), api.Fixed{}, api.ErrBig},
		{sub, only(-one), only(one + 1), api.Fixed{}, api.ErrBig},
		{sub, only(two), only(two), only(0), api.OK},
		{sub, between(-half, half), between(-half, half), between(-one, one), api.OK},
		{mul, between(-one, half), between(-one, half), between(-half, one), api.OK},
		{mul, only(one), only(-two), only(-two), api.OK},
		{mul, only(-one), only(-two), only(two), api.OK},
		{mul, only(one + 1), only(two), api.Fixed{}, api.ErrBig},
		{mul, only(one + 1), only(-two), api.Fixed{}, api.ErrBig},
		{mul, only(two), only(two), api.Fixed{}, api.ErrBig},
		{mul, only(-two), only(two), api.Fixed{}, api.ErrBig},
		{mul, only(one + 1), only(two - 2), between(two-1, two), api.OK},
		{mul, only(one + 1), only(two - 1), api.Fixed{}, api.ErrBig},
		{mul, only(-one - 1), only(two - 2), between(-two, 1-two), api.OK},
		{mul, only(-one - 1), only(two - 1), api.Fixed{}, api.ErrBig},
		{mul, only(1), only(1), between(0, 1), api.OK},
		{mul, only(1), only(-1), between(-1, 0), api.OK},
		{mul, only(-1), only(-1), between(0, 1), api.OK},
		{mul, only(3), only(half), between(1, 2), api.OK},
		{mul, only(-3), only(half), between(-2, -1), api.OK},
		{mul, between(one, two), between(-one, one), between(-two, two), api.OK},
		{div, only(one), only(3), api.Fixed{}, api.ErrBig},
		{div, only(one), only(one), only(one), api.OK},
		{div, only(1), only(two), between(0, 1), api.OK},
		{div, only(-1), only(two), between(-1, 0), api.OK},
		{div, only(1), only(-two), between(-1, 0), api.OK},
		{div, only(-1), only(-two), between(0, 1), api.OK},
		{div, only(2), only(1), only(two), api.OK},
		{div, only(2), only(-1), only(-two), api.OK},
		{div, only(3), only(1), api.Fixed{}, api.ErrBig},
		{div, only(3), only(-1), api.Fixed{}, api.ErrBig},
		{div, only(two), only(1), api.Fixed{}, api.ErrBig},
		{div, only(two), only(one), only(two), api.OK},
		{div, only(-two), only(one), only(-two), api.OK},
		{div, only(two), only(one - 1), api.Fixed{}, api.ErrBig},
		{div, only(two), only(one + 1), between(two-2, two-1), api.OK},
		{div, between(-one, half), between(half, one), between(-two, one), api.OK},
		{div, between(-one, half), between(-one, -half), between(-one, two), api.OK},
		{div, only(0), only(1), only(0), api.OK},
		{div, only(0), only(-two), only(0), api.OK},
		{div, only(one), only(0), api.Fixed{}, api.ErrZero},
		{div, only(0), only(0), api.Fixed{}, api.ErrZero},
		{div, only(0), between(0, one), api.Fixed{}, api.ErrZero},
		{div, only(0), between(-one, 0), api.Fixed{}, api.ErrZero},
		{div, only(two), between(-1, 1), api.Fixed{}, api.ErrZero},
		{div, between(-two, two), between(-two, two), api.Fixed{}, api.ErrZero},
	} {
		got, e := c.o.apply(c.a, c.b)
		wantFixed(t, c.o.name, c.a, c.b, got, c.want, e, c.wantErr)
	}
}

// P4.2, P4.3: every interval of some halves, with many points of each, so that nothing is said about where the extremes are.
func TestArithmeticOfAllPoints(t *testing.T) {
	var list []api.Fixed
	for lo := -two; lo <= two; lo += one / 2 {
		for hi := lo; hi <= two; hi += one / 2 {
			list = append(list, between(lo, hi))
		}
	}
	for _, a := range list {
		for _, o := range unaries {
			checkUnary(t, o, a, one/8)
		}
		for _, b := range list {
			for _, o := range binaries {
				checkBinary(t, o, a, b, one/2)
			}
		}
	}
}

// P4.2, P4.3: ends at the limits and beside them, and any others.
func TestArithmeticIsLeast(t *testing.T) {
	list, r := intervals(), newNumbers()
	check := func(a, b api.Fixed) {
		for _, o := range unaries {
			checkUnary(t, o, a, two)
		}
		for _, o := range binaries {
			checkBinary(t, o, a, b, 2*two)
		}
	}
	for i, a := range list {
		for j := i % 3; j < len(list); j += 3 {
			check(a, list[j])
		}
	}
	for range rounds {
		check(r.interval(), r.interval())
	}
}

// P4.2, P4.3: ErrArg comes before ErrZero, ErrRange, and ErrBig.
func TestArithmeticRejectsInvalidArguments(t *testing.T) {
	others := append(invalid, only(0), only(one), between(-two, two), between(-one, 0), only(-two))
	for _, a := range invalid {
		for _, o := range append(unaries, unary{name: "Sqrt", apply: fixed.Sqrt}) {
			got, e := o.apply(a)
			wantFixed(t, o.name, a, "", got, api.Fixed{}, e, api.ErrArg)
		}
		for _, b := range others {
			for _, o := range binaries {
				got, e := o.apply(a, b)
				wantFixed(t, o.name, a, b, got, api.Fixed{}, e, api.ErrArg)
				got, e = o.apply(b, a)
				wantFixed(t, o.name, b, a, got, api.Fixed{}, e, api.ErrArg)
			}
		}
	}
}

// P4.3: 0, squares and their neighbours, negative parts, and nothing but those.
func TestSqrtExamples(t *testing.T) {
	for _, c := range []struct {
		a, want api.Fixed
		wantErr api.Errno
	}{
		{only(0), only(0), api.OK},
		{only(one), only(one), api.OK},
		{only(one / 4), only(one / 2), api.OK},
		{only(1), only(1 << 15), api.OK},
		{only(4), only(1 << 16), api.OK},
		{only(9 * one / 16), only(3 * one / 4), api.OK},
		{only(one/4 + 1), between(one/2, one/2+1), api.OK},
		{only(one/4 - 1), between(one/2-2, one/2-1), api.OK},
		{only(2), between(46340, 46341), api.OK},
		{only(two), between(1518500249, 1518500250), api.OK},
		{only(two - 1), between(1518500249, 1518500250), api.OK},
		{between(1, two), between(1<<15, 1518500250), api.OK},
		{between(-1, 0), only(0), api.OK},
		{between(-1, 1), between(0, 1<<15), api.OK},
		{between(-two, one), between(0, one), api.OK},
		{between(-two, two), between(0, 1518500250), api.OK},
		{between(0, one/4), between(0, one/2), api.OK},
		{only(-1), api.Fixed{}, api.ErrRange},
		{only(-two), api.Fixed{}, api.ErrRange},
		{between(-two, -1), api.Fixed{}, api.ErrRange},
	} {
		got, e := fixed.Sqrt(c.a)
		wantFixed(t, "Sqrt", c.a, "", got, c.want, e, c.wantErr)
	}
}

// exactRoots are the root of n/One as a multiple of 1/One, rounded down and up.
func exactRoots(n int) (down, up int) {
	square := new(big.Int).Mul(big.NewInt(int64(n)), big.NewInt(one))
	root := new(big.Int).Sqrt(square)
	down = int(root.Int64())
	if root.Mul(root, root).Cmp(square) < 0 {
		return down, down + 1
	}
	return down, down
}

// P4.3: intervals at the limits, any others, and those beside squares.
func TestSqrtIsLeast(t *testing.T) {
	list, r := intervals(), newNumbers()
	for range rounds {
		list = append(list, r.interval())
		root := r.source.IntN(1 << 15)
		list = append(list, only(root*root), only(root*root+1), between(max(0, root*root-1), two))
	}
	for _, a := range list {
		want, wantErr := api.Fixed{}, api.ErrRange
		if a.Hi >= 0 {
			down, _ := exactRoots(max(0, a.Lo))
			_, up := exactRoots(a.Hi)
			want, wantErr = between(down, up), api.OK
		}
		got, e := fixed.Sqrt(a)
		wantFixed(t, "Sqrt", a, "", got, want, e, wantErr)
	}
}

// undo reports an interval that first and second lead to, if it does not contain the former one.
func undo(t *testing.T, name string, first, second func(a, b api.Fixed) (api.Fixed, api.Errno), a, b api.Fixed) {
	t.Helper()
	there, e := first(a, b)
	if e != api.OK {
		return
	}
	back, e := second(there, b)
	if e == api.OK && !fixed.Inside(a, back) {
		t.Errorf("%s of %v and %v is %v", name, a, b, back)
	}
}

// P4.6: what was added is subtracted again, what was multiplied by divided by; squares, and roots, are not negative.
func TestOperationsAreUndone(t *testing.T) {
	r := newNumbers()
	for range rounds {
		a, b := r.interval(), r.interval()
		undo(t, "a + b - b", fixed.Add, fixed.Sub, a, b)
		undo(t, "a - b + b", fixed.Sub, fixed.Add, a, b)
		undo(t, "a b / b", fixed.Mul, fixed.Div, a, b)
		undo(t, "a / b b", fixed.Div, fixed.Mul, a, b)
		square, e := fixed.Square(a)
		if square.Lo < 0 {
			t.Errorf("Square(%v) = %v", a, square)
		}
		root, rootErr := fixed.Sqrt(square)
		size := between(max(a.Lo, -a.Hi, 0), max(-a.Lo, a.Hi))
		if e == api.OK && (rootErr != api.OK || !fixed.Inside(size, root)) {
			t.Errorf("the root of the square of %v is %v, %d", a, root, rootErr)
		}
	}
}

// checkInside: P4.6, the result for a part of the arguments exists if that for the whole does, and is inside.
func checkInside(t *testing.T, name string, a, b any, part, whole api.Fixed, partErr, wholeErr api.Errno) {
	t.Helper()
	if wholeErr == api.OK && (partErr != api.OK || !fixed.Inside(part, whole)) {
		t.Errorf("%s of parts of %v and %v is %v, %d, of the whole %v", name, a, b, part, partErr, whole)
	}
}

// P4.6: parts of intervals, and single numbers of them.
func TestPartsHaveResultsInside(t *testing.T) {
	r := newNumbers()
	for range rounds {
		a, b := r.interval(), r.interval()
		for _, p := range [][2]api.Fixed{{r.inner(a), r.inner(b)}, {only(r.inner(a).Lo), only(r.inner(b).Hi)}, {a, r.inner(b)}, {r.inner(a), b}} {
			for _, o := range append(binaries, binary{name: "Hull", apply: fixed.Hull}) {
				whole, wholeErr := o.apply(a, b)
				part, partErr := o.apply(p[0], p[1])
				checkInside(t, o.name, a, b, part, whole, partErr, wholeErr)
			}
			for _, o := range unaries {
				whole, wholeErr := o.apply(a)
				part, partErr := o.apply(p[0])
				checkInside(t, o.name, a, "", part, whole, partErr, wholeErr)
			}
			whole, wholeErr := fixed.Sqrt(a)
			part, partErr := fixed.Sqrt(p[0])
			if p[0].Hi < 0 {
				wantFixed(t, "Sqrt", p[0], "", part, api.Fixed{}, partErr, api.ErrRange)
				continue
			}
			checkInside(t, "Sqrt", a, "", part, whole, partErr, wholeErr)
		}
	}
}
