package ratio_test

import (
	"math"
	"math/big"
	"math/rand/v2"
	"testing"

	"almucantar/api"
	"almucantar/ratio"
)

const most = api.MaxFrac // of Num and of Den

// invalid are fractions that are not in lowest terms, or have a Num, a Den, or both of them out of range.
var invalid = []api.Frac{
	{}, {Num: 1}, {Num: -1}, {Den: 2}, {Den: most}, {Den: -1}, {Num: 1, Den: -1}, {Num: -3, Den: -2},
	{Num: 2, Den: 2}, {Num: 2, Den: 4}, {Num: -2, Den: 4}, {Num: 6, Den: 9}, {Num: most, Den: most}, {Num: -most, Den: most}, {Num: most, Den: 2},
	{Num: most + 1, Den: 1}, {Num: -most - 1, Den: 1}, {Num: most + 1, Den: 2}, {Num: 1, Den: most + 1}, {Num: -1, Den: most + 1}, {Den: most + 1},
	{Num: math.MaxInt, Den: 1}, {Num: math.MinInt, Den: 1}, {Num: math.MinInt, Den: 3}, {Num: 1, Den: math.MaxInt}, {Num: 1, Den: math.MinInt},
	{Num: math.MinInt, Den: math.MinInt}, {Num: math.MaxInt, Den: math.MaxInt}, {Num: math.MinInt, Den: -1}, {Num: -1, Den: math.MinInt},
	{Num: 1<<32 + 1, Den: 1}, {Num: 1, Den: 1<<32 + 1}, {Num: math.MinInt + 1, Den: math.MaxInt - 1},
}

func integer(n int) api.Frac { return api.Frac{Num: n, Den: 1} }

func value(a api.Frac) *big.Rat { return big.NewRat(int64(a.Num), int64(a.Den)) }

// fitting is what a function with this exact result returns.
func fitting(v *big.Rat) (api.Frac, api.Errno) {
	limit := big.NewInt(most)
	if v.Num().CmpAbs(limit) > 0 || v.Denom().Cmp(limit) > 0 {
		return api.Frac{}, api.ErrBig
	}
	return api.Frac{Num: int(v.Num().Int64()), Den: int(v.Denom().Int64())}, api.OK
}

// floor rounds down: Div does, since its divisor is positive.
func floor(v *big.Rat) int { return int(new(big.Int).Div(v.Num(), v.Denom()).Int64()) }

// fracs are valid fractions: small ones, those at the ends, ones beside these, and their opposites.
func fracs() []api.Frac {
	list := []api.Frac{integer(0)}
	numbers := []int{1, 2, 3, 4, 5, 6, 7, 12, 1000, 1<<15 - 1, 1 << 15, 1<<15 + 1, 1 << 20, 999999937, most - 2, most - 1, most}
	for _, num := range numbers {
		for _, den := range numbers {
			if a := (api.Frac{Num: num, Den: den}); value(a).Num().Int64() == int64(num) {
				list = append(list, a, api.Frac{Num: -num, Den: den})
			}
		}
	}
	return list
}

// numbers makes ints and fractions of all lengths, the same ones in each run.
type numbers struct{ source *rand.Rand }

func newNumbers() numbers { return numbers{rand.New(rand.NewPCG(3, 30))} }

func (r numbers) int() int { return int(r.source.Uint64()) >> r.source.IntN(64) }

func (r numbers) frac() api.Frac { return r.fracBelow(30) }

// fracBelow makes a fraction whose Num and Den have at most some bits.
func (r numbers) fracBelow(length int) api.Frac {
	num := r.source.IntN(1<<length+1) >> r.source.IntN(length+1)
	den := (r.source.IntN(1<<length) >> r.source.IntN(length+1)) + 1
	a, _ := fitting(big.NewRat(int64(num), int64(den)))
	if r.source.IntN(2) == 0 {
		a.Num = -a.Num
	}
	return a
}

const rounds = 20000

func wantFrac(t *testing.T, name string, a, b any, got, want api.Frac, e, wantErr api.Errno) {
	t.Helper()
	if got != want || e != wantErr {
		t.Errorf("%s(%v, %v) = %v, %d; want %v, %d", name, a, b, got, e, want, wantErr)
	}
}

func wantInt(t *testing.T, name string, a, b any, got, want int, e, wantErr api.Errno) {
	t.Helper()
	if got != want || e != wantErr {
		t.Errorf("%s(%v, %v) = %d, %d; want %d, %d", name, a, b, got, e, want, wantErr)
	}
}

// P3.1: zero is 0/1 alone, and both ends are valid.
func TestValidExamples(t *testing.T) {
	for _, a := range []api.Frac{
		{Num: 0, Den: 1}, {Num: 1, Den: 1}, {Num: -1, Den: 1}, {Num: 1, Den: 2}, {Num: -3, Den: 2}, {Num: 8, Den: 9},
		{Num: most, Den: 1}, {Num: -most, Den: 1}, {Num: 1, Den: most}, {Num: -1, Den: most}, {Num: most, Den: most - 1}, {Num: 1 - most, Den: most},
	} {
		if !ratio.Valid(a) {
			t.Errorf("%v is not valid", a)
		}
	}
	for _, a := range invalid {
		if ratio.Valid(a) {
			t.Errorf("%v is valid", a)
		}
	}
}

// lowest reports whether no number from 2 on divides both.
func lowest(num, den int) bool {
	for n := 2; n <= 40; n++ {
		if num%n == 0 && den%n == 0 {
			return false
		}
	}
	return true
}

// P3.1: all small fractions.
func TestValidMeansLowestTerms(t *testing.T) {
	for num := -40; num <= 40; num++ {
		for den := -40; den <= 40; den++ {
			want := den > 0 && lowest(num, den)
			if got := ratio.Valid(api.Frac{Num: num, Den: den}); got != want {
				t.Errorf("Valid(%d/%d) = %v", num, den, got)
			}
		}
	}
}

// P3.1: the chapter's examples, signs, the ends, and ints whose opposites are none.
func TestMakeExamples(t *testing.T) {
	for _, c := range []struct {
		num, den int
		want     api.Frac
		wantErr  api.Errno
	}{
		{6, -4, api.Frac{Num: -3, Den: 2}, api.OK},
		{6, 4, api.Frac{Num: 3, Den: 2}, api.OK},
		{-6, 4, api.Frac{Num: -3, Den: 2}, api.OK},
		{-6, -4, api.Frac{Num: 3, Den: 2}, api.OK},
		{0, 5, integer(0), api.OK},
		{0, -5, integer(0), api.OK},
		{0, math.MinInt, integer(0), api.OK},
		{0, math.MaxInt, integer(0), api.OK},
		{1, most, api.Frac{Num: 1, Den: most}, api.OK},
		{1, -most, api.Frac{Num: -1, Den: most}, api.OK},
		{1, most + 1, api.Frac{}, api.ErrBig},
		{-1, most + 1, api.Frac{}, api.ErrBig},
		{1, -most - 1, api.Frac{}, api.ErrBig},
		{most, 1, integer(most), api.OK},
		{most, -1, integer(-most), api.OK},
		{most + 1, 1, api.Frac{}, api.ErrBig},
		{-most - 1, 1, api.Frac{}, api.ErrBig},
		{most + 1, most, api.Frac{}, api.ErrBig},
		{most, most + 1, api.Frac{}, api.ErrBig},
		{2 * most, 2, integer(most), api.OK},
		{2, 2 * most, api.Frac{Num: 1, Den: most}, api.OK},
		{2*most + 2, 2, api.Frac{}, api.ErrBig},
		{math.MinInt, math.MinInt, integer(1), api.OK},
		{math.MinInt, math.MaxInt, api.Frac{}, api.ErrBig},
		{math.MinInt, 1 << 33, integer(-most), api.OK},
		{math.MinInt, -1 << 33, integer(most), api.OK},
		{math.MinInt, 1 << 32, api.Frac{}, api.ErrBig},
		{1 << 33, math.MinInt, api.Frac{Num: -1, Den: most}, api.OK},
		{-1 << 33, math.MinInt, api.Frac{Num: 1, Den: most}, api.OK},
		{math.MinInt, 1, api.Frac{}, api.ErrBig},
		{math.MinInt, -1, api.Frac{}, api.ErrBig},
		{1, math.MinInt, api.Frac{}, api.ErrBig},
		{-1, math.MinInt, api.Frac{}, api.ErrBig},
		{math.MaxInt, math.MaxInt, integer(1), api.OK},
		{-math.MaxInt, math.MaxInt, integer(-1), api.OK},
		{1<<32 + 1, 1, api.Frac{}, api.ErrBig},
		{0, 0, api.Frac{}, api.ErrZero},
		{1, 0, api.Frac{}, api.ErrZero},
		{most + 1, 0, api.Frac{}, api.ErrZero},
		{math.MaxInt, 0, api.Frac{}, api.ErrZero},
		{math.MinInt, 0, api.Frac{}, api.ErrZero},
	} {
		got, e := ratio.Make(c.num, c.den)
		wantFrac(t, "Make", c.num, c.den, got, c.want, e, c.wantErr)
	}
}

// P3.1: any ints, and multiples of what fits and of what does not.
func TestMakeIsTheValue(t *testing.T) {
	r := newNumbers()
	check := func(num, den int) {
		if den == 0 {
			return
		}
		want, wantErr := fitting(big.NewRat(int64(num), int64(den)))
		got, e := ratio.Make(num, den)
		wantFrac(t, "Make", num, den, got, want, e, wantErr)
		if e == api.OK && !ratio.Valid(got) {
			t.Errorf("Make(%d, %d) = %v is not valid", num, den, got)
		}
	}
	for range rounds {
		check(r.int(), r.int())
		a, factor := r.fracBelow(31), r.source.IntN(1<<31)-1<<30
		check(a.Num*factor, a.Den*factor)
	}
}

// operations have their exact counterparts, of which Div's is nil for a division by zero.
var operations = []struct {
	name  string
	apply func(a, b api.Frac) (api.Frac, api.Errno)
	exact func(a, b *big.Rat) *big.Rat
}{
	{"Add", ratio.Add, func(a, b *big.Rat) *big.Rat { return new(big.Rat).Add(a, b) }},
	{"Sub", ratio.Sub, func(a, b *big.Rat) *big.Rat { return new(big.Rat).Sub(a, b) }},
	{"Mul", ratio.Mul, func(a, b *big.Rat) *big.Rat { return new(big.Rat).Mul(a, b) }},
	{"Div", ratio.Div, exactQuotient},
}

func exactQuotient(a, b *big.Rat) *big.Rat {
	if b.Sign() == 0 {
		return nil
	}
	return new(big.Rat).Quo(a, b)
}

// P3.2: the chapter's example, and results at the ends.
func TestOperationExamples(t *testing.T) {
	for _, c := range []struct {
		name    string
		apply   func(a, b api.Frac) (api.Frac, api.Errno)
		a, b    api.Frac
		want    api.Frac
		wantErr api.Errno
	}{
		{"Add", ratio.Add, api.Frac{Num: 1, Den: 2}, api.Frac{Num: 1, Den: 3}, api.Frac{Num: 5, Den: 6}, api.OK},
		{"Add", ratio.Add, integer(most - 1), integer(1), integer(most), api.OK},
		{"Add", ratio.Add, integer(most), integer(1), api.Frac{}, api.ErrBig},
		{"Add", ratio.Add, integer(most), integer(most), api.Frac{}, api.ErrBig},
		{"Add", ratio.Add, api.Frac{Num: 1, Den: most}, api.Frac{Num: 1, Den: most}, api.Frac{Num: 1, Den: most / 2}, api.OK},
		{"Add", ratio.Add, api.Frac{Num: 1, Den: most}, api.Frac{Num: 1, Den: 3}, api.Frac{}, api.ErrBig},
		{"Sub", ratio.Sub, api.Frac{Num: 1, Den: 2}, api.Frac{Num: 1, Den: 2}, integer(0), api.OK},
		{"Sub", ratio.Sub, integer(-most), integer(1), api.Frac{}, api.ErrBig},
		{"Sub", ratio.Sub, integer(-most), integer(most), api.Frac{}, api.ErrBig},
		{"Mul", ratio.Mul, api.Frac{Num: most, Den: most - 1}, api.Frac{Num: most - 1, Den: most}, integer(1), api.OK},
		{"Mul", ratio.Mul, integer(-1 << 15), integer(1 << 15), integer(-most), api.OK},
		{"Mul", ratio.Mul, integer(most), integer(-most), api.Frac{}, api.ErrBig},
		{"Mul", ratio.Mul, integer(0), integer(-most), integer(0), api.OK},
		{"Div", ratio.Div, integer(1), integer(-most), api.Frac{Num: -1, Den: most}, api.OK},
		{"Div", ratio.Div, integer(-most), api.Frac{Num: -1, Den: 2}, api.Frac{}, api.ErrBig},
		{"Div", ratio.Div, integer(most), api.Frac{Num: 1, Den: most}, api.Frac{}, api.ErrBig},
		{"Div", ratio.Div, integer(0), integer(-7), integer(0), api.OK},
		{"Div", ratio.Div, integer(1), integer(0), api.Frac{}, api.ErrZero},
		{"Div", ratio.Div, integer(0), integer(0), api.Frac{}, api.ErrZero},
		{"Div", ratio.Div, integer(most), integer(0), api.Frac{}, api.ErrZero},
	} {
		got, e := c.apply(c.a, c.b)
		wantFrac(t, c.name, c.a, c.b, got, c.want, e, c.wantErr)
	}
}

// checkOperations compares all operations, Cmp, Floor, and Round with exact ones.
func checkOperations(t *testing.T, a, b api.Frac) {
	t.Helper()
	x, y := value(a), value(b)
	for _, o := range operations {
		want, wantErr := api.Frac{}, api.ErrZero
		if exact := o.exact(x, y); exact != nil {
			want, wantErr = fitting(exact)
		}
		got, e := o.apply(a, b)
		wantFrac(t, o.name, a, b, got, want, e, wantErr)
	}
	sign, e := ratio.Cmp(a, b)
	wantInt(t, "Cmp", a, b, sign, x.Cmp(y), e, api.OK)
	n, e := ratio.Floor(a)
	wantInt(t, "Floor", a, "", n, floor(x), e, api.OK)
	n, e = ratio.Round(a)
	wantInt(t, "Round", a, "", n, floor(x.Add(x, big.NewRat(1, 2))), e, api.OK)
}

// P3.2, P3.3: all pairs of small fractions and of fractions at the ends, and any others.
func TestOperationsAreExact(t *testing.T) {
	list, r := fracs(), newNumbers()
	for _, a := range list {
		for _, b := range list {
			checkOperations(t, a, b)
		}
	}
	for range rounds {
		checkOperations(t, r.frac(), r.frac())
		checkOperations(t, r.fracBelow(15), r.fracBelow(15))
	}
}

// P3.2, P3.3: ErrArg comes before ErrZero and ErrBig.
func TestOperationsRejectInvalidArguments(t *testing.T) {
	for _, a := range invalid {
		for _, b := range append(invalid, integer(0), integer(1), integer(-most), api.Frac{Num: 1, Den: most}) {
			for _, o := range operations {
				got, e := o.apply(a, b)
				wantFrac(t, o.name, a, b, got, api.Frac{}, e, api.ErrArg)
				got, e = o.apply(b, a)
				wantFrac(t, o.name, b, a, got, api.Frac{}, e, api.ErrArg)
			}
			sign, e := ratio.Cmp(a, b)
			wantInt(t, "Cmp", a, b, sign, 0, e, api.ErrArg)
			sign, e = ratio.Cmp(b, a)
			wantInt(t, "Cmp", b, a, sign, 0, e, api.ErrArg)
		}
		n, e := ratio.Floor(a)
		wantInt(t, "Floor", a, "", n, 0, e, api.ErrArg)
		n, e = ratio.Round(a)
		wantInt(t, "Round", a, "", n, 0, e, api.ErrArg)
	}
}

// P3.3: halves go up, for negative fractions too.
func TestFloorAndRoundExamples(t *testing.T) {
	for _, c := range []struct {
		a            api.Frac
		floor, round int
	}{
		{api.Frac{Num: -3, Den: 2}, -2, -1},
		{api.Frac{Num: 3, Den: 2}, 1, 2},
		{api.Frac{Num: 1, Den: 2}, 0, 1},
		{api.Frac{Num: -1, Den: 2}, -1, 0},
		{api.Frac{Num: 1, Den: 3}, 0, 0},
		{api.Frac{Num: 2, Den: 3}, 0, 1},
		{api.Frac{Num: -1, Den: 3}, -1, 0},
		{api.Frac{Num: -2, Den: 3}, -1, -1},
		{integer(0), 0, 0},
		{integer(-7), -7, -7},
		{integer(most), most, most},
		{integer(-most), -most, -most},
		{api.Frac{Num: 1, Den: most}, 0, 0},
		{api.Frac{Num: -1, Den: most}, -1, 0},
		{api.Frac{Num: most - 1, Den: most}, 0, 1},
		{api.Frac{Num: 1 - most, Den: most}, -1, -1},
		{api.Frac{Num: most/2 - 1, Den: most - 1}, 0, 0},
		{api.Frac{Num: most - 1, Den: 2}, most/2 - 1, most / 2},
	} {
		n, e := ratio.Floor(c.a)
		wantInt(t, "Floor", c.a, "", n, c.floor, e, api.OK)
		n, e = ratio.Round(c.a)
		wantInt(t, "Round", c.a, "", n, c.round, e, api.OK)
	}
}

// undo reports what second makes of the result of first, unless one of them does not fit.
func undo(t *testing.T, name string, first, second func(a, b api.Frac) (api.Frac, api.Errno), a, b api.Frac) {
	t.Helper()
	between, e := first(a, b)
	if e != api.OK {
		return
	}
	got, e := second(between, b)
	wantFrac(t, name, a, b, got, a, e, api.OK)
}

// same reports two results that both fit, and differ.
func same(t *testing.T, name string, left, right []result) {
	t.Helper()
	a, b := left[len(left)-1], right[len(right)-1]
	for _, r := range append(left, right...) {
		if r.e != api.OK {
			return
		}
	}
	if a.a != b.a {
		t.Errorf("%s: %v and %v", name, left, right)
	}
}

// result is a result of an operation.
type result struct {
	a api.Frac
	e api.Errno
}

func resultOf(a api.Frac, e api.Errno) result { return result{a, e} }

// P3.6: sums and products are commutative, associative, and distributive; differences undo sums, and quotients products.
func TestOperationsHaveTheirLaws(t *testing.T) {
	r := newNumbers()
	for i := range rounds {
		length := 2 + i%9
		a, b, c := r.fracBelow(length), r.fracBelow(length), r.fracBelow(length)
		sum, product := resultOf(ratio.Add(a, b)), resultOf(ratio.Mul(a, b))
		same(t, "a + b", []result{sum}, []result{resultOf(ratio.Add(b, a))})
		same(t, "a b", []result{product}, []result{resultOf(ratio.Mul(b, a))})
		otherSum, otherProduct := resultOf(ratio.Add(b, c)), resultOf(ratio.Mul(b, c))
		same(t, "a + b + c",
			[]result{sum, resultOf(ratio.Add(sum.a, c))},
			[]result{otherSum, resultOf(ratio.Add(a, otherSum.a))})
		same(t, "a b c",
			[]result{product, resultOf(ratio.Mul(product.a, c))},
			[]result{otherProduct, resultOf(ratio.Mul(a, otherProduct.a))})
		third := resultOf(ratio.Mul(a, c))
		same(t, "a (b + c)",
			[]result{otherSum, resultOf(ratio.Mul(a, otherSum.a))},
			[]result{product, third, resultOf(ratio.Add(product.a, third.a))})
		undo(t, "a + b - b", ratio.Add, ratio.Sub, a, b)
		undo(t, "a - b + b", ratio.Sub, ratio.Add, a, b)
		if b.Num != 0 {
			undo(t, "a b / b", ratio.Mul, ratio.Div, a, b)
			undo(t, "a / b b", ratio.Div, ratio.Mul, a, b)
		}
	}
}

// P3.6: adding the same fraction, and multiplying by the same positive one, keep the order.
func TestOperationsKeepTheOrder(t *testing.T) {
	r := newNumbers()
	for i := range rounds {
		length := 2 + i%14
		a, b, c := r.fracBelow(length), r.fracBelow(length), r.fracBelow(length)
		order, _ := ratio.Cmp(a, b)
		for _, o := range operations {
			if o.name != "Add" && (o.name != "Mul" || c.Num <= 0) {
				continue
			}
			left, right := resultOf(o.apply(a, c)), resultOf(o.apply(b, c))
			if left.e != api.OK || right.e != api.OK {
				continue
			}
			sign, e := ratio.Cmp(left.a, right.a)
			wantInt(t, "Cmp after "+o.name, left, right, sign, order, e, api.OK)
		}
	}
}
