package wide_test

import (
	"math"
	"math/big"
	"math/rand/v2"
	"testing"

	"almucantar/api"
	"almucantar/wide"
)

const (
	base     = 1 << 60
	greatest = base - 1 // of Hi and of Lo
)

var (
	most   = api.Wide{Hi: greatest, Lo: greatest} // 2^120 - 1
	least  = api.Wide{Hi: -base, Lo: 0}           // -2^120
	maxInt = api.Wide{Hi: 7, Lo: greatest}        // 2^63 - 1
	minInt = api.Wide{Hi: -8, Lo: 0}              // -2^63
)

// invalid are wide integers with a Hi, a Lo, or both of them out of range.
var invalid = []api.Wide{
	{Hi: base}, {Hi: base, Lo: greatest}, {Hi: -base - 1}, {Hi: -base - 1, Lo: greatest}, {Hi: math.MaxInt}, {Hi: math.MinInt},
	{Lo: -1}, {Lo: base}, {Lo: math.MaxInt}, {Lo: math.MinInt},
	{Hi: greatest, Lo: base}, {Hi: greatest, Lo: -1}, {Hi: -base, Lo: base}, {Hi: -base, Lo: -1}, {Hi: -1, Lo: base}, {Hi: -1, Lo: -1},
	{Hi: base, Lo: base}, {Hi: -base - 1, Lo: -1}, {Hi: math.MinInt, Lo: math.MinInt}, {Hi: math.MaxInt, Lo: math.MaxInt},
}

// value is Hi * 2^60 + Lo.
func value(a api.Wide) *big.Int {
	v := new(big.Int).Lsh(big.NewInt(int64(a.Hi)), 60)
	return v.Add(v, big.NewInt(int64(a.Lo)))
}

// fromValue is the wide integer with a value, and whether it fits.
func fromValue(v *big.Int) (api.Wide, bool) {
	hi, lo := new(big.Int).DivMod(v, big.NewInt(base), new(big.Int))
	if hi.Cmp(big.NewInt(-base)) < 0 || hi.Cmp(big.NewInt(greatest)) > 0 {
		return api.Wide{}, false
	}
	return api.Wide{Hi: int(hi.Int64()), Lo: int(lo.Int64())}, true
}

// fitting is what a function with this exact result returns.
func fitting(v *big.Int) (api.Wide, api.Errno) {
	a, ok := fromValue(v)
	if !ok {
		return api.Wide{}, api.ErrBig
	}
	return a, api.OK
}

// fittingInt is what a function with this exact result returns, if that is an int.
func fittingInt(v *big.Int) (int, api.Errno) {
	if !v.IsInt64() {
		return 0, api.ErrBig
	}
	return int(v.Int64()), api.OK
}

// wides are the ends of the range, the ends of the ints, powers, numbers beside these, and their opposites.
func wides() []api.Wide {
	var list []api.Wide
	put := func(v *big.Int) {
		for _, x := range []*big.Int{v, new(big.Int).Neg(v)} {
			if a, ok := fromValue(x); ok {
				list = append(list, a)
			}
		}
	}
	for _, power := range []uint{0, 1, 3, 31, 57, 59, 60, 61, 62, 63, 64, 80, 119, 120} {
		for beside := int64(-2); beside <= 2; beside++ {
			v := new(big.Int).Lsh(big.NewInt(1), power)
			put(v.Add(v, big.NewInt(beside)))
		}
	}
	for _, power := range []int64{9, 18, 19, 27, 36} {
		v := new(big.Int).Exp(big.NewInt(10), big.NewInt(power), nil)
		put(new(big.Int).Sub(v, big.NewInt(1)))
		put(v)
	}
	return list
}

// ints are the ends of their range, powers of two, numbers beside these, and their opposites.
func ints() []int {
	list := []int{math.MaxInt, math.MaxInt - 1, math.MinInt, math.MinInt + 1, 7, 10, 12345678901, 1e18}
	for _, power := range []int{0, 1, 2, 30, 40, 56, 57, 58, 59, 60, 61, 62} {
		n := 1 << power
		list = append(list, n-1, n, n+1)
	}
	for _, n := range list {
		list = append(list, -n)
	}
	return list
}

// numbers makes wide integers and ints of all lengths, the same ones in each run.
type numbers struct{ source *rand.Rand }

func newNumbers() numbers { return numbers{rand.New(rand.NewPCG(2, 60))} }

func (r numbers) int() int { return int(r.source.Uint64()) >> r.source.IntN(64) }

func (r numbers) wide() api.Wide {
	high, low := int(r.source.Uint64())>>4, r.source.IntN(base)
	v := value(api.Wide{Hi: high, Lo: low})
	a, _ := fromValue(v.Rsh(v, uint(r.source.IntN(121))))
	return a
}

const rounds = 20000

func wantWide(t *testing.T, name string, a, b any, got, want api.Wide, e, wantErr api.Errno) {
	t.Helper()
	if got != want || e != wantErr {
		t.Errorf("%s(%v, %v) = %v, %d; want %v, %d", name, a, b, got, e, want, wantErr)
	}
}

func wantInt(t *testing.T, name string, a, b any, got, want int, e, wantErr api.Errno) {
	t.Helper()
	if got != want || e != wantErr {
		t.Errorf("%s(%v, %v) = %d, %d; want %d, %d", name, a, b, got, e, want, wantErr)
	}
}

// P2.1: Hi at -2^60 and 2^60 - 1 and one beyond, Lo at 0 and 2^60 - 1 and one beyond.
func TestValid(t *testing.T) {
	for _, hi := range []int{-base, -base + 1, -1, 0, 1, greatest - 1, greatest} {
		for _, lo := range []int{0, 1, greatest - 1, greatest} {
			if !wide.Valid(api.Wide{Hi: hi, Lo: lo}) {
				t.Errorf("Hi %d, Lo %d is not valid", hi, lo)
			}
		}
	}
	for _, a := range invalid {
		if wide.Valid(a) {
			t.Errorf("%v is valid", a)
		}
	}
}

// P2.1: the chapter's example, and the ends of the ints.
func TestOf(t *testing.T) {
	for _, c := range []struct {
		n    int
		want api.Wide
	}{
		{0, api.Wide{}},
		{1, api.Wide{Lo: 1}},
		{-1, api.Wide{Hi: -1, Lo: greatest}},
		{greatest, api.Wide{Lo: greatest}},
		{base, api.Wide{Hi: 1}},
		{-base, api.Wide{Hi: -1}},
		{-base - 1, api.Wide{Hi: -2, Lo: greatest}},
		{math.MaxInt, maxInt},
		{math.MinInt, minInt},
		{math.MinInt + 1, api.Wide{Hi: -8, Lo: 1}},
	} {
		if a := wide.Of(c.n); a != c.want {
			t.Errorf("Of(%d) = %v; want %v", c.n, a, c.want)
		}
	}
	for _, n := range ints() {
		a := wide.Of(n)
		if !wide.Valid(a) || value(a).Cmp(big.NewInt(int64(n))) != 0 {
			t.Errorf("Of(%d) = %v", n, a)
		}
	}
}

// P2.1: the least and the greatest int, and their neighbours.
func TestIntOfEnds(t *testing.T) {
	for _, c := range []struct {
		a    api.Wide
		want int
		e    api.Errno
	}{
		{maxInt, math.MaxInt, api.OK},
		{api.Wide{Hi: 7, Lo: greatest - 1}, math.MaxInt - 1, api.OK},
		{api.Wide{Hi: 8}, 0, api.ErrBig},
		{minInt, math.MinInt, api.OK},
		{api.Wide{Hi: -8, Lo: 1}, math.MinInt + 1, api.OK},
		{api.Wide{Hi: -9, Lo: greatest}, 0, api.ErrBig},
		{api.Wide{Hi: 16}, 0, api.ErrBig},
		{api.Wide{Hi: -16}, 0, api.ErrBig},
		{most, 0, api.ErrBig},
		{least, 0, api.ErrBig},
	} {
		n, e := wide.Int(c.a)
		wantInt(t, "Int", c.a, "", n, c.want, e, c.e)
	}
}

// P2.1: the value, or ErrBig; ErrArg comes first.
func TestIntIsTheValue(t *testing.T) {
	for _, a := range wides() {
		n, e := wide.Int(a)
		want, wantErr := fittingInt(value(a))
		wantInt(t, "Int", a, "", n, want, e, wantErr)
	}
	for _, n := range ints() {
		again, e := wide.Int(wide.Of(n))
		wantInt(t, "Int", wide.Of(n), "", again, n, e, api.OK)
	}
	for _, a := range invalid {
		n, e := wide.Int(a)
		wantInt(t, "Int", a, "", n, 0, e, api.ErrArg)
	}
}

// P2.2: sums and differences at -2^120 and 2^120 - 1, and one beyond.
func TestSumsAtTheEnds(t *testing.T) {
	one, zero, opposite := wide.Of(1), wide.Of(0), wide.Of(-1)
	half, nextToLeast := api.Wide{Hi: base / 2}, api.Wide{Hi: -base, Lo: 1}
	for _, c := range []struct {
		name      string
		operation func(a, b api.Wide) (api.Wide, api.Errno)
		a, b      api.Wide
		want      api.Wide
		e         api.Errno
	}{
		{"Add", wide.Add, most, zero, most, api.OK},
		{"Add", wide.Add, most, one, zero, api.ErrBig},
		{"Add", wide.Add, most, opposite, api.Wide{Hi: greatest, Lo: greatest - 1}, api.OK},
		{"Add", wide.Add, least, zero, least, api.OK},
		{"Add", wide.Add, least, opposite, zero, api.ErrBig},
		{"Add", wide.Add, least, one, nextToLeast, api.OK},
		{"Add", wide.Add, most, least, opposite, api.OK},
		{"Add", wide.Add, half, half, zero, api.ErrBig},
		{"Add", wide.Add, half, api.Wide{Hi: base/2 - 1, Lo: greatest}, most, api.OK},
		{"Add", wide.Add, api.Wide{Lo: greatest}, one, api.Wide{Hi: 1}, api.OK},
		{"Add", wide.Add, most, most, zero, api.ErrBig},
		{"Add", wide.Add, least, least, zero, api.ErrBig},
		{"Sub", wide.Sub, most, opposite, zero, api.ErrBig},
		{"Sub", wide.Sub, least, one, zero, api.ErrBig},
		{"Sub", wide.Sub, zero, least, zero, api.ErrBig},
		{"Sub", wide.Sub, opposite, least, most, api.OK},
		{"Sub", wide.Sub, zero, most, nextToLeast, api.OK},
		{"Sub", wide.Sub, opposite, most, least, api.OK},
		{"Sub", wide.Sub, wide.Of(-2), most, zero, api.ErrBig},
		{"Sub", wide.Sub, zero, one, opposite, api.OK},
		{"Sub", wide.Sub, least, least, zero, api.OK},
		{"Sub", wide.Sub, most, least, zero, api.ErrBig},
		{"Sub", wide.Sub, least, most, zero, api.ErrBig},
	} {
		got, e := c.operation(c.a, c.b)
		wantWide(t, c.name, c.a, c.b, got, c.want, e, c.e)
	}
}

// checkPair compares sums, differences, and the order with exact ones. P2.6: sums are commutative, and undone by differences.
func checkPair(t *testing.T, a, b api.Wide) {
	t.Helper()
	sum, e := wide.Add(a, b)
	want, wantErr := fitting(new(big.Int).Add(value(a), value(b)))
	wantWide(t, "Add", a, b, sum, want, e, wantErr)
	other, otherErr := wide.Add(b, a)
	wantWide(t, "Add", b, a, other, sum, otherErr, e)
	if e == api.OK {
		back, e := wide.Sub(sum, b)
		wantWide(t, "Sub", sum, b, back, a, e, api.OK)
	}
	difference, e := wide.Sub(a, b)
	want, wantErr = fitting(new(big.Int).Sub(value(a), value(b)))
	wantWide(t, "Sub", a, b, difference, want, e, wantErr)
	order, e := wide.Cmp(a, b)
	wantInt(t, "Cmp", a, b, order, value(a).Cmp(value(b)), e, api.OK)
}

// P2.2, P2.3, P2.6.
func TestSumsAndOrderAreExact(t *testing.T) {
	for _, a := range wides() {
		for _, b := range wides() {
			checkPair(t, a, b)
		}
	}
	r := newNumbers()
	for range rounds {
		checkPair(t, r.wide(), r.wide())
	}
}

// P2.3: halves that differ in opposite ways, and negative numbers.
func TestCmpExamples(t *testing.T) {
	for _, c := range []struct {
		a, b api.Wide
		want int
	}{
		{wide.Of(0), wide.Of(0), 0},
		{wide.Of(-1), wide.Of(0), -1},
		{wide.Of(0), wide.Of(-1), 1},
		{wide.Of(-2), wide.Of(-1), -1},
		{api.Wide{Hi: 1}, api.Wide{Lo: greatest}, 1},
		{api.Wide{Lo: greatest}, api.Wide{Hi: 1}, -1},
		{api.Wide{Hi: -1, Lo: 5}, api.Wide{Hi: -1, Lo: 4}, 1},
		{least, most, -1},
		{most, least, 1},
		{least, least, 0},
		{most, most, 0},
	} {
		order, e := wide.Cmp(c.a, c.b)
		wantInt(t, "Cmp", c.a, c.b, order, c.want, e, api.OK)
	}
}

// P2.2, P2.3: each argument that is not valid is ErrArg, which comes before ErrBig.
func TestPairsRejectInvalidArguments(t *testing.T) {
	check := func(a, b api.Wide) {
		sum, e := wide.Add(a, b)
		wantWide(t, "Add", a, b, sum, api.Wide{}, e, api.ErrArg)
		difference, e := wide.Sub(a, b)
		wantWide(t, "Sub", a, b, difference, api.Wide{}, e, api.ErrArg)
		order, e := wide.Cmp(a, b)
		wantInt(t, "Cmp", a, b, order, 0, e, api.ErrArg)
	}
	for _, a := range invalid {
		for _, b := range wides() {
			check(a, b)
			check(b, a)
		}
		for _, b := range invalid {
			check(a, b)
		}
	}
}

// P2.2: the chapter's example, and products at -2^120 and 2^120 - 1 and one beyond.
func TestProductExamples(t *testing.T) {
	for _, c := range []struct {
		a, b int
		want api.Wide
		e    api.Errno
	}{
		{1 << 40, -1 << 40, api.Wide{Hi: -1 << 20}, api.OK},
		{-1, 1, api.Wide{Hi: -1, Lo: greatest}, api.OK},
		{-1, -1, api.Wide{Lo: 1}, api.OK},
		{0, math.MinInt, api.Wide{}, api.OK},
		{-5, 0, api.Wide{}, api.OK},
		{1, math.MinInt, minInt, api.OK},
		{-1, math.MinInt, api.Wide{Hi: 8}, api.OK},
		{-1, math.MaxInt, api.Wide{Hi: -8, Lo: 1}, api.OK},
		{base, base, api.Wide{}, api.ErrBig},
		{-base, base, least, api.OK},
		{base, -base, least, api.OK},
		{-base, -base, api.Wide{}, api.ErrBig},
		{greatest, base + 1, most, api.OK},
		{-greatest, -base - 1, most, api.OK},
		{-greatest, base + 1, api.Wide{Hi: -base, Lo: 1}, api.OK},
		{math.MinInt, 1 << 57, least, api.OK},
		{math.MinInt, -1 << 57, api.Wide{}, api.ErrBig},
		{math.MinInt, 1<<57 + 1, api.Wide{}, api.ErrBig},
		// The product of these factors is 2^120 + 1.
		{786997919604172097, -1688985399673563841, api.Wide{}, api.ErrBig},
		{-786997919604172097, 1688985399673563841, api.Wide{}, api.ErrBig},
		{786997919604172097, 1688985399673563841, api.Wide{}, api.ErrBig},
		{math.MinInt, math.MinInt, api.Wide{}, api.ErrBig},
		{math.MinInt, math.MaxInt, api.Wide{}, api.ErrBig},
		{math.MaxInt, math.MaxInt, api.Wide{}, api.ErrBig},
	} {
		a, e := wide.Product(c.a, c.b)
		wantWide(t, "Product", c.a, c.b, a, c.want, e, c.e)
	}
}

// checkInts compares a product with the exact one. P2.6: divided by one of its factors, it is the other one.
func checkInts(t *testing.T, a, b int) {
	t.Helper()
	product, e := wide.Product(a, b)
	want, wantErr := fitting(new(big.Int).Mul(big.NewInt(int64(a)), big.NewInt(int64(b))))
	wantWide(t, "Product", a, b, product, want, e, wantErr)
	if e != api.OK || b == 0 {
		return
	}
	down, e := wide.Floor(product, b)
	wantInt(t, "Floor", product, b, down, a, e, api.OK)
	up, e := wide.Ceil(product, b)
	wantInt(t, "Ceil", product, b, up, a, e, api.OK)
}

// P2.2, P2.6.
func TestProductIsExact(t *testing.T) {
	for _, a := range ints() {
		for _, b := range ints() {
			checkInts(t, a, b)
		}
	}
	r := newNumbers()
	for range rounds {
		checkInts(t, r.int(), r.int())
	}
}

// P2.4: the chapter's examples, negative numbers, and the least int as dividend, divisor, and quotient.
func TestQuotientExamples(t *testing.T) {
	small, big := wide.Of, func(hi, lo int) api.Wide { return api.Wide{Hi: hi, Lo: lo} }
	for _, c := range []struct {
		a        api.Wide
		b        int
		floor    int
		floorErr api.Errno
		ceil     int
		ceilErr  api.Errno
	}{
		{small(-7), 2, -4, api.OK, -3, api.OK},
		{small(7), -2, -4, api.OK, -3, api.OK},
		{small(-7), -2, 3, api.OK, 4, api.OK},
		{small(7), 2, 3, api.OK, 4, api.OK},
		{small(-8), 2, -4, api.OK, -4, api.OK},
		{small(-8), -2, 4, api.OK, 4, api.OK},
		{small(8), -2, -4, api.OK, -4, api.OK},
		{small(1), -3, -1, api.OK, 0, api.OK},
		{small(-1), -3, 0, api.OK, 1, api.OK},
		{small(0), -3, 0, api.OK, 0, api.OK},
		{small(0), math.MinInt, 0, api.OK, 0, api.OK},
		{small(1), math.MinInt, -1, api.OK, 0, api.OK},
		{small(-1), math.MinInt, 0, api.OK, 1, api.OK},
		{minInt, 1, math.MinInt, api.OK, math.MinInt, api.OK},
		{minInt, -1, 0, api.ErrBig, 0, api.ErrBig},
		{minInt, math.MinInt, 1, api.OK, 1, api.OK},
		{minInt, math.MaxInt, -2, api.OK, -1, api.OK},
		{maxInt, math.MinInt, -1, api.OK, 0, api.OK},
		{maxInt, 1, math.MaxInt, api.OK, math.MaxInt, api.OK},
		{maxInt, -1, math.MinInt + 1, api.OK, math.MinInt + 1, api.OK},
		// 2^64 and its neighbours by 2 and -2: the quotients are 2^63 and -2^63 and beside them.
		{big(16, 0), 2, 0, api.ErrBig, 0, api.ErrBig},
		{big(16, 0), -2, math.MinInt, api.OK, math.MinInt, api.OK},
		{big(16, 1), -2, 0, api.ErrBig, math.MinInt, api.OK},
		{big(15, greatest), 2, math.MaxInt, api.OK, 0, api.ErrBig},
		{big(15, greatest), -2, math.MinInt, api.OK, math.MinInt + 1, api.OK},
		{big(-16, 0), 2, math.MinInt, api.OK, math.MinInt, api.OK},
		{big(-16, 0), -2, 0, api.ErrBig, 0, api.ErrBig},
		{big(-17, greatest), 2, 0, api.ErrBig, math.MinInt, api.OK},
		{big(-16, 1), 2, math.MinInt, api.OK, math.MinInt + 1, api.OK},
		{big(-16, 1), -2, math.MaxInt, api.OK, 0, api.ErrBig},
		// 2^65 - 1 by 2: the quotient rounded towards 0 is the greatest uint64.
		{big(31, greatest), 2, 0, api.ErrBig, 0, api.ErrBig},
		{big(31, greatest), -2, 0, api.ErrBig, 0, api.ErrBig},
		{big(-32, 1), 2, 0, api.ErrBig, 0, api.ErrBig},
		{most, 1, 0, api.ErrBig, 0, api.ErrBig},
		{least, -1, 0, api.ErrBig, 0, api.ErrBig},
		{least, math.MinInt, 1 << 57, api.OK, 1 << 57, api.OK},
		{most, math.MinInt, -1 << 57, api.OK, 1 - 1<<57, api.OK},
		{least, 1 << 57, math.MinInt, api.OK, math.MinInt, api.OK},
		{least, -1 << 57, 0, api.ErrBig, 0, api.ErrBig},
		{most, 1 << 57, math.MaxInt, api.OK, 0, api.ErrBig},
		{most, -1 << 57, math.MinInt, api.OK, math.MinInt + 1, api.OK},
	} {
		down, e := wide.Floor(c.a, c.b)
		wantInt(t, "Floor", c.a, c.b, down, c.floor, e, c.floorErr)
		up, e := wide.Ceil(c.a, c.b)
		wantInt(t, "Ceil", c.a, c.b, up, c.ceil, e, c.ceilErr)
	}
}

// exactQuotients rounds down and up. DivMod's rest is not negative, so that its quotient is rounded down for positive divisors only.
func exactQuotients(a api.Wide, b int) (down, up *big.Int) {
	dividend, divisor := value(a), big.NewInt(int64(b))
	if b < 0 {
		dividend, divisor = dividend.Neg(dividend), divisor.Neg(divisor)
	}
	down, rest := new(big.Int).DivMod(dividend, divisor, new(big.Int))
	up = new(big.Int).Set(down)
	if rest.Sign() > 0 {
		up.Add(up, big.NewInt(1))
	}
	return down, up
}

// checkQuotient compares quotients with exact ones. P2.6: they enclose the fraction, and the rounding up is minus the rounding down of the opposite.
func checkQuotient(t *testing.T, a api.Wide, b int) {
	t.Helper()
	exactDown, exactUp := exactQuotients(a, b)
	down, downErr := wide.Floor(a, b)
	want, wantErr := fittingInt(exactDown)
	wantInt(t, "Floor", a, b, down, want, downErr, wantErr)
	up, upErr := wide.Ceil(a, b)
	want, wantErr = fittingInt(exactUp)
	wantInt(t, "Ceil", a, b, up, want, upErr, wantErr)
	if downErr == api.OK && b > 0 {
		product := new(big.Int).Mul(big.NewInt(int64(down)), big.NewInt(int64(b)))
		rest := new(big.Int).Sub(value(a), product)
		if rest.Sign() < 0 || rest.Cmp(big.NewInt(int64(b))) >= 0 {
			t.Errorf("Floor(%v, %d) = %d leaves %v", a, b, down, rest)
		}
	}
	opposite, e := wide.Sub(wide.Of(0), a)
	if e != api.OK || upErr != api.OK {
		return
	}
	down, downErr = wide.Floor(opposite, b)
	if up == math.MinInt {
		wantInt(t, "Floor", opposite, b, down, 0, downErr, api.ErrBig)
		return
	}
	wantInt(t, "Floor", opposite, b, down, -up, downErr, api.OK)
}

// P2.4, P2.6.
func TestQuotientsAreExact(t *testing.T) {
	for _, a := range wides() {
		for _, b := range ints() {
			if b != 0 {
				checkQuotient(t, a, b)
			}
		}
	}
	r := newNumbers()
	for range rounds {
		if b := r.int(); b != 0 {
			checkQuotient(t, r.wide(), b)
		}
	}
}

// P2.4: dividends beside exact products, of which the quotients are beside the ends of the ints, too.
func TestQuotientsBesideProducts(t *testing.T) {
	r := newNumbers()
	for _, n := range append(ints(), r.int(), r.int(), r.int(), r.int()) {
		for _, b := range ints() {
			product := new(big.Int).Mul(big.NewInt(int64(n)), big.NewInt(int64(b)))
			for beside := int64(-1); beside <= 1; beside++ {
				a, ok := fromValue(new(big.Int).Add(product, big.NewInt(beside)))
				if ok && b != 0 {
					checkQuotient(t, a, b)
				}
			}
		}
	}
}

// P2.4: ErrArg comes before ErrZero, and this before ErrBig.
func TestQuotientsReject(t *testing.T) {
	check := func(a api.Wide, b int, want api.Errno) {
		down, e := wide.Floor(a, b)
		wantInt(t, "Floor", a, b, down, 0, e, want)
		up, e := wide.Ceil(a, b)
		wantInt(t, "Ceil", a, b, up, 0, e, want)
	}
	for _, a := range invalid {
		for _, b := range append(ints(), 0) {
			check(a, b, api.ErrArg)
		}
	}
	for _, a := range wides() {
		check(a, 0, api.ErrZero)
	}
}

// P2.5: the chapter's example, 0, and the greatest wide integer.
func TestRootExamples(t *testing.T) {
	for _, c := range []struct {
		a    api.Wide
		want int
	}{
		{wide.Of(0), 0},
		{wide.Of(1), 1},
		{wide.Of(2), 1},
		{wide.Of(3), 1},
		{wide.Of(4), 2},
		{wide.Of(8), 2},
		{wide.Of(9), 3},
		{api.Wide{Hi: 1 << 21}, 1554944255987},
		{api.Wide{Hi: 1}, 1 << 30},
		{api.Wide{Lo: greatest}, 1<<30 - 1},
		{maxInt, 3037000499},
		{api.Wide{Hi: 16}, 1 << 32},
		{api.Wide{Hi: 15, Lo: greatest}, 1<<32 - 1},
		{most, greatest},
		{api.Wide{Hi: greatest - 1, Lo: 1}, greatest}, // the square of 2^60 - 1
		{api.Wide{Hi: greatest - 1, Lo: 0}, greatest - 1},
	} {
		n, e := wide.Root(c.a)
		wantInt(t, "Root", c.a, "", n, c.want, e, api.OK)
	}
}

// checkRoot compares a root with the exact one. P2.6: its square is at most the number, that of the next integer greater.
func checkRoot(t *testing.T, a api.Wide) {
	t.Helper()
	v := value(a)
	n, e := wide.Root(a)
	wantInt(t, "Root", a, "", n, int(new(big.Int).Sqrt(v).Int64()), e, api.OK)
	root, next := big.NewInt(int64(n)), big.NewInt(int64(n)+1)
	if n < 0 || root.Mul(root, root).Cmp(v) > 0 || next.Mul(next, next).Cmp(v) <= 0 {
		t.Errorf("Root(%v) = %d", a, n)
	}
}

// P2.5, P2.6: squares, and one less and one more than squares.
func TestRootsBesideSquares(t *testing.T) {
	r := newNumbers()
	list := ints()
	for range rounds {
		list = append(list, r.int())
	}
	for _, n := range list {
		square := new(big.Int).Mul(big.NewInt(int64(n)), big.NewInt(int64(n)))
		for beside := int64(-1); beside <= 1; beside++ {
			a, ok := fromValue(new(big.Int).Add(square, big.NewInt(beside)))
			if ok && a.Hi >= 0 {
				checkRoot(t, a)
			}
		}
	}
}

// P2.5, P2.6: all small numbers, powers and their neighbours, and any others; ErrRange for negative ones.
func TestRootsAreExact(t *testing.T) {
	r := newNumbers()
	list := wides()
	for n := range 5000 {
		list = append(list, wide.Of(n), r.wide())
	}
	for _, a := range list {
		if a.Hi >= 0 {
			checkRoot(t, a)
			continue
		}
		n, e := wide.Root(a)
		wantInt(t, "Root", a, "", n, 0, e, api.ErrRange)
	}
}

// P2.5: ErrArg comes before ErrRange.
func TestRootRejectsInvalidArguments(t *testing.T) {
	for _, a := range invalid {
		n, e := wide.Root(a)
		wantInt(t, "Root", a, "", n, 0, e, api.ErrArg)
	}
}

func wantText(t *testing.T, a api.Wide, want string, wantErr api.Errno) {
	t.Helper()
	if s, e := wide.Text(a); s != want || e != wantErr {
		t.Errorf("Text(%v) = %q, %d; want %q, %d", a, s, e, want, wantErr)
	}
}

// P2.5: 0, negative numbers, zeros within, and the least and the greatest wide integer.
func TestTextExamples(t *testing.T) {
	for _, c := range []struct {
		a    api.Wide
		want string
	}{
		{wide.Of(0), "0"},
		{wide.Of(7), "7"},
		{wide.Of(-7), "-7"},
		{wide.Of(-10), "-10"},
		{wide.Of(1e18 - 1), "999999999999999999"},
		{wide.Of(1e18), "1000000000000000000"},
		{wide.Of(-1e18 - 1), "-1000000000000000001"},
		{maxInt, "9223372036854775807"},
		{minInt, "-9223372036854775808"},
		{api.Wide{Hi: -1}, "-1152921504606846976"},
		{api.Wide{Hi: 1 << 20}, "1208925819614629174706176"},
		{most, "1329227995784915872903807060280344575"},
		{least, "-1329227995784915872903807060280344576"},
	} {
		wantText(t, c.a, c.want, api.OK)
	}
}

// P2.5: the decimal text of the value; ErrArg for others.
func TestTextIsTheValue(t *testing.T) {
	list, r := wides(), newNumbers()
	for range rounds {
		list = append(list, r.wide())
	}
	for _, a := range list {
		wantText(t, a, value(a).String(), api.OK)
	}
	for _, a := range invalid {
		wantText(t, a, "", api.ErrArg)
	}
}
