package digits

import (
	"math"
	"math/big"
	"math/rand/v2"
	"testing"

	"almucantar/api"
)

const behind = 192 // bits behind the point of the numbers with more digits

// pi has as many hexadecimal digits behind its point as behind is long.
const pi = "3243f6a8885a308d313198a2e03707344a4093822299f31d0"

// unit is one unit in radians.
func unit() *big.Int {
	v, _ := new(big.Int).SetString(pi, 16)
	return v.Quo(v, big.NewInt(api.HalfTurn))
}

// whole is the integer of both limbs: their number times 2^128.
func whole(l Limbs) *big.Int {
	v := new(big.Int).SetUint64(l[0])
	return v.Lsh(v, 64).Or(v, new(big.Int).SetUint64(l[1]))
}

// sineOf is the sum of x - x^3 / 3! + x^5 / 5! and so on.
func sineOf(n int) *big.Int {
	x := new(big.Int).Mul(unit(), big.NewInt(int64(n)))
	square := new(big.Int).Mul(x, x)
	term, sum := x, new(big.Int)
	for k := int64(2); term.Sign() != 0; k += 2 {
		sum.Add(sum, term)
		next := new(big.Int).Mul(term, square)
		next.Rsh(next.Abs(next), 2*behind).Quo(next, big.NewInt(k*(k+1)))
		if k%4 == 2 {
			next.Neg(next)
		}
		term = next
	}
	return sum
}

// What the series are made of has all of its digits.
func TestConstants(t *testing.T) {
	if want := new(big.Int).Rsh(unit(), behind-128); whole(radian).Cmp(want) != 0 {
		t.Errorf("the radian is %x; want %x", whole(radian), want)
	}
	if len(inverses) != Fine+2 {
		t.Errorf("there are %d inverses", len(inverses))
	}
	one := new(big.Int).Lsh(big.NewInt(1), 128)
	for i, got := range inverses {
		factorial := new(big.Int).MulRange(1, int64(i+2))
		if want := new(big.Int).Quo(one, factorial); whole(got).Cmp(want) != 0 {
			t.Errorf("1 / %d! is %x; want %x", i+2, got, want)
		}
	}
}

// A sine errs by as little as its degree says.
func TestSine(t *testing.T) {
	source := rand.New(rand.NewPCG(7, 128))
	angles := []int{1, 2, api.Quarter / 3, 2 * api.Quarter / 3, api.Quarter - 2, api.Quarter - 1}
	for i := range 20 {
		angles = append(angles, api.Quarter/2-10+i)
	}
	for range 3000 {
		angles = append(angles, 1+source.IntN(api.Quarter-1)>>source.IntN(22))
	}
	for _, n := range angles {
		want := sineOf(n)
		for degree, bits := range map[int]int{Coarse: 77, Fine: 106} {
			got := whole(Sine(n, degree))
			difference := got.Sub(got.Lsh(got, behind-128), want)
			if difference.BitLen() > behind-bits {
				t.Errorf("the sine of %d by the degree %d differs by %v", n, degree, difference)
			}
		}
	}
}

// A product loses nothing.
func TestTimes(t *testing.T) {
	source := rand.New(rand.NewPCG(7, 129))
	all := []Limbs{{}, {0, 1}, {0, math.MaxUint64}, {1, 0}, {math.MaxUint64, 0}, {math.MaxUint64, math.MaxUint64}}
	factors := []int{0, 1, 2, api.One, api.Two, math.MaxInt - 1, math.MaxInt}
	for range 1000 {
		all = append(all, Limbs{source.Uint64(), source.Uint64()})
		factors = append(factors, source.Int()>>source.IntN(63))
	}
	for i, l := range all {
		for _, n := range []int{factors[i], factors[0], factors[5], factors[6], factors[len(factors)-1-i]} {
			product := l.Times(n)
			got := whole(Limbs{product[0], product[1]})
			got.Lsh(got, 64).Or(got, new(big.Int).SetUint64(product[2]))
			if want := new(big.Int).Mul(whole(l), big.NewInt(int64(n))); got.Cmp(want) != 0 {
				t.Errorf("%x times %d is %x; want %x", l, n, got, want)
			}
		}
	}
}
