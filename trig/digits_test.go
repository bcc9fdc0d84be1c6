package trig_test

import (
	"math/big"
	"sync"
	"testing"

	"almucantar/api"
)

const (
	quarter = api.Quarter
	half    = api.HalfTurn
	turn    = api.Turn
	most    = api.MaxArc

	digits = 192 // bits behind the point of the numbers with more digits
)

// number is n / den with more digits.
func number(n, den int64) *big.Int {
	v := new(big.Int).Lsh(big.NewInt(n), digits)
	return v.Quo(v, big.NewInt(den))
}

func product(a, b *big.Int) *big.Int {
	v := new(big.Int).Mul(a, b)
	return v.Rsh(v, digits)
}

// arctangent is the one of 1 / n.
func arctangent(n int64) *big.Int {
	power, sum := number(1, n), new(big.Int)
	for k := int64(1); power.Sign() != 0; k += 2 {
		term := new(big.Int).Quo(power, big.NewInt(k))
		if k%4 == 3 {
			term.Neg(term)
		}
		sum.Add(sum, term)
		power.Quo(power, big.NewInt(n*n))
	}
	return sum
}

// unit is one unit in radians, by Machin's formula for a quarter of pi.
func unit() *big.Int {
	v := new(big.Int).Lsh(arctangent(5), 2)
	v.Sub(v, arctangent(239))
	return v.Quo(v, big.NewInt(quarter/2))
}

// powers is the sum of x^k / k! with changing signs, for the even k or for the odd ones.
func powers(x *big.Int, first int64) *big.Int {
	term, sum := number(1, 1), new(big.Int)
	for k := int64(1); term.Sign() != 0; k++ {
		if (k-1)%4 == first {
			sum.Add(sum, term)
		}
		if (k-1)%4 == first+2 {
			sum.Sub(sum, term)
		}
		term = product(term, x)
		term.Quo(term, big.NewInt(k))
	}
	return sum
}

// known are, of all angles from 0 to a quarter of a turn and to half a turn, One times the sine and the haversine, rounded down, added to the same rounded up.
type known struct{ sines, haversines []uint32 }

// rounded is One times a number, rounded down, added to the same rounded up. A number that is nearer than 2^-23 to an integer is taken for it, which is true only of integers (TestAnswers).
func rounded(v *big.Int) uint32 {
	bits := uint(digits - 30)
	down := new(big.Int).Rsh(v, bits)
	rest := new(big.Int).Sub(v, new(big.Int).Lsh(down, bits))
	reach := new(big.Int).Lsh(big.NewInt(1), bits-23)
	if rest.Cmp(reach) < 0 {
		return uint32(2 * down.Uint64())
	}
	if rest.Add(rest, reach).BitLen() > int(bits) {
		return uint32(2*down.Uint64() + 2)
	}
	return uint32(2*down.Uint64() + 1)
}

// answers turns a vector unit by unit through half of a right angle. It is wrong by some units of its last bit a step.
var answers = sync.OnceValue(func() known {
	k := known{make([]uint32, quarter+1), make([]uint32, half+1)}
	x := unit()
	stepSine, stepCosine := powers(x, 1), powers(x, 0)
	sine, cosine := new(big.Int), number(1, 1)
	one := number(1, 1)
	put := func(n int, v *big.Int) { k.haversines[n] = rounded(v.Rsh(v, 1)) }
	for n := 0; n <= quarter/2; n++ {
		k.sines[n], k.sines[quarter-n] = rounded(sine), rounded(cosine)
		put(n, new(big.Int).Sub(one, cosine))
		put(quarter-n, new(big.Int).Sub(one, sine))
		put(quarter+n, new(big.Int).Add(one, sine))
		put(half-n, new(big.Int).Add(one, cosine))
		sine, cosine = turned(sine, cosine, stepSine, stepCosine)
	}
	return k
})

// turned has the sine and the cosine of a sum.
func turned(sine, cosine, stepSine, stepCosine *big.Int) (*big.Int, *big.Int) {
	up := new(big.Int).Mul(sine, stepCosine)
	up.Add(up, new(big.Int).Mul(cosine, stepSine))
	across := new(big.Int).Mul(cosine, stepCosine)
	across.Sub(across, new(big.Int).Mul(sine, stepSine))
	return up.Rsh(up, digits), across.Rsh(across, digits)
}

// direction is the angle from 0 to Turn - 1 that differs by whole turns.
func direction(n int) int { return (n%turn + turn) % turn }

// sineOf is the least enclosure of the sine of any angle.
func sineOf(n int) api.Fixed {
	v := direction(n)
	opposite := v > half
	if opposite {
		v = turn - v
	}
	twice := int(answers().sines[min(v, half-v)])
	if opposite {
		return api.Fixed{Lo: -((twice + 1) / 2), Hi: -(twice / 2)}
	}
	return api.Fixed{Lo: twice / 2, Hi: (twice + 1) / 2}
}

// cosineOf is the least enclosure of the cosine of an angle.
func cosineOf(n int) api.Fixed { return sineOf(n + quarter) }

// haversineOf is the least enclosure of the haversine of an angle.
func haversineOf(n int) api.Fixed {
	v := direction(n)
	twice := int(answers().haversines[min(v, turn-v)])
	return api.Fixed{Lo: twice / 2, Hi: (twice + 1) / 2}
}

// The answers with more digits are right: sines of 30, 45 and 90 degrees are known, and only the rational ones are within 2^-23 of an integer, so that for all others what is wrong does not count.
func TestAnswers(t *testing.T) {
	x := unit()
	for n, want := range map[int64]*big.Int{
		quarter / 3: number(1, 2),
		quarter / 2: new(big.Int).Sqrt(new(big.Int).Lsh(big.NewInt(1), 2*digits-1)),
		quarter:     number(1, 1),
	} {
		sine := powers(new(big.Int).Mul(x, big.NewInt(n)), 1)
		if difference := sine.Sub(sine, want); difference.CmpAbs(big.NewInt(1<<32)) > 0 {
			t.Errorf("the sine of %d differs by %v", n, difference)
		}
	}
	k := answers()
	for n, twice := range k.sines {
		if exact := n == 0 || n == quarter/3 || n == quarter; exact != (twice%2 == 0) {
			t.Errorf("the sine of %d: %d", n, twice)
		}
	}
	for n, twice := range k.haversines {
		if exact := n%(quarter/3*2) == 0 || n == quarter; exact != (twice%2 == 0) {
			t.Errorf("the haversine of %d: %d", n, twice)
		}
	}
}

// checkAngle compares all functions of one angle with more digits. P6.3: no enclosure has a width of more than 1.
func checkAngle(t *testing.T, n int) {
	want := sineOf(n)
	sin.want(t, only(n), want)
	cos.want(t, only(n), cosineOf(n))
	hav.want(t, only(n), haversineOf(n))
	checkBelow(t, n)
}

// checkBelow compares an angle's sine with the numbers beside it.
func checkBelow(t *testing.T, n int) {
	enclosure := sineOf(n)
	wantBelow(t, n, enclosure.Lo-1, 1)
	wantBelow(t, n, enclosure.Lo, enclosure.Hi-enclosure.Lo)
	wantBelow(t, n, enclosure.Hi, enclosure.Lo-enclosure.Hi)
	wantBelow(t, n, enclosure.Hi+1, -1)
}

// P6.1, P6.2, P6.3: all angles of a quarter.
func TestAllAnglesOfAQuarter(t *testing.T) {
	const workers = 8
	var group sync.WaitGroup
	for first := range workers {
		group.Go(func() {
			for n := first; n <= quarter && !t.Failed(); n += workers {
				checkAngle(t, n)
			}
		})
	}
	group.Wait()
}
