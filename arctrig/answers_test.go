package arctrig_test

import (
	"math/big"
	"sync"

	"almucantar/api"
)

// Angles with more digits are in units times 2^digits.
const digits = 192

func integer(n int) *big.Int         { return big.NewInt(int64(n)) }
func shifted(v *big.Int) *big.Int    { return new(big.Int).Lsh(v, digits) }
func product(a, b *big.Int) *big.Int { return new(big.Int).Mul(a, b) }

// arctangent is the one of y / x in radians, for y from 0 to x.
func arctangent(y, x *big.Int) *big.Int {
	const halvings = 8
	one := shifted(integer(1))
	v := new(big.Int).Quo(shifted(y), x)
	for range halvings {
		// The tangent of the half is v / (1 + sqrt(1 + v^2)).
		hypotenuse := new(big.Int).Add(product(one, one), product(v, v))
		hypotenuse.Sqrt(hypotenuse)
		v.Quo(shifted(v), hypotenuse.Add(hypotenuse, one))
	}
	sum, power := new(big.Int), v
	square := product(v, v)
	for k := 1; power.Sign() != 0; k += 2 {
		term := new(big.Int).Quo(power, integer(k))
		if k%4 == 3 {
			term.Neg(term)
		}
		sum.Add(sum, term)
		power = product(power, square)
		power.Rsh(power, 2*digits)
	}
	return sum.Lsh(sum, halvings)
}

var arctangentOfOne = sync.OnceValue(func() *big.Int { return arctangent(integer(1), integer(1)) })

// exactAngle is the one of a point in any quarter.
func exactAngle(x, y *big.Int) *big.Int {
	switch {
	case y.Sign() < 0:
		v := exactAngle(new(big.Int).Neg(x), new(big.Int).Neg(y))
		return v.Add(v, shifted(integer(half)))
	case x.Sign() < 0:
		v := exactAngle(new(big.Int).Neg(x), y)
		return v.Sub(shifted(integer(half)), v)
	case y.Cmp(x) > 0:
		v := exactAngle(y, x)
		return v.Sub(shifted(integer(quarter)), v)
	}
	v := product(arctangent(y, x), integer(quarter/2))
	return v.Quo(shifted(v), arctangentOfOne())
}

// down is an angle rounded down. One that is nearer than 2^-100 to an integer is taken for it: all others are farther away, the nearest ones by about 2^-61.
func down(v *big.Int) int {
	reach := new(big.Int).Lsh(integer(1), digits-100)
	v = new(big.Int).Add(v, reach)
	return int(v.Rsh(v, digits).Int64())
}

// up is an angle rounded up.
func up(v *big.Int) int { return -down(new(big.Int).Neg(v)) }

// exactArcsine is the one of v / One, for v from -One to One.
func exactArcsine(v int) *big.Int {
	if v < 0 {
		opposite := exactArcsine(-v)
		return opposite.Neg(opposite)
	}
	square := integer(one*one - v*v)
	return exactAngle(square.Sqrt(square.Lsh(square, 2*digits)), shifted(integer(v)))
}

// exactArchaversine is the angle whose haversine is v / One, for v from 0 to One: it is twice the one whose sine is the root of it.
func exactArchaversine(v int) *big.Int {
	sine, cosine := shifted(shifted(integer(v))), shifted(shifted(integer(one-v)))
	angle := exactAngle(cosine.Sqrt(cosine), sine.Sqrt(sine))
	return angle.Lsh(angle, 1)
}

// arcsineOf is the least arc of the arcsines of an interval that has numbers from -1 to 1.
func arcsineOf(a api.Fixed) api.Arc {
	return between(down(exactArcsine(max(a.Lo, -one))), up(exactArcsine(min(a.Hi, one))))
}

// arccosineOf is the least arc of the arccosines of such an interval.
func arccosineOf(a api.Fixed) api.Arc {
	right := shifted(integer(quarter))
	least := new(big.Int).Sub(right, exactArcsine(min(a.Hi, one)))
	greatest := new(big.Int).Sub(right, exactArcsine(max(a.Lo, -one)))
	return between(down(least), up(greatest))
}

// archaversineOf is the least arc of the angles whose haversines are in an interval that has numbers from 0 to 1.
func archaversineOf(a api.Fixed) api.Arc {
	return between(down(exactArchaversine(max(a.Lo, 0))), up(exactArchaversine(min(a.Hi, one))))
}

// directionsOf is the arc of the directions of a box: it begins with the corner from which the other ones are less than half a turn away, to greater angles, and ends with the farthest of them.
func directionsOf(y, x api.Fixed) api.Arc {
	if y.Lo <= 0 && y.Hi >= 0 && x.Lo <= 0 && x.Hi >= 0 {
		return between(0, turn)
	}
	var corners []*big.Int
	for _, corner := range [][2]int{{x.Lo, y.Lo}, {x.Lo, y.Hi}, {x.Hi, y.Lo}, {x.Hi, y.Hi}} {
		corners = append(corners, exactAngle(integer(corner[0]), integer(corner[1])))
	}
	for _, first := range corners {
		if width := farthest(first, corners); width.Cmp(shifted(integer(half))) < 0 {
			return between(down(first), up(width.Add(width, first)))
		}
	}
	panic("no corner is the first one")
}

// farthest is how far the farthest of some angles is from one, to greater angles.
func farthest(first *big.Int, all []*big.Int) *big.Int {
	width := new(big.Int)
	for _, v := range all {
		difference := new(big.Int).Sub(v, first)
		if difference.Sign() < 0 {
			difference.Add(difference, shifted(integer(turn)))
		}
		if difference.Cmp(width) > 0 {
			width = difference
		}
	}
	return width
}
