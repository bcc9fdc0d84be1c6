// Package digits has sines with more digits than layer 6 returns, for the layers that decide by them how a number is rounded.
package digits

import (
	"math/bits"

	"almucantar/api"
)

// Limbs is the number l[0] / 2^64 + l[1] / 2^128, which is less than 1.
type Limbs [2]uint64

// Degrees of the polynomial that a series is cut off to.
const (
	Coarse = 18 // the sine errs by less than 2^-77
	Fine   = 26 // the sine errs by less than 2^-106
)

// radian is a unit in radians, which is pi / HalfTurn, rounded down.
var radian = Limbs{0x000004e15af7c274, 0x63257af9836d967a}

// inverses are 1 / 2!, 1 / 3!, and so on to 1 / 29!, rounded down.
var inverses = [...]Limbs{
	{0x8000000000000000, 0x0000000000000000},
	{0x2aaaaaaaaaaaaaaa, 0xaaaaaaaaaaaaaaaa},
	{0x0aaaaaaaaaaaaaaa, 0xaaaaaaaaaaaaaaaa},
	{0x0222222222222222, 0x2222222222222222},
	{0x005b05b05b05b05b, 0x05b05b05b05b05b0},
	{0x000d00d00d00d00d, 0x00d00d00d00d00d0},
	{0x0001a01a01a01a01, 0xa01a01a01a01a01a},
	{0x00002e3bc74aad8e, 0x671f5583911ca002},
	{0x0000049f93edde27, 0xd71cbbc05b4fa999},
	{0x0000006b99159fd5, 0x138e3f9d1f92e0df},
	{0x00000008f76c77fc, 0x6c4bdaa26d4c3d67},
	{0x00000000b092309d, 0x43684be51c198e91},
	{0x000000000c9cba54, 0x603e4e905d6f8a2e},
	{0x0000000000d73f9f, 0x399dc0f88ec32b58},
	{0x00000000000d73f9, 0xf399dc0f88ec32b5},
	{0x000000000000ca96, 0x3b81856a53593028},
	{0x0000000000000b41, 0x3c31dcbecbbdd802},
	{0x0000000000000097, 0xa4da340a0ab92650},
	{0x0000000000000007, 0x950ae900808941ea},
	{0x0000000000000000, 0x5c6e3bdb73d5c62f},
	{0x0000000000000000, 0x04338e5b6dfe14a5},
	{0x0000000000000000, 0x002ec368262c7033},
	{0x0000000000000000, 0x0001f2cf01972f57},
	{0x0000000000000000, 0x000013f3ccdd165f},
	{0x0000000000000000, 0x000000c4742fe352},
	{0x0000000000000000, 0x0000000746ac70b7},
	{0x0000000000000000, 0x0000000042862898},
	{0x0000000000000000, 0x00000000024b3f31},
}

// Sine returns the sine of an angle of more than 0 and less than a right angle, by a series of a degree.
func Sine(n, degree int) Limbs {
	if n > api.Quarter/2 {
		x := radians(api.Quarter - n)
		square := times(x, x)
		// The difference from 1 is the one from 0, since the 1 would be a limb that there is not.
		return minus(Limbs{}, times(square, series(2, degree, square)))
	}
	x := radians(n)
	square := times(x, x)
	return minus(x, times(x, times(square, series(3, degree, square))))
}

// Times returns the product with n, which is not negative, whole: p[0] + p[1] / 2^64 + p[2] / 2^128.
func (l Limbs) Times(n int) (p [3]uint64) {
	between, low := bits.Mul64(l[1], uint64(n))
	high, middle := bits.Mul64(l[0], uint64(n))
	middle, carry := bits.Add64(middle, between, 0)
	return [3]uint64{high + carry, middle, low}
}

// series returns 1 / k! - square / (k+2)! + square^2 / (k+4)! and so on, for k = 2 or 3 and a square of less than 1.
func series(k, degree int, square Limbs) Limbs {
	first := k - 2
	sum := inverses[first+degree]
	for i := first + degree - 2; i >= first; i -= 2 {
		sum = minus(inverses[i], times(square, sum))
	}
	return sum
}

// radians converts an angle of at most half a right angle.
func radians(n int) Limbs {
	carry, low := bits.Mul64(radian[1], uint64(n))
	return Limbs{radian[0]*uint64(n) + carry, low}
}

// minus returns a - b, or 1 + a - b if this is negative.
func minus(a, b Limbs) Limbs {
	low, borrow := bits.Sub64(a[1], b[1], 0)
	high, _ := bits.Sub64(a[0], b[0], borrow)
	return Limbs{high, low}
}

// times returns the product, less than 3 / 2^128 too small.
func times(a, b Limbs) Limbs {
	high, low := bits.Mul64(a[0], b[0])
	// The lower limbs of both mixed products and the product of the lower limbs are what is left out.
	left, _ := bits.Mul64(a[0], b[1])
	right, _ := bits.Mul64(a[1], b[0])
	low, carryLeft := bits.Add64(low, left, 0)
	low, carryRight := bits.Add64(low, right, 0)
	return Limbs{high + carryLeft + carryRight, low}
}
