package trig

import (
	"math/bits"

	"almucantar/api"
)

// limbs is the number l[0] / 2^64 + l[1] / 2^128, which is less than 1.
type limbs [2]uint64

const (
	oneBits = 30 // One is 2^30
	degree  = 18 // of the polynomial of a series
)

// radian is a unit in radians, which is pi / HalfTurn, rounded down.
var radian = limbs{0x000004e15af7c274, 0x63257af9836d967a}

// inverses are 1 / 2!, 1 / 3!, and so on to 1 / 21!, rounded down.
var inverses = [...]limbs{
	{0x8000000000000000, 0x0000000000000000},
	{0x2aaaaaaaaaaaaaaa, 0xaaaaaaaaaaaaaaaa},
	{0x0aaaaaaaaaaaaaaa, 0xaaaaaaaaaaaaaaaa},
	{0x0222222222222222, 0x2222222222222222},
	{0x005b05b05b05b05b, 0x05b05b05b05b05b0},
	{0x000d00d00d00d00d, 0x00d00d00d00d00d0},
	{0x0001a01a01a01a01, 0xa01a01a01a01a01a},
	{0x00002e3bc74aad8e, 0x671f5583911ca002},
	{0x0000049f93edde27, 0xd71cbbc05b4fa999},
	{0x0000006b99159fd5, 0x138e3f9d1f92e0df},
	{0x00000008f76c77fc, 0x6c4bdaa26d4c3d67},
	{0x00000000b092309d, 0x43684be51c198e91},
	{0x000000000c9cba54, 0x603e4e905d6f8a2e},
	{0x0000000000d73f9f, 0x399dc0f88ec32b58},
	{0x00000000000d73f9, 0xf399dc0f88ec32b5},
	{0x000000000000ca96, 0x3b81856a53593028},
	{0x0000000000000b41, 0x3c31dcbecbbdd802},
	{0x0000000000000097, 0xa4da340a0ab92650},
	{0x0000000000000007, 0x950ae900808941ea},
	{0x0000000000000000, 0x5c6e3bdb73d5c62f},
}

// irrational returns the sine of an angle of more than 0 and less than a right angle. It errs by less than 2^-77, where the series breaks off. This suffices for One times the sine to be rounded, because it is at least 2^-23 from every integer (a test goes through all angles).
func irrational(n int) limbs {
	if n > api.Quarter/2 {
		x := radians(api.Quarter - n)
		square := times(x, x)
		// The difference from 1 is the one from 0, since the 1 would be a limb that there is not.
		return minus(limbs{}, times(square, series(2, square)))
	}
	x := radians(n)
	square := times(x, x)
	return minus(x, times(x, times(square, series(3, square))))
}

// series returns 1 / k! - square / (k+2)! + square^2 / (k+4)! and so on, for k = 2 or 3 and a square of less than 1.
func series(k int, square limbs) limbs {
	first := k - 2
	sum := inverses[first+degree]
	for i := first + degree - 2; i >= first; i -= 2 {
		sum = minus(inverses[i], times(square, sum))
	}
	return sum
}

// radians converts an angle of at most half a right angle.
func radians(n int) limbs {
	carry, low := bits.Mul64(radian[1], uint64(n))
	return limbs{radian[0]*uint64(n) + carry, low}
}

// scaled returns One times a number, rounded down.
func scaled(a limbs) int { return int(a[0] >> (64 - oneBits)) }

// minus returns a - b, or 1 + a - b if this is negative.
func minus(a, b limbs) limbs {
	low, borrow := bits.Sub64(a[1], b[1], 0)
	high, _ := bits.Sub64(a[0], b[0], borrow)
	return limbs{high, low}
}

// times returns the product, less than 3 / 2^128 too small.
func times(a, b limbs) limbs {
	high, low := bits.Mul64(a[0], b[0])
	// The lower limbs of both mixed products and the product of the lower limbs are what is left out.
	left, _ := bits.Mul64(a[0], b[1])
	right, _ := bits.Mul64(a[1], b[0])
	low, carryLeft := bits.Add64(low, left, 0)
	low, carryRight := bits.Add64(low, right, 0)
	return limbs{high + carryLeft + carryRight, low}
}
