package trig

// What the sines are made of, for the tests.
var (
	Radian   = radian
	Inverses = inverses
)

func Irrational(n int) [2]uint64 { return irrational(n) }
