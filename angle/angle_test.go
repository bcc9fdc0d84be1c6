package angle_test

import (
	"math"
	"math/big"
	"math/rand/v2"
	"testing"

	"almucantar/angle"
	"almucantar/api"
)

const (
	turn = api.Turn
	half = api.HalfTurn
	most = api.MaxArc

	rounds = 20000
)

// invalid are arcs with a Lo greater than Hi, or with ends out of range.
var invalid = []api.Arc{
	{Lo: 1}, {Hi: -1}, {Lo: 6, Hi: 5}, {Lo: most, Hi: -most}, {Lo: most, Hi: most - 1}, {Lo: 1 - most, Hi: -most}, {Lo: turn, Hi: turn - 1},
	{Lo: -most - 1}, {Lo: -most - 1, Hi: most}, {Lo: -most - 1, Hi: -most}, {Lo: -most - 1, Hi: -most - 1},
	{Hi: most + 1}, {Lo: -most, Hi: most + 1}, {Lo: most, Hi: most + 1}, {Lo: most + 1, Hi: most + 1}, {Lo: -most - 1, Hi: most + 1},
	{Lo: math.MinInt}, {Hi: math.MaxInt}, {Lo: math.MinInt, Hi: math.MaxInt}, {Lo: math.MaxInt, Hi: math.MinInt},
	{Lo: math.MinInt, Hi: math.MinInt}, {Lo: math.MaxInt, Hi: math.MaxInt},
}

// between is the arc with these ends.
func between(lo, hi int) api.Arc { return api.Arc{Lo: lo, Hi: hi} }

// only is the arc of one number.
func only(n int) api.Arc { return api.Arc{Lo: n, Hi: n} }

func isValid(a api.Arc) bool { return a.Lo >= -most && a.Hi <= most && a.Lo <= a.Hi }

// arcs are those of one number and of two, with ends at the limits, at turns, at half turns, at 0, and beside these.
func arcs() []api.Arc {
	var ends []int
	for _, n := range []int{-most + 1, -turn, -half, 0, half, turn, most - 1} {
		ends = append(ends, n-1, n, n+1)
	}
	var list []api.Arc
	for i, lo := range ends {
		for _, hi := range ends[i:] {
			list = append(list, between(lo, hi))
		}
	}
	return list
}

// numbers makes ints and arcs of all sizes, the same ones in each run.
type numbers struct{ source *rand.Rand }

func newNumbers() numbers { return numbers{rand.New(rand.NewPCG(5, 60))} }

func (r numbers) int() int { return int(r.source.Uint64()) >> r.source.IntN(64) }

func (r numbers) end() int { return (r.source.IntN(2*most+1) - most) >> r.source.IntN(42) }

// arc makes wide and narrow ones, among them those of one number, and of a width of about a turn.
func (r numbers) arc() api.Arc {
	a, b := r.end(), r.end()
	switch r.source.IntN(3) {
	case 0:
		b = a + r.source.IntN(5)
	case 1:
		b = a + turn + r.source.IntN(5) - 2
	}
	b = max(-most, min(most, b))
	return between(min(a, b), max(a, b))
}

// inside makes a number of an arc.
func (r numbers) inside(a api.Arc) int { return a.Lo + r.source.IntN(a.Hi-a.Lo+1) }

// part makes an arc inside of one.
func (r numbers) part(a api.Arc) api.Arc {
	x, y := r.inside(a), r.inside(a)
	return between(min(x, y), max(x, y))
}

func wantArc(t *testing.T, name string, a, b any, got, want api.Arc, e, wantErr api.Errno) {
	t.Helper()
	if got != want || e != wantErr {
		t.Errorf("%s(%v, %v) = %v, %d; want %v, %d", name, a, b, got, e, want, wantErr)
	}
}

// P5.1: Lo and Hi at -MaxArc and MaxArc and one beyond, equal ones, and a Lo greater than Hi.
func TestValid(t *testing.T) {
	for _, a := range append(arcs(), api.Arc{}, only(-most), only(most), between(-most, most), between(most-1, most), between(-most, 1-most)) {
		if !angle.Valid(a) {
			t.Errorf("%v is not valid", a)
		}
	}
	for _, a := range invalid {
		if angle.Valid(a) {
			t.Errorf("%v is valid", a)
		}
	}
}

// P5.1: the chapter's examples, multiples of a turn, half a turn, one to each side of them, and the least and the greatest int.
func TestWrapAndSignedExamples(t *testing.T) {
	for _, c := range []struct{ n, wrapped, signed int }{
		{-1, 21599999, -1},
		{21599999, 21599999, -1},
		{0, 0, 0},
		{1, 1, 1},
		{turn - 1, turn - 1, -1},
		{turn, 0, 0},
		{turn + 1, 1, 1},
		{-turn - 1, turn - 1, -1},
		{-turn, 0, 0},
		{-turn + 1, 1, 1},
		{7*turn - 1, turn - 1, -1},
		{7 * turn, 0, 0},
		{-7 * turn, 0, 0},
		{-7*turn - 1, turn - 1, -1},
		{half - 1, half - 1, half - 1},
		{half, half, -half},
		{half + 1, half + 1, 1 - half},
		{-half - 1, half - 1, half - 1},
		{-half, half, -half},
		{-half + 1, half + 1, 1 - half},
		{turn + half - 1, half - 1, half - 1},
		{turn + half, half, -half},
		{-turn - half - 1, half - 1, half - 1},
		{-turn - half, half, -half},
		{math.MaxInt, 4375807, 4375807},
		{math.MinInt, 17224192, -4375808},
	} {
		if got := angle.Wrap(c.n); got != c.wrapped {
			t.Errorf("Wrap(%d) = %d; want %d", c.n, got, c.wrapped)
		}
		if got := angle.Signed(c.n); got != c.signed {
			t.Errorf("Signed(%d) = %d; want %d", c.n, got, c.signed)
		}
	}
}

// P5.1, P5.7: any ints, multiples of half a turn and the numbers beside them; the direction stays if a turn is added.
func TestWrapAndSignedKeepTheDirection(t *testing.T) {
	check := func(n int) {
		exact := new(big.Int).Mod(big.NewInt(int64(n)), big.NewInt(turn))
		wrapped := int(exact.Int64())
		signed := wrapped
		if wrapped > half-1 {
			signed = wrapped - turn
		}
		if got := angle.Wrap(n); got != wrapped {
			t.Errorf("Wrap(%d) = %d; want %d", n, got, wrapped)
		}
		if got := angle.Signed(n); got != signed {
			t.Errorf("Signed(%d) = %d; want %d", n, got, signed)
		}
		if n > math.MaxInt-turn {
			return
		}
		if angle.Wrap(n+turn) != wrapped || angle.Signed(n+turn) != signed {
			t.Errorf("%d and a turn has another direction", n)
		}
	}
	r := newNumbers()
	for range rounds {
		check(r.int())
		halves := (r.source.IntN(1<<32) - 1<<31) * half
		for beside := -1; beside <= 1; beside++ {
			check(halves + beside)
			check(math.MinInt + r.source.IntN(3*turn))
			check(math.MaxInt - r.source.IntN(3*turn))
		}
	}
}
