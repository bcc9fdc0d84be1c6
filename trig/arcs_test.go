package trig_test

import (
	"testing"

	"almucantar/api"
)

// extremes are the least enclosures at both ends of an arc and at all right angles in it, put together.
func extremes(a api.Arc, of func(int) api.Fixed) api.Fixed {
	lo, hi := of(a.Lo), of(a.Hi)
	all := fix(min(lo.Lo, hi.Lo), max(lo.Hi, hi.Hi))
	// After two turns, nothing new comes.
	last := min(a.Hi, a.Lo+2*turn)
	for n := (a.Lo/quarter - 1) * quarter; n <= last; n += quarter {
		if n >= a.Lo {
			all = fix(min(all.Lo, of(n).Lo), max(all.Hi, of(n).Hi))
		}
	}
	return all
}

// checkArc compares all functions of an arc with more digits.
func checkArc(t *testing.T, a api.Arc) {
	sin.want(t, a, extremes(a, sineOf))
	cos.want(t, a, extremes(a, cosineOf))
	hav.want(t, a, extremes(a, haversineOf))
}

// P6.1: arcs with one extreme inside, with both, and with none; arcs that end at a right angle, one unit before it, and one after it.
func TestArcExamples(t *testing.T) {
	const sine1, cosine1 = 312, one - 1 // of one unit, rounded down
	for _, c := range []struct {
		a                 api.Arc
		sine, cosine, hav api.Fixed
	}{
		{between(0, quarter), fix(0, one), fix(0, one), fix(0, one/2)},
		{between(0, quarter-1), fix(0, one), fix(sine1, one), fix(0, one/2-sine1/2)},
		{between(0, quarter+1), fix(0, one), fix(-sine1-1, one), fix(0, one/2+sine1/2+1)},
		{between(1, quarter-1), fix(sine1, one), fix(sine1, one), fix(0, one/2-sine1/2)},
		{between(quarter, half), fix(0, one), fix(-one, 0), fix(one/2, one)},
		{between(quarter+1, half-1), fix(sine1, one), fix(-one, -sine1), fix(one/2+sine1/2, one)},
		{between(0, half), fix(0, one), fix(-one, one), fix(0, one)},
		{between(third, half-third), fix(one/2, one), fix(-929887697, 929887697), fix(71927063, one-71927063)},
		{between(third, 2*third), fix(one/2, 929887697), fix(one/2, 929887697), fix(71927063, one/4)},
		{between(half, half+quarter), fix(-one, 0), fix(-one, 0), fix(one/2, one)},
		{between(half, turn), fix(-one, 0), fix(-one, one), fix(0, one)},
		{between(quarter, 3*quarter), fix(-one, one), fix(-one, 0), fix(one/2, one)},
		{between(quarter+third, 3*quarter-third), fix(-929887697, 929887697), fix(-one, -one/2), fix(3*one/4, one)},
		{between(-third, third), fix(-one/2, one/2), fix(929887696, one), fix(0, 71927064)},
		{between(-quarter, quarter), fix(-one, one), fix(0, one), fix(0, one/2)},
		{between(third, turn-third), fix(-one, one), fix(-one, 929887697), fix(71927063, one)},
		{between(quarter, turn), fix(-one, one), fix(-one, one), fix(0, one)},
		{between(0, turn), fix(-one, one), fix(-one, one), fix(0, one)},
		{between(1, turn), fix(-one, one), fix(-one, one), fix(0, one)},
	} {
		for _, turns := range []int{0, turn, -turn, 7 * turn, 50000 * turn, -50000 * turn} {
			a := between(c.a.Lo+turns, c.a.Hi+turns)
			sin.want(t, a, c.sine)
			cos.want(t, a, c.cosine)
			hav.want(t, a, c.hav)
		}
	}
}

// P6.1: all arcs whose ends are at multiples of 30 or of 45 degrees or beside them, from less than a turn before 0 to two turns after it.
func TestArcsBetweenNotableAngles(t *testing.T) {
	var ends []int
	for i := -10; i <= 24; i++ {
		for beside := -1; beside <= 1; beside++ {
			ends = append(ends, i*third+beside)
			if i%3 == 0 {
				ends = append(ends, i*third+quarter/2+beside)
			}
		}
	}
	for _, lo := range ends {
		for _, hi := range ends {
			if lo <= hi {
				checkArc(t, between(lo, hi))
			}
		}
	}
}

// P6.1: arcs at the limits.
func TestArcsAtTheLimits(t *testing.T) {
	for _, width := range []int{1, 2, third, quarter, half, 3 * quarter, turn} {
		for beside := -1; beside <= 1; beside++ {
			checkArc(t, between(most-width-beside, most))
			checkArc(t, between(-most, width+beside-most))
		}
	}
}

// P6.1: arcs of all sizes.
func TestAnyArcs(t *testing.T) {
	r := newNumbers()
	for range rounds {
		checkArc(t, r.arc())
	}
}

// P6.3: as wide as a turn, and wider, there are all values.
func TestTurns(t *testing.T) {
	r := newNumbers()
	for range rounds {
		lo := r.end()
		if lo > most-turn {
			continue
		}
		for _, a := range []api.Arc{between(lo, lo+turn), between(lo, most), between(lo, min(most, lo+turn+r.source.IntN(turn)))} {
			sin.want(t, a, fix(-one, one))
			cos.want(t, a, fix(-one, one))
			hav.want(t, a, fix(0, one))
		}
	}
}
