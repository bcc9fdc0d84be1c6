package digits

import (
	"math/bits"
	"slices"
	"sync"
	"testing"

	"almucantar/api"
)

func length(l Limbs) int {
	if l[0] != 0 {
		return 64 + bits.Len64(l[0])
	}
	return bits.Len64(l[1])
}

// shifted is l times 2^by.
func shifted(l Limbs, by uint) Limbs {
	// A shift by 64 bits or more leaves 0, and so does one by a difference that is below 0, which wraps around.
	return Limbs{l[0]<<by | l[1]>>(64-by) | l[1]<<(by-64), l[1] << by}
}

// divided is the quotient of a and b, and what is left.
func divided(a, b Limbs) (quotient int, rest Limbs) {
	for by := length(a) - length(b); by >= 0; by-- {
		if part := shifted(b, uint(by)); slices.Compare(a[:], part[:]) >= 0 {
			quotient += 1 << by
			a = minus(a, part)
		}
	}
	return quotient, a
}

// nearest is the least absolute value of x sin n - y cos n for all x from 1 to a greatest one, and all y. The continued fraction of the tangent leads to it: its convergents are y / x, and what Euclid's algorithm has left are these values.
func nearest(n, greatest int) Limbs {
	former, rest := Sine(api.Quarter-n, Fine), Sine(n, Fine)
	formerX, x := 0, 1
	for {
		quotient, next := divided(former, rest)
		if formerX+quotient*x > greatest {
			return rest
		}
		formerX, x = x, formerX+quotient*x
		former, rest = rest, next
	}
}

// No point whose coordinates are at most 2^31 has a direction so near to an integer that the fine digits do not tell them apart, but the points in this direction: these errors make up less than 2 * 2^31 / 2^106. Beyond 45 degrees, x and y change places.
func TestNearestPoints(t *testing.T) {
	const workers = 8
	limit := Limbs{1 << (64 - 51), 0}
	var group sync.WaitGroup
	for first := range workers {
		group.Go(func() {
			for n := 1 + first; n < api.Quarter/2; n += workers {
				if least := nearest(n, api.Two); slices.Compare(least[:], limit[:]) < 0 {
					t.Errorf("a point is by %x next to %d", least, n)
				}
			}
		})
	}
	group.Wait()
	// This one is the nearest.
	if least := nearest(386800, api.Two); length(least) != 128-50 {
		t.Errorf("a point is by %x next to 386800", least)
	}
}
