package place_test

import (
	"slices"

	"almucantar/api"
)

// Directions are counted in halves of a unit here, so that the odd ones lie between the ends of arcs.

// has reports whether a number of an arc has a direction, by trying one turn after the other.
func has(a api.Arc, direction int) bool {
	for n := direction - 4*turn; n <= direction+4*turn; n += 2 * turn {
		if 2*a.Lo <= n && n <= 2*a.Hi {
			return true
		}
	}
	return false
}

// marks are the directions of the ends of some arcs, as longitudes, in order.
func marks(arcs ...api.Arc) []int {
	var list []int
	for _, a := range arcs {
		list = append(list, signed(a.Lo), signed(a.Hi))
	}
	slices.Sort(list)
	return slices.Compact(list)
}

// directionsOf are those of the ends of some arcs, and one between each end and the next one, as far as the condition holds. (No arc with these ends has a part of what is between two of them.)
func directionsOf(ends []int, isWanted func(direction int) bool) []int {
	var list []int
	for _, n := range ends {
		for direction := 2 * n; direction <= 2*n+1; direction++ {
			if isWanted(direction) {
				list = append(list, direction)
			}
		}
	}
	return list
}

// slowLongitudes are the least longitudes around some directions, by trying all pairs of ends.
func slowLongitudes(ends, directions []int) api.Arc {
	least := everywhere
	for _, lo := range ends {
		for _, hi := range ends {
			if hi < lo {
				hi += turn
			}
			width, leastWidth := hi-lo, least.Hi-least.Lo
			isBetter := width < leastWidth || width == leastWidth && lo < least.Lo
			if isBetter && hasAll(between(lo, hi), directions) {
				least = between(lo, hi)
			}
		}
	}
	return least
}

func hasAll(a api.Arc, directions []int) bool {
	for _, direction := range directions {
		if !has(a, direction) {
			return false
		}
	}
	return true
}

// notableLongitudes begin and end at or beside HalfTurn, 0, and one another, and have all kinds of widths.
func notableLongitudes() []api.Arc {
	list := []api.Arc{everywhere}
	for _, lo := range []int{-half, 1 - half, -quarter, -1, 0, 1, quarter, half - 2, half - 1} {
		for _, width := range []int{0, 1, 2, quarter - 1, quarter, half - 1, half, half + 1, turn - quarter, turn - 3, turn - 2, turn - 1} {
			list = append(list, long(lo, width))
		}
	}
	return list
}

// lonAmong makes an arc of longitudes with ends among some longitudes.
func (r numbers) lonAmong(ends []int) api.Arc {
	lo, hi := ends[r.source.IntN(len(ends))], ends[r.source.IntN(len(ends))]
	if hi < lo {
		hi += turn
	}
	return between(lo, hi)
}
