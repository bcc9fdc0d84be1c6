package angle_test

import (
	"testing"

	"almucantar/angle"
	"almucantar/api"
)

// P5.4: widths of a turn, one less and one more, both limits, and arcs that begin at, before, and behind the end of a turn.
func TestTurnExamples(t *testing.T) {
	all := between(0, turn)
	for _, c := range []struct{ a, want api.Arc }{
		{only(0), only(0)},
		{only(turn - 1), only(turn - 1)},
		{only(turn), only(0)},
		{only(-1), only(turn - 1)},
		{only(-turn), only(0)},
		{only(5*turn + 7), only(7)},
		{between(-10, 10), between(turn-10, turn+10)},
		{between(turn-10, turn+10), between(turn-10, turn+10)},
		{between(turn, turn+10), between(0, 10)},
		{between(0, turn-1), between(0, turn-1)},
		{between(1, turn), between(1, turn)},
		{between(0, turn), all},
		{between(1, turn+1), all},
		{between(-turn, 0), all},
		{between(-1, turn-1), all},
		{between(-1, turn-2), between(turn-1, 2*turn-2)},
		{between(-1, turn), all},
		{between(5, turn+4), between(5, turn+4)},
		{between(5, turn+5), all},
		{between(5, turn+6), all},
		{between(-turn-5, -6), between(turn-5, 2*turn-6)},
		{between(-turn-5, -5), all},
		{between(-most, most), all},
		{between(-most, turn-most-1), between(14772224, 14772224+turn-1)},
		{between(-most, turn-most), all},
		{between(-most, turn-most+1), all},
		{between(most-turn+1, most), between(6827777, 6827777+turn-1)},
		{between(most-turn, most), all},
		{only(most), only(6827776)},
		{only(-most), only(14772224)},
	} {
		got, e := angle.Turn(c.a)
		wantArc(t, "Turn", c.a, "", got, c.want, e, api.OK)
	}
}

// P5.4, P5.7: the form has the width and the directions of the arc, is its own form, and agrees with the arc, also if this is moved by turns.
func TestTurnKeepsDirections(t *testing.T) {
	r := newNumbers()
	check := func(a api.Arc) {
		form, e := angle.Turn(a)
		moved := form.Lo - a.Lo
		narrow := form.Lo >= 0 && form.Lo < turn && form.Hi-a.Hi == moved && moved%turn == 0
		wide := form == between(0, turn)
		if e != api.OK || a.Hi-a.Lo < turn && !narrow || a.Hi-a.Lo >= turn && !wide {
			t.Errorf("Turn(%v) = %v, %d", a, form, e)
		}
		again, e := angle.Turn(form)
		wantArc(t, "Turn", form, "", again, form, e, api.OK)
		wantAgree(t, a, form, true)
		if by := turn * (r.source.IntN(9) - 4); isValid(between(a.Lo+by, a.Hi+by)) {
			same, e := angle.Turn(between(a.Lo+by, a.Hi+by))
			wantArc(t, "Turn", a, by, same, form, e, api.OK)
		}
	}
	for _, a := range arcs() {
		check(a)
	}
	for range rounds {
		check(r.arc())
	}
}

func wantAgree(t *testing.T, a, b api.Arc, want bool) {
	t.Helper()
	for range 2 {
		if got, e := angle.Agree(a, b); got != want || e != api.OK {
			t.Errorf("Agree(%v, %v) = %v, %d", a, b, got, e)
		}
		a, b = b, a
	}
}

// P5.4: the chapter's example; arcs that agree over the end of a turn, in one number, and that do not.
func TestAgreeExamples(t *testing.T) {
	for _, c := range []struct {
		a, b api.Arc
		want bool
	}{
		{between(21599990, 21600010), between(5, 6), true},
		{between(21599990, 21600010), between(10, 11), true},
		{between(21599990, 21600010), between(11, 12), false},
		{between(21599990, 21600010), only(turn - 10), true},
		{between(21599990, 21600010), only(turn - 11), false},
		{between(-10, 10), only(turn - 10), true},
		{between(-10, 10), only(turn - 11), false},
		{between(-10, 10), between(turn-20, turn-10), true},
		{between(-10, 10), between(turn-20, turn-11), false},
		{between(-10, 10), between(11, turn-11), false},
		{between(-10, 10), between(11, turn-10), true},
		{between(-10, 10), between(10, turn-11), true},
		{only(0), only(0), true},
		{only(0), only(turn), true},
		{only(0), only(-3 * turn), true},
		{only(0), only(turn - 1), false},
		{only(0), only(turn + 1), false},
		{only(0), only(half), false},
		{only(-half), only(half), true},
		{only(0), between(1, turn-1), false},
		{only(0), between(1, turn), true},
		{only(0), between(0, turn-1), true},
		{only(5), between(6, turn+4), false},
		{only(5), between(6, turn+5), true},
		{only(5), between(-turn, 0), true},
		{only(1), between(2, 3*turn), true},
		{only(most), only(-most), false},
		{only(most), only(most - 2*turn), true},
		{only(most), only(most - 50903*turn), true},
		{only(-most), only(-most + 50903*turn), true},
		{only(-most), only(-most + 50903*turn + 1), false},
		{between(-most, most), only(0), true},
		{between(-most, most), between(-most, most), true},
		{between(-most, turn-most-1), only(most), true},
		{between(-most, turn-most-2), only(turn - most - 1), false},
	} {
		wantAgree(t, c.a, c.b, c.want)
	}
}

// agreeByTurns looks for a turn that moves a to meet b, one after the other.
func agreeByTurns(a, b api.Arc, turns int) bool {
	for k := -turns; k <= turns; k++ {
		if a.Lo+k*turn <= b.Hi && b.Lo <= a.Hi+k*turn {
			return true
		}
	}
	return false
}

// P5.4, P5.7: all pairs of arcs about the ends of turns; and no answer changes if an arc is moved by a turn.
func TestAgreeAboutTurns(t *testing.T) {
	var list []api.Arc
	ends := []int{-turn - 1, -turn, -turn + 1, -half, -2, -1, 0, 1, 2, half - 1, half, half + 1, turn - 2, turn - 1, turn, turn + 1, 2 * turn}
	for i, lo := range ends {
		for _, hi := range ends[i:] {
			list = append(list, between(lo, hi))
		}
	}
	for _, a := range list {
		for _, b := range list {
			want := agreeByTurns(a, b, 5)
			wantAgree(t, a, b, want)
			wantAgree(t, between(a.Lo+turn, a.Hi+turn), b, want)
			wantAgree(t, between(a.Lo-turn, a.Hi-turn), b, want)
		}
	}
}

// P5.4, P5.7: arcs that agree in one end, and those that just do not, many turns apart.
func TestAgreeManyTurnsApart(t *testing.T) {
	r := newNumbers()
	for range rounds {
		a := r.part(between(0, turn/2))
		width := r.source.IntN(turn - (a.Hi - a.Lo) - 1)
		b := between(a.Hi, a.Hi+width)
		after, before := between(a.Hi+1, a.Hi+1+width), between(a.Lo-1-width, a.Lo-1)
		by := turn * (r.source.IntN(100001) - 50000)
		wantAgree(t, a, between(b.Lo+by, b.Hi+by), true)
		wantAgree(t, a, between(after.Lo+by, after.Hi+by), after.Hi-turn >= a.Lo)
		wantAgree(t, a, between(before.Lo+by, before.Hi+by), before.Lo+turn <= a.Hi)
	}
}

// P5.4: ErrArg for each argument in turn.
func TestDirectionsRejectInvalidArcs(t *testing.T) {
	for _, a := range invalid {
		form, e := angle.Turn(a)
		wantArc(t, "Turn", a, "", form, api.Arc{}, e, api.ErrArg)
		for _, b := range append(invalid, only(0), between(0, turn), between(-most, most)) {
			if got, e := angle.Agree(a, b); got || e != api.ErrArg {
				t.Errorf("Agree(%v, %v) = %v, %d", a, b, got, e)
			}
			if got, e := angle.Agree(b, a); got || e != api.ErrArg {
				t.Errorf("Agree(%v, %v) = %v, %d", b, a, got, e)
			}
		}
	}
}
