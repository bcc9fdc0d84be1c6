/- Trig: plain facts for TrigTurns: enclosures over moved and turned arcs. -/
import Derived.Test.YtglmkpnnbgkndaaDoorTrJ
namespace Go.Proofs.YtglmkpnnbgkndaaDoor
open Go.RowKit
set_option linter.unusedVariables false
set_option maxRecDepth 100000

theorem ex_even (n : Int) (h : L6.ex n = true) : (1073741824 - L6.fl n) % 2 = 0 := by
  unfold L6.fl
  rw [if_pos h]
  unfold L6.exV
  split
  · omega
  · split
    · omega
    · split
      · omega
      · split <;> omega
theorem hvL_eq (n : Int) : hvL n = (1073741824 - L6.hi (n + 5400000)) / 2 := by
  unfold hvL L6.hi
  cases L6.ex (n + 5400000)
  · simp only [Bool.false_eq_true, if_false]; omega
  · simp only [if_true]
theorem hvH_eq (n : Int) : hvH n = (1073741824 - L6.lo (n + 5400000) + 1) / 2 := by
  have h := ex_even (n + 5400000)
  unfold hvH L6.lo
  cases hx : L6.ex (n + 5400000)
  · simp only [Bool.false_eq_true, if_false]; omega
  · have h := h hx
    simp only [if_true]; omega
theorem bool_iff {a b : Bool} (h : a = true ↔ b = true) : a = b := by
  cases a <;> cases b <;> simp at h ⊢
theorem has_top (a b : Int) : L6.has (a + 5400000) (b + 5400000) 5400000 = L6.has a b 0 := bool_iff (by rw [L6.has_iff, L6.has_iff]; omega)
theorem has_low (a b : Int) : L6.has (a + 5400000) (b + 5400000) (-5400000) = L6.has a b 10800000 := bool_iff (by rw [L6.has_iff, L6.has_iff]; omega)
theorem has_back (a b : Int) : L6.has (-b) (-a) 5400000 = L6.has a b (-5400000) := bool_iff (by rw [L6.has_iff, L6.has_iff]; omega)
theorem has_back' (a b : Int) : L6.has (-b) (-a) (-5400000) = L6.has a b 5400000 := bool_iff (by rw [L6.has_iff, L6.has_iff]; omega)
theorem has_cback (a b : Int) : L6.has (-b + 5400000) (-a + 5400000) 5400000 = L6.has (a + 5400000) (b + 5400000) 5400000 := bool_iff (by rw [L6.has_iff, L6.has_iff]; omega)
theorem has_cback' (a b : Int) : L6.has (-b + 5400000) (-a + 5400000) (-5400000) = L6.has (a + 5400000) (b + 5400000) (-5400000) := bool_iff (by rw [L6.has_iff, L6.has_iff]; omega)
theorem has_half (a b : Int) : L6.has (a + 10800000) (b + 10800000) 5400000 = L6.has a b (-5400000) := bool_iff (by rw [L6.has_iff, L6.has_iff]; omega)
theorem has_half' (a b : Int) : L6.has (a + 10800000) (b + 10800000) (-5400000) = L6.has a b 5400000 := bool_iff (by rw [L6.has_iff, L6.has_iff]; omega)
theorem has_turn (a b k n : Int) : L6.has (a + k * 21600000) (b + k * 21600000) n = L6.has a b n := bool_iff (by rw [L6.has_iff, L6.has_iff]; omega)
theorem hL_eq (a b : Int) : hL a b = (1073741824 - L6.sH (a + 5400000) (b + 5400000)) / 2 := by
  unfold hL L6.sH
  rw [has_top, hvL_eq, hvL_eq]
  generalize L6.hi (a + 5400000) = x
  generalize L6.hi (b + 5400000) = y
  split <;> omega
theorem hH_eq (a b : Int) : hH a b = (1073741824 - L6.sL (a + 5400000) (b + 5400000) + 1) / 2 := by
  unfold hH L6.sL
  rw [has_low, hvH_eq, hvH_eq]
  generalize L6.lo (a + 5400000) = x
  generalize L6.lo (b + 5400000) = y
  split <;> omega
/-- arcs within the law's limits -/
abbrev Arc38 (a b : Int) : Prop := a ≤ b ∧ -274877906944 ≤ a ∧ b ≤ 274877906944
theorem turn_back (a b : Int) (h : Arc38 a b) : L6.sL (-b) (-a) = -L6.sH a b ∧ L6.sH (-b) (-a) = -L6.sL a b := by
  obtain ⟨h1, h2, h3⟩ := h
  obtain ⟨p1, p2⟩ := L6.lo_neg a ⟨by omega, by omega⟩
  obtain ⟨q1, q2⟩ := L6.lo_neg b ⟨by omega, by omega⟩
  unfold L6.sL L6.sH
  rw [has_back, has_back', p1, p2, q1, q2]
  generalize L6.lo a = x
  generalize L6.lo b = y
  generalize L6.hi a = u
  generalize L6.hi b = v
  constructor
  · split <;> omega
  · split <;> omega
theorem turn_cback (a b : Int) (h : Arc38 a b) : L6.sL (-b + 5400000) (-a + 5400000) = L6.sL (a + 5400000) (b + 5400000) ∧ L6.sH (-b + 5400000) (-a + 5400000) = L6.sH (a + 5400000) (b + 5400000) := by
  obtain ⟨h1, h2, h3⟩ := h
  obtain ⟨p1, p2⟩ := L6.lo_even a ⟨by omega, by omega⟩ ⟨by omega, by omega⟩
  obtain ⟨q1, q2⟩ := L6.lo_even b ⟨by omega, by omega⟩ ⟨by omega, by omega⟩
  rw [show 5400000 - a = -a + 5400000 by omega, show 5400000 + a = a + 5400000 by omega] at p1 p2
  rw [show 5400000 - b = -b + 5400000 by omega, show 5400000 + b = b + 5400000 by omega] at q1 q2
  unfold L6.sL L6.sH
  rw [has_cback, has_cback', p1, p2, q1, q2]
  generalize L6.lo (a + 5400000) = x
  generalize L6.lo (b + 5400000) = y
  generalize L6.hi (a + 5400000) = u
  generalize L6.hi (b + 5400000) = v
  constructor
  · split <;> omega
  · split <;> omega
theorem turn_half (a b : Int) (h : Arc38 a b) : L6.sL (a + 10800000) (b + 10800000) = -L6.sH a b ∧ L6.sH (a + 10800000) (b + 10800000) = -L6.sL a b := by
  obtain ⟨h1, h2, h3⟩ := h
  obtain ⟨p1, p2⟩ := L6.lo_half a ⟨by omega, by omega⟩ ⟨by omega, by omega⟩
  obtain ⟨q1, q2⟩ := L6.lo_half b ⟨by omega, by omega⟩ ⟨by omega, by omega⟩
  unfold L6.sL L6.sH
  rw [has_half, has_half', p1, p2, q1, q2]
  generalize L6.lo a = x
  generalize L6.lo b = y
  generalize L6.hi a = u
  generalize L6.hi b = v
  constructor
  · split <;> omega
  · split <;> omega
theorem turn_whole (a b k : Int) : L6.sL (a + k * 21600000) (b + k * 21600000) = L6.sL a b ∧ L6.sH (a + k * 21600000) (b + k * 21600000) = L6.sH a b := by
  obtain ⟨p1, p2⟩ := L6.lo_turns a k
  obtain ⟨q1, q2⟩ := L6.lo_turns b k
  unfold L6.sL L6.sH
  rw [has_turn, has_turn, p1, p2, q1, q2]
  exact ⟨rfl, rfl⟩
theorem turn_cwhole (a b k : Int) : L6.sL (a + k * 21600000 + 5400000) (b + k * 21600000 + 5400000) = L6.sL (a + 5400000) (b + 5400000) ∧ L6.sH (a + k * 21600000 + 5400000) (b + k * 21600000 + 5400000) = L6.sH (a + 5400000) (b + 5400000) := by
  have h := turn_whole (a + 5400000) (b + 5400000) k
  rw [show a + 5400000 + k * 21600000 = a + k * 21600000 + 5400000 by omega, show b + 5400000 + k * 21600000 = b + k * 21600000 + 5400000 by omega] at h
  exact h
theorem turn_hback (a b : Int) (h : Arc38 a b) : hL (-b) (-a) = hL a b ∧ hH (-b) (-a) = hH a b := by
  obtain ⟨c1, c2⟩ := turn_cback a b h
  rw [hL_eq, hL_eq, hH_eq, hH_eq, c1, c2]
  exact ⟨rfl, rfl⟩
theorem turn_hwhole (a b k : Int) : hL (a + k * 21600000) (b + k * 21600000) = hL a b ∧ hH (a + k * 21600000) (b + k * 21600000) = hH a b := by
  obtain ⟨c1, c2⟩ := turn_cwhole a b k
  rw [hL_eq, hL_eq, hH_eq, hH_eq, c1, c2]
  exact ⟨rfl, rfl⟩
end Go.Proofs.YtglmkpnnbgkndaaDoor
