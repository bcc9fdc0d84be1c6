/- Trig: plain facts for TrigParts: enclosures over parts of arcs. -/
import Derived.Test.YtglmkpnnbgkndaaDoorTrK
namespace Go.Proofs.YtglmkpnnbgkndaaDoor
open Go.RowKit
set_option linter.unusedVariables false
set_option maxRecDepth 100000

theorem has_part {a b p q n : Int} (h1 : a ≤ p) (h2 : p ≤ q) (h3 : q ≤ b) (h : L6.has p q n = true) : L6.has a b n = true := by
  rw [L6.has_iff] at *; omega
theorem has_turn_full {a b : Int} (n : Int) (h : 21600000 ≤ b - a) : L6.has a b n = true := by rw [L6.has_iff]; omega
theorem lo_in (n : Int) : -1073741824 ≤ L6.lo n ∧ L6.lo n ≤ L6.hi n ∧ L6.hi n ≤ L6.lo n + 1 ∧ L6.hi n ≤ 1073741824 := by
  have h := fl_in n
  have t := fl_no_top n
  unfold L6.lo L6.hi
  cases hx : L6.ex n
  · have t := t hx
    simp only [Bool.false_eq_true, if_false]; omega
  · simp only [if_true]; omega
/-- within the limits of both lemmas -/
abbrev Arc39 (a b : Int) : Prop := -3900000000000 ≤ a ∧ b ≤ 3900000000000
theorem part_lo {a b p : Int} (h : Arc39 a b) (h1 : a ≤ p) (h2 : p ≤ b) : L6.sL a b ≤ L6.lo p := by
  unfold L6.sL
  cases k : L6.has a b (-5400000)
  · have := L6.no_trough (by have := h.1; omega) (by have := h.2; omega) h1 h2 k
    simp only [Bool.false_eq_true, if_false]; exact this
  · have := lo_in p
    simp only [if_true]; omega
theorem part_hi {a b p : Int} (h : Arc39 a b) (h1 : a ≤ p) (h2 : p ≤ b) : L6.hi p ≤ L6.sH a b := by
  unfold L6.sH
  cases k : L6.has a b 5400000
  · have := L6.no_peak h.1 h.2 h1 h2 k
    simp only [Bool.false_eq_true, if_false]; exact this
  · have := lo_in p
    simp only [if_true]; omega
/-- what the law asks of a part and of its first angle -/
structure Part (m l h l' h' x y : Int) : Prop where
  least : m ≤ l
  most : h ≤ 1073741824
  order : l ≤ h
  left : l ≤ l'
  right : h' ≤ h
  one_l : l' ≤ x
  one_h : y ≤ h'
  narrow : y - x ≤ 1
  one : x ≤ y
theorem part_sin {a b p q : Int} (h : Arc39 a b) (h1 : a ≤ p) (h2 : p ≤ q) (h3 : q ≤ b) : Part (-1073741824) (L6.sL a b) (L6.sH a b) (L6.sL p q) (L6.sH p q) (L6.sL p p) (L6.sH p p) := by
  have lp := lo_in p
  have lq := lo_in q
  have la := lo_in a
  have lb := lo_in b
  have p1 := part_lo h h1 (by omega : p ≤ b)
  have p2 := part_hi h h1 (by omega : p ≤ b)
  have q1 := part_lo h (by omega : a ≤ q) h3
  have q2 := part_hi h (by omega : a ≤ q) h3
  have g : Arc39 p q := ⟨by have := h.1; omega, by have := h.2; omega⟩
  have r1 := part_lo g (Int.le_refl p) h2
  have r2 := part_hi g (Int.le_refl p) h2
  have m1 : -1073741824 ≤ L6.sL a b := by unfold L6.sL; split <;> omega
  have m2 : L6.sH a b ≤ 1073741824 := by unfold L6.sH; split <;> omega
  have e1 : L6.sL a b ≤ L6.sL p q := by
    cases k : L6.has p q (-5400000)
    · have e : L6.sL p q = min (L6.lo p) (L6.lo q) := by unfold L6.sL; rw [k]; rfl
      omega
    · have k' := has_part h1 h2 h3 k
      have e : L6.sL p q = -1073741824 := by unfold L6.sL; rw [k]; rfl
      have e' : L6.sL a b = -1073741824 := by unfold L6.sL; rw [k']; rfl
      omega
  have e2 : L6.sH p q ≤ L6.sH a b := by
    cases k : L6.has p q 5400000
    · have e : L6.sH p q = max (L6.hi p) (L6.hi q) := by unfold L6.sH; rw [k]; rfl
      omega
    · have k' := has_part h1 h2 h3 k
      have e : L6.sH p q = 1073741824 := by unfold L6.sH; rw [k]; rfl
      have e' : L6.sH a b = 1073741824 := by unfold L6.sH; rw [k']; rfl
      omega
  rw [sL_one, sH_one]
  exact ⟨m1, m2, by omega, e1, e2, r1, r2, by omega, by omega⟩
theorem part_cos {a b p q : Int} (h : Arc38 a b) (h1 : a ≤ p) (h2 : p ≤ q) (h3 : q ≤ b) : Part (-1073741824) (L6.sL (a + 5400000) (b + 5400000)) (L6.sH (a + 5400000) (b + 5400000)) (L6.sL (p + 5400000) (q + 5400000)) (L6.sH (p + 5400000) (q + 5400000)) (L6.sL (p + 5400000) (p + 5400000)) (L6.sH (p + 5400000) (p + 5400000)) :=
  part_sin ⟨by have := h.2; omega, by have := h.2; omega⟩ (by omega) (by omega) (by omega)
theorem part_hav {a b p q : Int} (h : Arc38 a b) (h1 : a ≤ p) (h2 : p ≤ q) (h3 : q ≤ b) : Part 0 (hL a b) (hH a b) (hL p q) (hH p q) (hL p p) (hH p p) := by
  obtain ⟨c1, c2, c3, c4, c5, c6, c7, c8, c9⟩ := part_cos h h1 h2 h3
  rw [hL_eq, hL_eq, hL_eq, hH_eq, hH_eq, hH_eq]
  constructor <;> omega
theorem full_sin {a b : Int} (h : 21600000 ≤ b - a) : L6.sL a b = -1073741824 ∧ L6.sH a b = 1073741824 := by
  unfold L6.sL L6.sH
  rw [has_turn_full _ h, has_turn_full _ h]
  exact ⟨rfl, rfl⟩
theorem full_hav {a b : Int} (h : 21600000 ≤ b - a) : hL a b = 0 ∧ hH a b = 1073741824 := by
  unfold hL hH
  rw [has_turn_full _ h, has_turn_full _ h]
  exact ⟨rfl, rfl⟩
end Go.Proofs.YtglmkpnnbgkndaaDoor
