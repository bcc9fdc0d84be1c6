/- Trig: the terms of the quick sine come to an end; its sums stay small. No run of the model here. -/
import Derived.Test.YtglmkpnnbgkndaaDoorTg15
namespace Go.Proofs.YtglmkpnnbgkndaaDoor.L6
set_option linter.unusedVariables false
set_option maxRecDepth 100000

theorem xN_le (r : Nat) (h : r ≤ 2700000) : xN r ≤ 4611686018427387904 := by
  unfold xN
  have := Nat.div_le_self (r * 658911831) 4194304
  omega
theorem tiny (x : Rat) (h0 : 0 ≤ x) (h1 : x ≤ 1) (m : Nat) (f : 4611686018427387904 < fct m) : p62 * ap' x m < 1 := by
  have a := ap_mono h0 h1 m
  have b := ap_fct m
  have p := ap_nonneg h0 m
  have q := ap_nonneg (x := 1) (by decide +kernel) m
  have g := (Rat.natCast_le_natCast (a := 4611686018427387904 + 1) (b := fct m)).2 f
  have e : ((4611686018427387904 + 1 : Nat) : Rat) = p62 + 1 := by rw [Rat.natCast_add]; rfl
  rw [e] at g
  have P := p62_pos
  have m1 := Rat.mul_le_mul_of_nonneg_left a (Rat.le_of_lt P)
  have m2 := Rat.mul_le_mul_of_nonneg_left g q
  rw [b] at m2
  have ne : 0 < ap' 1 m := by
    rcases Rat.le_iff_lt_or_eq.1 q with c | c
    · exact c
    · rw [← c] at b; grind
  grind
theorem r_frac (r : Nat) (h : r ≤ 2700000) : ∃ x : Rat, 0 ≤ x ∧ x ≤ 1 ∧ (xN r : Rat) = p62 * x := by
  have P := p62_pos
  refine ⟨(xN r : Rat) / p62, ?_, ?_, ?_⟩
  · refine Rat.le_of_mul_le_mul_left (c := p62) ?_ P
    rw [Rat.mul_comm p62 ((xN r : Rat) / p62), Rat.div_mul_cancel (by grind)]
    have : (0 : Rat) ≤ (xN r : Rat) := Rat.natCast_nonneg
    grind
  · refine Rat.le_of_mul_le_mul_left (c := p62) ?_ P
    rw [Rat.mul_comm p62 ((xN r : Rat) / p62), Rat.div_mul_cancel (by grind)]
    have : (xN r : Rat) ≤ p62 := (Rat.natCast_le_natCast).2 (xN_le r h)
    grind
  · rw [Rat.mul_comm, Rat.div_mul_cancel (by grind)]
theorem zero_of {t : Nat} {y : Rat} (h : (t : Rat) ≤ y) (k : y < 1) : t = 0 := by
  refine Classical.byContradiction fun c => ?_
  have := (Rat.natCast_le_natCast (a := 1) (b := t)).2 (by omega)
  have e : ((1 : Nat) : Rat) = 1 := rfl
  grind
theorem sin_stop (r : Nat) (h : r ≤ 2700000) : tmN (xN r) (hiN (xN r) (xN r)) 2 16 = 0 := by
  obtain ⟨x, h0, h1, hX⟩ := r_frac r h
  exact zero_of ((sinN_near h0 h1 hX).1 16) (tiny x h0 h1 33 (by decide +kernel))
theorem cos_stop (r : Nat) (h : r ≤ 2700000) : tmN 4611686018427387904 (hiN (xN r) (xN r)) 1 16 = 0 := by
  obtain ⟨x, h0, h1, hX⟩ := r_frac r h
  exact zero_of ((cosN_near h0 h1 hX).1 16) (tiny x h0 h1 32 (by decide +kernel))
theorem tm_le (t0 sq d : Nat) (hq : sq ≤ 4611686018427387904) (hd : 1 ≤ d) (k : Nat) : tmN t0 sq d (k + 1) ≤ tmN t0 sq d k := by
  have a := (hiN_in (tmN t0 sq d k) sq).1
  have m := Nat.mul_le_mul (Nat.le_refl (tmN t0 sq d k)) hq
  have l : hiN (tmN t0 sq d k) sq ≤ tmN t0 sq d k := by omega
  exact Nat.le_trans (Nat.div_le_self _ _) l
theorem tm_first (t0 sq d : Nat) (hq : sq ≤ 4611686018427387904) (hd : 1 ≤ d) (k : Nat) : tmN t0 sq d k ≤ t0 := by
  induction k with
  | zero => exact Nat.le_refl _
  | succ k ih => exact Nat.le_trans (tm_le t0 sq d hq hd k) ih
/-- the sums after an even number of terms -/
theorem al_even (t0 sq d : Nat) (hq : sq ≤ 4611686018427387904) (hd : 1 ≤ d) (j : Nat) : 0 ≤ alN t0 sq d (2 * j) ∧ alN t0 sq d (2 * j) + tmN t0 sq d (2 * j) ≤ t0 := by
  induction j with
  | zero => exact ⟨Int.le_refl _, by show (0 : Int) + (t0 : Int) ≤ t0; omega⟩
  | succ j ih =>
    have a := tm_le t0 sq d hq hd (2 * j)
    have b := tm_le t0 sq d hq hd (2 * j + 1)
    have e : alN t0 sq d (2 * j + 1 + 1) = alN t0 sq d (2 * j) + (tmN t0 sq d (2 * j) : Int) + -(tmN t0 sq d (2 * j + 1) : Int) := by
      show alN t0 sq d (2 * j) + (if (2 * j) % 2 = 0 then _ else _) + (if (2 * j + 1) % 2 = 0 then _ else _) = _
      rw [if_pos (by omega), if_neg (by omega)]
    rw [show 2 * (j + 1) = 2 * j + 1 + 1 by omega, e]
    omega
theorem al_next (t0 sq d j : Nat) : alN t0 sq d (2 * j + 2) = alN t0 sq d (2 * j) + (tmN t0 sq d (2 * j) : Int) - (tmN t0 sq d (2 * j + 1) : Int) := by
  show alN t0 sq d (2 * j) + (if (2 * j) % 2 = 0 then _ else _) + (if (2 * j + 1) % 2 = 0 then _ else _) = _
  rw [if_pos (by omega), if_neg (by omega)]
  omega
theorem tm_zero (t0 sq d k : Nat) (h : tmN t0 sq d k = 0) : ∀ n, tmN t0 sq d (k + n) = 0 ∧ alN t0 sq d (k + n) = alN t0 sq d k := by
  intro n
  induction n with
  | zero => exact ⟨h, rfl⟩
  | succ n ih =>
    obtain ⟨i1, i2⟩ := ih
    constructor
    · show hiN (tmN t0 sq d (k + n)) sq / dv d (k + n) = 0
      rw [i1, hiN_zero, Nat.zero_div]
    · show alN t0 sq d (k + n) + (if (k + n) % 2 = 0 then (tmN t0 sq d (k + n) : Int) else -(tmN t0 sq d (k + n) : Int)) = _
      rw [i1, i2]
      split <;> omega
end Go.Proofs.YtglmkpnnbgkndaaDoor.L6
