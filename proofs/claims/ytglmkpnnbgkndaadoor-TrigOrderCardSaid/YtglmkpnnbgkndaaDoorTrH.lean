/- Trig: plain facts for the laws of single angles: enclosures, Below. -/
import Derived.Test.YtglmkpnnbgkndaaDoorTrG
namespace Go.Proofs.YtglmkpnnbgkndaaDoor
open Go.RowKit
set_option linter.unusedVariables false
set_option maxRecDepth 100000

theorem fl_mod (n : Int) : L6.fl (n % 21600000) = L6.fl n ∧ L6.ex (n % 21600000) = L6.ex n := by
  have h := L6.fl_turns (n % 21600000) (n / 21600000)
  rw [show n % 21600000 + n / 21600000 * 21600000 = n by omega] at h
  exact ⟨h.1.symm, h.2.symm⟩
theorem top_one : L6.fl 5400000 = 1073741824 ∧ L6.ex 5400000 = true ∧ L6.fl 16200000 = -1073741824 ∧ L6.ex 16200000 = true := by decide +kernel
/-- a single angle -/
theorem one_has (n k : Int) : L6.has n n k = true ↔ (k - n) % 21600000 = 0 := by rw [L6.has_iff]; omega
theorem sL_one (n : Int) : L6.sL n n = L6.lo n := by
  unfold L6.sL
  split
  · rename_i h
    rw [one_has] at h
    have e : n % 21600000 = 16200000 := by omega
    have f := (fl_mod n).1
    rw [e, top_one.2.2.1] at f
    unfold L6.lo
    exact f
  · omega
theorem sH_one (n : Int) : L6.sH n n = L6.hi n := by
  unfold L6.sH
  split
  · rename_i h
    rw [one_has] at h
    have e : n % 21600000 = 5400000 := by omega
    obtain ⟨f, x⟩ := fl_mod n
    rw [e, top_one.1] at f
    rw [e, top_one.2.1] at x
    unfold L6.hi
    rw [← x, if_pos rfl]
    exact f
  · omega
theorem blN_facts (n v : Int) : blN n (v + 1) ≤ blN n v ∧ ¬ (blN n v = 0 ∧ blN n (v + 1) = 0) ∧ -1 ≤ blN n v ∧ blN n v ≤ 1 := by
  unfold blN
  cases L6.ex n
  · simp only [Bool.false_eq_true, false_and, if_false]
    split <;> split <;> omega
  · simp only [true_and]
    split <;> split <;> (try split) <;> (try split) <;> omega
theorem blN_exact (n v : Int) (h : L6.ex n = true) : (0 < blN n v ↔ v < L6.fl n) ∧ (blN n v = 0 ↔ L6.fl n = v) := by
  unfold blN
  rw [h]
  simp only [true_and]
  split
  · omega
  · split <;> omega
theorem blN_wide (n v : Int) (h : L6.ex n = false) : blN n v ≠ 0 ∧ (0 < blN n v ↔ v ≤ L6.fl n) := by
  unfold blN
  rw [h]
  simp only [Bool.false_eq_true, false_and, if_false]
  split <;> omega
end Go.Proofs.YtglmkpnnbgkndaaDoor
