/- Contract of wide.quotient, Floor and Ceil. -/
import Derived.Test.YtdkigfcglfgpoaaWdH
import Derived.Test.YtdkigfcglfgpoaaDivW
namespace Go.Proofs.Ytdkigfcglfgpoaa.wd
open Go.RowKit
set_option linter.unusedVariables false

/-- what a quotient returns: the number if it is an int, else ErrBig -/
def qV (n : Int) : Int := if isI n = true then n else 0
def qE (n : Int) : Int := if isI n = true then 0 else 5
/-- a number of uint64 with its sign -/
def sg (n : Nat) (neg : Bool) : Int := if neg = true then -(n : Int) else (n : Int)

theorem signed_all (n : Nat) (neg : Bool) (w : World) :
    Calls Try.prog 80 #[.int .u64 (n : Int), .bool neg] w fun e w' => e = .returned (.tuple #[.int .i64 (qV (sg n neg)), .int .i64 (qE (sg n neg))]) ∧ w = w' := by
  cases neg
  · by_cases h : n ≤ 9223372036854775807
    · have e : isI (sg n false) = true := by rw [isI_iff]; unfold sg; simp; omega
      have e1 : qV (sg n false) = (n : Int) := by unfold qV; rw [if_pos e]; rfl
      have e2 : qE (sg n false) = 0 := by unfold qE; rw [if_pos e]
      rw [e1, e2]; exact signed_pos n w h
    · have e : isI (sg n false) = false := by rw [isI_not]; unfold sg; simp; omega
      have e1 : qV (sg n false) = 0 := by unfold qV; rw [e]; rfl
      have e2 : qE (sg n false) = 5 := by unfold qE; rw [e]; rfl
      rw [e1, e2]; exact signed_bigpos n w h
  · by_cases h : n ≤ 9223372036854775808
    · have e : isI (sg n true) = true := by rw [isI_iff]; unfold sg; simp; omega
      have e1 : qV (sg n true) = -(n : Int) := by unfold qV; rw [if_pos e]; rfl
      have e2 : qE (sg n true) = 0 := by unfold qE; rw [if_pos e]
      rw [e1, e2]; exact signed_neg n w h
    · have e : isI (sg n true) = false := by rw [isI_not]; unfold sg; simp; omega
      have e1 : qV (sg n true) = 0 := by unfold qV; rw [e]; rfl
      have e2 : qE (sg n true) = 5 := by unfold qE; rw [e]; rfl
      rw [e1, e2]; exact signed_bigneg n w h

/-- the rounded quotient -/
def qt (n b : Int) (down : Bool) : Int := if down = true then qdn n b else qup n b
/-- the absolute quotient, and its step -/
def qr (n b : Int) (neg down : Bool) : Nat := n.natAbs / b.natAbs + if n.natAbs % b.natAbs = 0 then 0 else if neg = down then 1 else 0

theorem qt_spec (n b : Int) (hb : b ≠ 0) (down : Bool) : qt n b down = sg (qr n b (decide (n < 0) != decide (b < 0)) down) (decide (n < 0) != decide (b < 0)) := by
  have hB : 0 < b.natAbs := by omega
  have h := ediv_of_nat n.natAbs b.natAbs hB
  obtain ⟨h1, h2⟩ := h
  unfold qt qr sg qup qdn
  by_cases s1 : n < 0 <;> by_cases s2 : b < 0
  · have e1 : ((n.natAbs : Nat) : Int) = -n := by omega
    have e2 : ((b.natAbs : Nat) : Int) = -b := by omega
    rw [e1, e2] at h1 h2
    rw [Int.neg_neg] at h2
    cases down
    · simp only [s1, s2, decide_true, bne_self_eq_false, if_neg (show ¬ 0 < b by omega), Bool.false_eq_true, if_false, Int.neg_neg, h2]
      split <;> simp <;> omega
    · simp only [s1, s2, decide_true, bne_self_eq_false, if_neg (show ¬ 0 < b by omega), if_true, h1]
      simp
  · have e1 : ((n.natAbs : Nat) : Int) = -n := by omega
    have e2 : ((b.natAbs : Nat) : Int) = b := by omega
    rw [e1, e2] at h1 h2
    rw [Int.neg_neg] at h2
    cases down
    · simp only [s1, s2, decide_true, decide_false, if_pos (show 0 < b by omega), Bool.false_eq_true, if_false, h1]
      simp
    · simp only [s1, s2, decide_true, decide_false, if_pos (show 0 < b by omega), if_true, h2]
      simp
      split <;> simp <;> omega
  · have e1 : ((n.natAbs : Nat) : Int) = n := by omega
    have e2 : ((b.natAbs : Nat) : Int) = -b := by omega
    rw [e1, e2] at h1 h2
    cases down
    · simp only [s1, s2, decide_true, decide_false, if_neg (show ¬ 0 < b by omega), Bool.false_eq_true, if_false, Int.neg_neg, h1]
      simp
    · simp only [s1, s2, decide_true, decide_false, if_neg (show ¬ 0 < b by omega), if_true, h2]
      simp
      split <;> simp <;> omega
  · have e1 : ((n.natAbs : Nat) : Int) = n := by omega
    have e2 : ((b.natAbs : Nat) : Int) = b := by omega
    rw [e1, e2] at h1 h2
    cases down
    · simp only [s1, s2, decide_false, bne_self_eq_false, if_pos (show 0 < b by omega), Bool.false_eq_true, if_false, h2]
      split <;> simp <;> omega
    · simp only [s1, s2, decide_false, bne_self_eq_false, if_pos (show 0 < b by omega), if_true, h1]
      simp
end Go.Proofs.Ytdkigfcglfgpoaa.wd
