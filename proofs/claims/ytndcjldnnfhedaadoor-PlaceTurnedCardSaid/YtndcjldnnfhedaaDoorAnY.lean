/- Angle: contracts of the program's isDigits, isDegrees, isMinutes, isFraction. -/
import Derived.Test.YtndcjldnnfhedaaDoorAnX
import Derived.Deep.LoopGhost
namespace Go.Proofs.YtndcjldnnfhedaaDoor
open Go.RowKit
set_option linter.unusedVariables false
set_option maxRecDepth 100000

/-- a number: at least one digit, and digits alone -/
def dgB (l : List UInt8) : Bool := decide (l ≠ []) && l.all isDig
theorem at_toList (s : ByteArray) (i : Nat) (h : i < s.size) : s.data.toList[i]'(by simpa using h) = s[i]'h := rfl
theorem all_at (s : ByteArray) (p : UInt8 → Bool) (h : ∀ (j : Nat) (hj : j < s.size), p (s[j]'hj) = true) : s.data.toList.all p = true := by
  rw [List.all_eq_true]
  intro x hx
  obtain ⟨j, hj, rfl⟩ := List.getElem_of_mem hx
  exact h j (by simpa using hj)
theorem not_all_at (s : ByteArray) (p : UInt8 → Bool) (j : Nat) (hj : j < s.size) (h : p (s[j]'hj) = false) : s.data.toList.all p = false := by
  rw [List.all_eq_false]
  exact ⟨s[j]'hj, List.getElem_mem (by simpa using hj), by rw [h]; simp⟩
theorem nil_size (s : ByteArray) : s.data.toList = [] ↔ s.size = 0 := by
  constructor
  · intro h
    have := congrArg List.length h
    simpa using this
  · intro h
    exact List.eq_nil_of_length_eq_zero (by simpa using h)

/-- degrees: no superfluous zeros -/
def dgrB (l : List UInt8) : Bool := dgB l && (decide (l.length = 1) || decide (l.head? ≠ some 48))
/-- fractions: one to three digits -/
def frcB (l : List UInt8) : Bool := dgB l && decide (l.length ≤ 3)
/-- minutes: two digits, less than 60 -/
def mnB (l : List UInt8) : Bool := dgB l && decide (l.length = 2) && Op.bytesLess l [54, 48]
end Go.Proofs.YtndcjldnnfhedaaDoor
