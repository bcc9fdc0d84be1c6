/- The pieces of Split at newlines are the lines. -/
import Derived.Test.YtjpjgohomajlpaaDoorJnC
import Derived.Lib.Split
import Derived.Lib.SplitLaws
import Derived.Lib.IndexBytes
namespace Go.Proofs.YtjpjgohomajlpaaDoor
open Go.RowKit
set_option linter.unusedVariables false

theorem notNl_ne {c : UInt8} (h : notNl c = true) : c ≠ 10 := by rintro rfl; cases h

theorem linesF_all (l : List UInt8) (h : l.all notNl = true) : linesF l = [l] := by
  induction l with
  | nil => rfl
  | cons c l ih =>
    simp only [List.all_cons, Bool.and_eq_true] at h
    have hc : c.toNat ≠ 10 := by have := h.1; unfold notNl at this; rw [decide_eq_true_eq] at this; exact this
    rw [linesF, if_neg hc, ih h.2]; rfl

theorem count_no (l : List UInt8) (h : l.all notNl = true) : Lib.count l [10] = 0 := by
  rw [Lib.count_one, List.count_eq_zero]
  intro hm
  exact notNl_ne (List.all_eq_true.1 h _ hm) rfl

theorem index_at (x t : List UInt8) (h : x.all notNl = true) : Lib.index (x ++ 10 :: t) [10] = x.length := by
  rw [Lib.index_one]
  induction x with
  | nil => simp [Lib.indexByte]
  | cons c x ih =>
    simp only [List.all_cons, Bool.and_eq_true] at h
    have hc := notNl_ne h.1
    have := ih h.2
    rw [List.cons_append]
    simp [Lib.indexByte, hc, this]

theorem split_ind (l : List UInt8) : l.all notNl = true ∨ ∃ x t, l = x ++ 10 :: t ∧ x.all notNl = true := by
  induction l with
  | nil => left; rfl
  | cons c l ih =>
    cases hc : notNl c
    · right
      have : c = 10 := by unfold notNl at hc; rw [decide_eq_false_iff_not] at hc; rw [← UInt8.toNat_inj]; have : c.toNat = 10 := by omega
                          rw [this]; rfl
      exact ⟨[], l, by rw [this]; rfl, rfl⟩
    · rcases ih with h | ⟨x, t, e, h⟩
      · left; rw [List.all_cons, hc, h]; rfl
      · right; exact ⟨c :: x, t, by rw [e]; rfl, by rw [List.all_cons, hc, h]; rfl⟩

theorem splitK_lines : ∀ (n : Nat) (l : List UInt8), l.length ≤ n → Lib.splitK [10] 0 (Lib.count l [10]) l = linesF l := by
  intro n
  induction n with
  | zero =>
    intro l hl
    have : l = [] := List.length_eq_zero_iff.1 (by omega)
    rw [this]; rfl
  | succ n ih =>
    intro l hl
    rcases split_ind l with h | ⟨x, t, rfl, h⟩
    · rw [count_no l h, linesF_all l h]; rfl
    · have hc : Lib.count (x ++ 10 :: t) [10] = Lib.count t [10] + 1 := by
        rw [Lib.count_one, Lib.count_one, List.count_append, List.count_cons_self]
        have := count_no x h
        rw [Lib.count_one] at this
        omega
      have hm : ¬ (Lib.index (x ++ 10 :: t) [10] == -1) = true := by rw [index_at x t h]; simp
      rw [hc, Lib.splitK, if_neg hm, index_at x t h, linesF_nl x t 10 h rfl]
      have e1 : (((x.length : Nat) : Int).toNat + 0) = x.length := by simp
      have e2 : ((x.length : Nat) : Int).toNat + [(10 : UInt8)].length = x.length + 1 := by simp
      rw [e1, e2, List.take_left, ← List.drop_drop, List.drop_left]
      have := ih t (by simp at hl; omega)
      rw [List.drop_one, List.tail_cons, this]

theorem split_lines (s : ByteArray) : (Lib.splitB ⟨#[10]⟩ 0 (Lib.countB s ⟨#[10]⟩) s).map (fun x => x.data.toList) = linesF s.data.toList := by
  rw [Lib.splitB_data]
  exact splitK_lines _ _ (Nat.le_refl _)

end Go.Proofs.YtjpjgohomajlpaaDoor
