/- TrigTurns: the walk of the law. -/
import Derived.Test.YtglmkpnnbgkndaaDoorTrK
namespace Go.Proofs.YtglmkpnnbgkndaaDoor
open Go.RowKit
set_option linter.unusedVariables false
set_option maxRecDepth 100000

def rok (a b : Int) : Bool := decide (-274877906944 ≤ a ∧ b ≤ 274877906944 ∧ a ≤ b)
theorem rok_iff (a b : Int) : rok a b = true ↔ (-274877906944 ≤ a ∧ b ≤ 274877906944 ∧ a ≤ b) := by unfold rok; simp
theorem right_any (a b : Int) (w : World) :
    Calls Tryd.prog 22 #[.agg #[.int .i64 a, .int .i64 b]] w fun e w' => e = .returned (.bool (rok a b)) ∧ Below w.heap.size w w' := by
  obtain ⟨a0, a1, af0, af1, alt⟩ := At2.new w (.int .i64 a) (.int .i64 b) 23
  unfold rok
  by_cases c1 : a ≤ b
  · by_cases c2 : a ≥ -274877906944
    · by_cases c3 : b ≤ 274877906944
      · rw [decide_eq_true (show -274877906944 ≤ a ∧ b ≤ 274877906944 ∧ a ≤ b by omega)]
        go_enter Tryd.func22, Tryd.ntmps22
        go_wp2
        go_ret
        exact ⟨rfl, below1 _ _⟩
      · rw [decide_eq_false (show ¬ (-274877906944 ≤ a ∧ b ≤ 274877906944 ∧ a ≤ b) by omega)]
        have c3' : decide (b ≤ 274877906944) = false := decide_eq_false c3
        go_enter Tryd.func22, Tryd.ntmps22
        go_wp2
        go_ret
        exact ⟨rfl, below1 _ _⟩
    · rw [decide_eq_false (show ¬ (-274877906944 ≤ a ∧ b ≤ 274877906944 ∧ a ≤ b) by omega)]
      go_enter Tryd.func22, Tryd.ntmps22
      go_wp2
      go_ret
      exact ⟨rfl, below1 _ _⟩
  · rw [decide_eq_false (show ¬ (-274877906944 ≤ a ∧ b ≤ 274877906944 ∧ a ≤ b) by omega)]
    go_enter Tryd.func22, Tryd.ntmps22
    go_wp2
    go_ret
    exact ⟨rfl, below1 _ _⟩
theorem right_is (a b : Int) (r : Bool) (h : rok a b = r) (w : World) :
    Calls Tryd.prog 22 #[.agg #[.int .i64 a, .int .i64 b]] w fun e w' => e = .returned (.bool r) ∧ Below w.heap.size w w' := h ▸ right_any a b w


theorem alc_minus (x y nx ny : Int) (hx : -x = nx) (hy : -y = ny) (x1 : -1073741824 ≤ x) (x2 : x ≤ 1073741824) (y1 : -1073741824 ≤ y) (y2 : y ≤ 1073741824) (w : World) :
    Calls Tryd.prog 24 #[.agg #[.int .i64 x, .int .i64 y]] w fun e w' => e = .returned (.agg #[.int .i64 ny, .int .i64 nx]) ∧ Below w.heap.size w w' := by
  obtain ⟨A, B⟩ := At2.two w (.int .i64 x) (.int .i64 y) (.int .i64 0) (.int .i64 0) 25 25
  obtain ⟨a0, a1, af0, af1, alt⟩ := A
  obtain ⟨b0, b1, bf0, bf1, blt⟩ := B
  have e1 : (0 : Int) - x = nx := by omega
  have e2 : (0 : Int) - y = ny := by omega
  have n1 : -9223372036854775808 ≤ nx := by omega
  have n2 : nx ≤ 9223372036854775807 := by omega
  have n3 : -9223372036854775808 ≤ ny := by omega
  have n4 : ny ≤ 9223372036854775807 := by omega
  go_enter Tryd.func24, Tryd.ntmps24
  go_wp2_with fail
  refine bodyPost_ret (v := .agg #[.int .i64 ny, .int .i64 nx]) (by simp [results, Tryd.results24, go_sem]) rfl ⟨rfl, ?_⟩
  exact below2 _ _ _
theorem move_any (a b n p q : Int) (k : Nat) (hp : a + n = p) (hq : b + n = q) (p1 : -9223372036854775808 ≤ p) (p2 : p ≤ 9223372036854775807) (q1 : -9223372036854775808 ≤ q) (q2 : q ≤ 9223372036854775807) (w : World) (A : At2 w k (.int .i64 a) (.int .i64 b)) :
    Calls Tryd.prog 23 #[.int .i64 n, .pointer (some ⟨k, 0, none⟩)] w fun e w' => e = .returned (.agg #[.int .i64 p, .int .i64 q]) ∧ Below w.heap.size w w' := by
  have B := At2.new w (.int .i64 0) (.int .i64 0) 23
  have A := A.alloc (.cells #[.int .i64 0, .int .i64 0] 23)
  obtain ⟨a0, a1, af0, af1, alt⟩ := A
  obtain ⟨b0, b1, bf0, bf1, blt⟩ := B
  go_enter Tryd.func23, Tryd.ntmps23
  go_wp2_with fail
  refine bodyPost_ret (v := .agg #[.int .i64 p, .int .i64 q]) (by simp [results, Tryd.results23, go_sem]) rfl ⟨rfl, ?_⟩
  exact below1 _ _
end Go.Proofs.YtglmkpnnbgkndaaDoor
