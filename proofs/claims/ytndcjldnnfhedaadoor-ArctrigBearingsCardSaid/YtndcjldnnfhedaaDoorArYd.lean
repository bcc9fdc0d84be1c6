/- Arctrig: the reference's before, Origin, Valid. -/
import Derived.Test.YtndcjldnnfhedaaDoorArd
namespace Go.Proofs.YtndcjldnnfhedaaDoor
open Go.RowKit
set_option linter.unusedVariables false
set_option maxRecDepth 100000

theorem rBefore (x y u v : Int) (A : In31 (x, y)) (B : In31 (u, v)) (w : World) :
    Calls Tryd.prog 25 #[.agg #[.int .i64 x, .int .i64 y], .agg #[.int .i64 u, .int .i64 v]] w fun e w' => e = .returned (.bool (bf (x, y) (u, v))) ∧ Below w.heap.size w w' := by
  obtain ⟨A1, A2, A3, A4⟩ := A
  obtain ⟨B1, B2, B3, B4⟩ := B
  change -2147483648 ≤ x at A1
  change x ≤ 2147483648 at A2
  change -2147483648 ≤ y at A3
  change y ≤ 2147483648 at A4
  change -2147483648 ≤ u at B1
  change u ≤ 2147483648 at B2
  change -2147483648 ≤ v at B3
  change v ≤ 2147483648 at B4
  obtain ⟨p1, p2⟩ := prod_in A3 A4 B1 B2
  obtain ⟨q1, q2⟩ := prod_in A1 A2 B3 B4
  obtain ⟨P, Q⟩ := At2.two w (.int .i64 x) (.int .i64 y) (.int .i64 u) (.int .i64 v) 57 57
  obtain ⟨P0, P1, -, -, -⟩ := id P
  obtain ⟨Q0, Q1, -, -, -⟩ := id Q
  unfold bf
  show Calls _ _ _ _ fun e w' => e = .returned (.bool (decide (y * u < x * v))) ∧ _
  obtain ⟨p, hp⟩ : ∃ p, y * u = p := ⟨_, rfl⟩
  obtain ⟨q, hq⟩ : ∃ q, x * v = q := ⟨_, rfl⟩
  rw [hp] at p1 p2 ⊢
  rw [hq] at q1 q2 ⊢
  clear A1 A2 A3 A4 B1 B2 B3 B4
  by_cases c : p < q
  · rw [decide_eq_true c]
    go_enter Tryd.func25, Tryd.ntmps25
    go_wp2_with fail
    go_ret
    exact ⟨rfl, below2 _ _ _⟩
  · rw [decide_eq_false c]
    go_enter Tryd.func25, Tryd.ntmps25
    go_wp2_with fail
    go_ret
    exact ⟨rfl, below2 _ _ _⟩
theorem rBefore_p (a b : Int × Int) (A : In31 a) (B : In31 b) (r : Bool) (h : bf a b = r) (w : World) :
    Calls Tryd.prog 25 #[.agg #[.int .i64 a.1, .int .i64 a.2], .agg #[.int .i64 b.1, .int .i64 b.2]] w fun e w' => e = .returned (.bool r) ∧ Below w.heap.size w w' := h ▸ rBefore a.1 a.2 b.1 b.2 A B w
theorem rOrigin (a b c d : Int) (w : World) :
    Calls Tryd.prog 24 #[.agg #[.int .i64 a, .int .i64 b], .agg #[.int .i64 c, .int .i64 d]] w fun e w' => e = .returned (.bool (zI a b && zI c d)) ∧ Below w.heap.size w w' := by
  obtain ⟨P, Q⟩ := At2.two w (.int .i64 a) (.int .i64 b) (.int .i64 c) (.int .i64 d) 23 23
  obtain ⟨P0, P1, -, -, -⟩ := id P
  obtain ⟨Q0, Q1, -, -, -⟩ := id Q
  unfold zI
  by_cases c1 : a ≤ 0
  · by_cases c2 : b ≥ 0
    · by_cases c3 : c ≤ 0
      · by_cases c4 : d ≥ 0
        · rw [decide_eq_true (show a ≤ 0 ∧ 0 ≤ b by omega), decide_eq_true (show c ≤ 0 ∧ 0 ≤ d by omega)]
          go_enter Tryd.func24, Tryd.ntmps24
          go_wp2_with fail
          go_ret
          exact ⟨rfl, below2 _ _ _⟩
        · rw [decide_eq_true (show a ≤ 0 ∧ 0 ≤ b by omega), decide_eq_false (show ¬ (c ≤ 0 ∧ 0 ≤ d) by omega)]
          go_enter Tryd.func24, Tryd.ntmps24
          go_wp2_with fail
          go_ret
          exact ⟨rfl, below2 _ _ _⟩
      · rw [decide_eq_true (show a ≤ 0 ∧ 0 ≤ b by omega), decide_eq_false (show ¬ (c ≤ 0 ∧ 0 ≤ d) by omega)]
        go_enter Tryd.func24, Tryd.ntmps24
        go_wp2_with fail
        go_ret
        exact ⟨rfl, below2 _ _ _⟩
    · rw [decide_eq_false (show ¬ (a ≤ 0 ∧ 0 ≤ b) by omega), Bool.false_and]
      go_enter Tryd.func24, Tryd.ntmps24
      go_wp2_with fail
      go_ret
      exact ⟨rfl, below2 _ _ _⟩
  · rw [decide_eq_false (show ¬ (a ≤ 0 ∧ 0 ≤ b) by omega), Bool.false_and]
    go_enter Tryd.func24, Tryd.ntmps24
    go_wp2_with fail
    go_ret
    exact ⟨rfl, below2 _ _ _⟩
end Go.Proofs.YtndcjldnnfhedaaDoor
