/- Angle: contracts of the program's Inside, Agree, Times. -/
import Derived.Test.YtndcjldnnfhedaaDoorAnQ
namespace Go.Proofs.YtndcjldnnfhedaaDoor
open Go.RowKit
set_option linter.unusedVariables false
set_option maxRecDepth 100000

/-- two arcs agree if a whole number of turns is among the differences -/
theorem agree_plain {a b c d : Int} (h1 : a ≤ b) (h2 : c ≤ d) : decide (a - d ≤ (b - c) - wrapN (b - c)) = agR a b c d := by
  rw [Bool.eq_iff_iff, decide_eq_true_iff, agR_iff]
  simp only [agK_iff]
  unfold trL trH wrapN
  by_cases k : 21600000 ≤ b - a
  · simp only [if_pos k]
    by_cases m : 21600000 ≤ d - c
    · simp only [if_pos m]
      omega
    · simp only [if_neg m]
      omega
  · simp only [if_neg k]
    by_cases m : 21600000 ≤ d - c
    · simp only [if_pos m]
      omega
    · simp only [if_neg m]
      omega

set_option maxHeartbeats 2000000 in
theorem pInside (a b c d : Int) (w : World) :
    Calls Tryd.prog 29 #[.agg #[.int .i64 a, .int .i64 b], .agg #[.int .i64 c, .int .i64 d]] w fun e w' => e = .returned (.bool (ainR a b c d)) ∧ Below w.heap.size w w' := by
  unfold ainR
  cases ha : aok a b
  · have C1 := Lib.hid (fun wx => pValid_is a b false ha wx)
    rw [Bool.false_and, Bool.false_and]
    clear ha
    have A := At2.new w (.int .i64 a) (.int .i64 b) 25
    have A := A.alloc (.cells #[.int .i64 c, .int .i64 d] 25)
    have B := At2.new (w.alloc (.cells #[.int .i64 a, .int .i64 b] 25)) (.int .i64 c) (.int .i64 d) 25
    simp at B
    have HB := Lib.hid (bstep (bstep (Below.refl w.heap.size w) (below1 w (.cells #[.int .i64 a, .int .i64 b] 25))) (below1 (w.alloc (.cells #[.int .i64 a, .int .i64 b] 25)) (.cells #[.int .i64 c, .int .i64 d] 25)))
    go_enter Tryd.func29, Tryd.ntmps29
    obtain ⟨A0, A1, -, -, -⟩ := id A
    obtain ⟨B0, B1, -, -, -⟩ := id B
    go_wp2_with fail
    clear A0 A1 B0 B1
    obtain ⟨A0, A1⟩ := A.bel
    obtain ⟨B0, B1⟩ := B.bel
    refine wp_region_bel (by kernel_rfl) (by kernel_rfl) ?_
    repeat (go_big_quiet_step (first | (go_at_call 42; first | (with_reducible refine bel_of (C1.out _)))))
    refine wpQuiet_nil ?_
    intro _ hw'
    obtain ⟨pq, hw''⟩ := hw'
    subst hw''
    have A := A.keep pq.h
    have B := B.keep pq.h
    have HB := Lib.hid (bstep HB.out pq.h)
    clear A0 A1 B0 B1
    obtain ⟨A0, A1, -, -, -⟩ := id A
    obtain ⟨B0, B1, -, -, -⟩ := id B
    go_wp2_with fail
    go_ret
    exact ⟨rfl, HB.out⟩
  · cases hc : aok c d
    · have C1 := Lib.hid (fun wx => pValid_is a b true ha wx)
      have C2 := Lib.hid (fun wx => pValid_is c d false hc wx)
      rw [Bool.true_and, Bool.false_and]
      clear ha hc
      have A := At2.new w (.int .i64 a) (.int .i64 b) 25
      have A := A.alloc (.cells #[.int .i64 c, .int .i64 d] 25)
      have B := At2.new (w.alloc (.cells #[.int .i64 a, .int .i64 b] 25)) (.int .i64 c) (.int .i64 d) 25
      simp at B
      have HB := Lib.hid (bstep (bstep (Below.refl w.heap.size w) (below1 w (.cells #[.int .i64 a, .int .i64 b] 25))) (below1 (w.alloc (.cells #[.int .i64 a, .int .i64 b] 25)) (.cells #[.int .i64 c, .int .i64 d] 25)))
      go_enter Tryd.func29, Tryd.ntmps29
      obtain ⟨A0, A1, -, -, -⟩ := id A
      obtain ⟨B0, B1, -, -, -⟩ := id B
      go_wp2_with fail
      clear A0 A1 B0 B1
      obtain ⟨A0, A1⟩ := A.bel
      obtain ⟨B0, B1⟩ := B.bel
      refine wp_region_bel (by kernel_rfl) (by kernel_rfl) ?_
      repeat (go_big_quiet_step (first | (go_at_call 42; first | (with_reducible refine bel_of (C1.out _)) | (with_reducible refine bel_of (C2.out _)))))
      refine wpQuiet_nil ?_
      intro _ hw'
      obtain ⟨pq, hw''⟩ := hw'
      subst hw''
      have A := A.keep pq.h
      have B := B.keep pq.h
      have HB := Lib.hid (bstep HB.out pq.h)
      clear A0 A1 B0 B1
      obtain ⟨A0, A1, -, -, -⟩ := id A
      obtain ⟨B0, B1, -, -, -⟩ := id B
      go_wp2_with fail
      go_ret
      exact ⟨rfl, HB.out⟩
    · have C1 := Lib.hid (fun wx => pValid_is a b true ha wx)
      have C2 := Lib.hid (fun wx => pValid_is c d true hc wx)
      rw [Bool.true_and, Bool.true_and]
      obtain ⟨x, hx⟩ : ∃ x, min a c = x := ⟨_, rfl⟩
      obtain ⟨y, hy⟩ : ∃ y, max b d = y := ⟨_, rfl⟩
      have C3 := Lib.hid (fun wx => phull_is a b c d x y hx hy wx)
      by_cases k1 : x = c
      · have t1 : (x == c) = true := beq_iff_eq.2 k1
        by_cases k2 : y = d
        · have t2 : (y == d) = true := beq_iff_eq.2 k2
          rw [decide_eq_true (show c ≤ a ∧ b ≤ d by omega)]
          clear ha hc hx hy k1 k2
          have A := At2.new w (.int .i64 a) (.int .i64 b) 25
          have A := A.alloc (.cells #[.int .i64 c, .int .i64 d] 25)
          have B := At2.new (w.alloc (.cells #[.int .i64 a, .int .i64 b] 25)) (.int .i64 c) (.int .i64 d) 25
          simp at B
          have HB := Lib.hid (bstep (bstep (Below.refl w.heap.size w) (below1 w (.cells #[.int .i64 a, .int .i64 b] 25))) (below1 (w.alloc (.cells #[.int .i64 a, .int .i64 b] 25)) (.cells #[.int .i64 c, .int .i64 d] 25)))
          go_enter Tryd.func29, Tryd.ntmps29
          obtain ⟨A0, A1, -, -, -⟩ := id A
          obtain ⟨B0, B1, -, -, -⟩ := id B
          go_wp2_with fail
          clear A0 A1 B0 B1
          obtain ⟨A0, A1⟩ := A.bel
          obtain ⟨B0, B1⟩ := B.bel
          refine wp_region_bel (by kernel_rfl) (by kernel_rfl) ?_
          repeat (go_big_quiet_step (first | (go_at_call 42; first | (with_reducible refine bel_of (C1.out _)) | (with_reducible refine bel_of (C2.out _))) | (go_at_call 43; first | (with_reducible refine bel_of (C3.out _)))))
          refine wpQuiet_nil ?_
          intro _ hw'
          obtain ⟨pq, hw''⟩ := hw'
          subst hw''
          have A := A.keep pq.h
          have B := B.keep pq.h
          have HB := Lib.hid (bstep HB.out pq.h)
          clear A0 A1 B0 B1
          obtain ⟨A0, A1, -, -, -⟩ := id A
          obtain ⟨B0, B1, -, -, -⟩ := id B
          go_wp2_with fail
          go_ret
          exact ⟨rfl, HB.out⟩
        · have t2 : (y == d) = false := beq_eq_false_iff_ne.2 k2
          rw [decide_eq_false (show ¬ (c ≤ a ∧ b ≤ d) by omega)]
          clear ha hc hx hy k1 k2
          have A := At2.new w (.int .i64 a) (.int .i64 b) 25
          have A := A.alloc (.cells #[.int .i64 c, .int .i64 d] 25)
          have B := At2.new (w.alloc (.cells #[.int .i64 a, .int .i64 b] 25)) (.int .i64 c) (.int .i64 d) 25
          simp at B
          have HB := Lib.hid (bstep (bstep (Below.refl w.heap.size w) (below1 w (.cells #[.int .i64 a, .int .i64 b] 25))) (below1 (w.alloc (.cells #[.int .i64 a, .int .i64 b] 25)) (.cells #[.int .i64 c, .int .i64 d] 25)))
          go_enter Tryd.func29, Tryd.ntmps29
          obtain ⟨A0, A1, -, -, -⟩ := id A
          obtain ⟨B0, B1, -, -, -⟩ := id B
          go_wp2_with fail
          clear A0 A1 B0 B1
          obtain ⟨A0, A1⟩ := A.bel
          obtain ⟨B0, B1⟩ := B.bel
          refine wp_region_bel (by kernel_rfl) (by kernel_rfl) ?_
          repeat (go_big_quiet_step (first | (go_at_call 42; first | (with_reducible refine bel_of (C1.out _)) | (with_reducible refine bel_of (C2.out _))) | (go_at_call 43; first | (with_reducible refine bel_of (C3.out _)))))
          refine wpQuiet_nil ?_
          intro _ hw'
          obtain ⟨pq, hw''⟩ := hw'
          subst hw''
          have A := A.keep pq.h
          have B := B.keep pq.h
          have HB := Lib.hid (bstep HB.out pq.h)
          clear A0 A1 B0 B1
          obtain ⟨A0, A1, -, -, -⟩ := id A
          obtain ⟨B0, B1, -, -, -⟩ := id B
          go_wp2_with fail
          go_ret
          exact ⟨rfl, HB.out⟩
      · have t1 : (x == c) = false := beq_eq_false_iff_ne.2 k1
        rw [decide_eq_false (show ¬ (c ≤ a ∧ b ≤ d) by omega)]
        clear ha hc hx hy k1
        have A := At2.new w (.int .i64 a) (.int .i64 b) 25
        have A := A.alloc (.cells #[.int .i64 c, .int .i64 d] 25)
        have B := At2.new (w.alloc (.cells #[.int .i64 a, .int .i64 b] 25)) (.int .i64 c) (.int .i64 d) 25
        simp at B
        have HB := Lib.hid (bstep (bstep (Below.refl w.heap.size w) (below1 w (.cells #[.int .i64 a, .int .i64 b] 25))) (below1 (w.alloc (.cells #[.int .i64 a, .int .i64 b] 25)) (.cells #[.int .i64 c, .int .i64 d] 25)))
        go_enter Tryd.func29, Tryd.ntmps29
        obtain ⟨A0, A1, -, -, -⟩ := id A
        obtain ⟨B0, B1, -, -, -⟩ := id B
        go_wp2_with fail
        clear A0 A1 B0 B1
        obtain ⟨A0, A1⟩ := A.bel
        obtain ⟨B0, B1⟩ := B.bel
        refine wp_region_bel (by kernel_rfl) (by kernel_rfl) ?_
        repeat (go_big_quiet_step (first | (go_at_call 42; first | (with_reducible refine bel_of (C1.out _)) | (with_reducible refine bel_of (C2.out _))) | (go_at_call 43; first | (with_reducible refine bel_of (C3.out _)))))
        refine wpQuiet_nil ?_
        intro _ hw'
        obtain ⟨pq, hw''⟩ := hw'
        subst hw''
        have A := A.keep pq.h
        have B := B.keep pq.h
        have HB := Lib.hid (bstep HB.out pq.h)
        clear A0 A1 B0 B1
        obtain ⟨A0, A1, -, -, -⟩ := id A
        obtain ⟨B0, B1, -, -, -⟩ := id B
        go_wp2_with fail
        go_ret
        exact ⟨rfl, HB.out⟩

end Go.Proofs.YtndcjldnnfhedaaDoor
