/- Place: contracts of the reference's small functions. -/
import Derived.Test.YtgcoddjjkcdfmaaGreatDoorPcF
import Derived.Test.YtgcoddjjkcdfmaaGreatDoorAnB
namespace Go.Proofs.YtgcoddjjkcdfmaaGreatDoor
open Go.RowKit
set_option linter.unusedVariables false
set_option maxRecDepth 100000

theorem rpLat (a b : Int) (w : World) :
    Calls Tryz.prog 23 #[.agg #[.int .i64 a, .int .i64 b]] w fun e w' => e = .returned (.bool (latOk a b)) ∧ Below w.heap.size w w' := by
  obtain ⟨a0, a1, af0, af1, alt⟩ := At2.new w (.int .i64 a) (.int .i64 b) 25
  unfold latOk
  by_cases c1 : -5400000 ≤ a
  · by_cases c2 : a ≤ b
    · by_cases c3 : b ≤ 5400000
      · rw [decide_eq_true (show -5400000 ≤ a ∧ a ≤ b ∧ b ≤ 5400000 by omega)]
        go_enter Tryz.func23, Tryz.ntmps23
        go_wp2
        go_ret
        exact ⟨by first | rfl | exact ret_bool (by simp) | (refine ret_bool ?_; rw [decide_eq_true_iff]; omega) | (refine ret_bool ?_; rw [decide_eq_false_iff_not]; omega), below1 _ _⟩
      · rw [decide_eq_false (show ¬ (-5400000 ≤ a ∧ a ≤ b ∧ b ≤ 5400000) by omega)]
        go_enter Tryz.func23, Tryz.ntmps23
        go_wp2
        go_ret
        exact ⟨by first | rfl | exact ret_bool (by simp) | (refine ret_bool ?_; rw [decide_eq_true_iff]; omega) | (refine ret_bool ?_; rw [decide_eq_false_iff_not]; omega), below1 _ _⟩
    · rw [decide_eq_false (show ¬ (-5400000 ≤ a ∧ a ≤ b ∧ b ≤ 5400000) by omega)]
      go_enter Tryz.func23, Tryz.ntmps23
      go_wp2
      go_ret
      exact ⟨by first | rfl | exact ret_bool (by simp) | (refine ret_bool ?_; rw [decide_eq_true_iff]; omega) | (refine ret_bool ?_; rw [decide_eq_false_iff_not]; omega), below1 _ _⟩
  · rw [decide_eq_false (show ¬ (-5400000 ≤ a ∧ a ≤ b ∧ b ≤ 5400000) by omega)]
    go_enter Tryz.func23, Tryz.ntmps23
    go_wp2
    go_ret
    exact ⟨by first | rfl | exact ret_bool (by simp) | (refine ret_bool ?_; rw [decide_eq_true_iff]; omega) | (refine ret_bool ?_; rw [decide_eq_false_iff_not]; omega), below1 _ _⟩
theorem rpPoint (x y : Int) (w : World) :
    Calls Tryz.prog 6 #[.agg #[.int .i64 x, .int .i64 y]] w fun e w' => e = .returned (.bool (ptOk x y)) ∧ Below w.heap.size w w' := by
  obtain ⟨a0, a1, af0, af1, alt⟩ := At2.new w (.int .i64 x) (.int .i64 y) 23
  unfold ptOk
  by_cases c1 : -5400000 ≤ x
  · by_cases c2 : x ≤ 5400000
    · by_cases c3 : -10800000 ≤ y
      · by_cases c4 : y < 10800000
        · rw [decide_eq_true (show -5400000 ≤ x ∧ x ≤ 5400000 ∧ -10800000 ≤ y ∧ y < 10800000 by omega)]
          go_enter Tryz.func6, Tryz.ntmps6
          go_wp2
          go_ret
          exact ⟨by first | rfl | exact ret_bool (by simp) | (refine ret_bool ?_; rw [decide_eq_true_iff]; omega) | (refine ret_bool ?_; rw [decide_eq_false_iff_not]; omega), below1 _ _⟩
        · rw [decide_eq_false (show ¬ (-5400000 ≤ x ∧ x ≤ 5400000 ∧ -10800000 ≤ y ∧ y < 10800000) by omega)]
          go_enter Tryz.func6, Tryz.ntmps6
          go_wp2
          go_ret
          exact ⟨by first | rfl | exact ret_bool (by simp) | (refine ret_bool ?_; rw [decide_eq_true_iff]; omega) | (refine ret_bool ?_; rw [decide_eq_false_iff_not]; omega), below1 _ _⟩
      · rw [decide_eq_false (show ¬ (-5400000 ≤ x ∧ x ≤ 5400000 ∧ -10800000 ≤ y ∧ y < 10800000) by omega)]
        go_enter Tryz.func6, Tryz.ntmps6
        go_wp2
        go_ret
        exact ⟨by first | rfl | exact ret_bool (by simp) | (refine ret_bool ?_; rw [decide_eq_true_iff]; omega) | (refine ret_bool ?_; rw [decide_eq_false_iff_not]; omega), below1 _ _⟩
    · rw [decide_eq_false (show ¬ (-5400000 ≤ x ∧ x ≤ 5400000 ∧ -10800000 ≤ y ∧ y < 10800000) by omega)]
      go_enter Tryz.func6, Tryz.ntmps6
      go_wp2
      go_ret
      exact ⟨by first | rfl | exact ret_bool (by simp) | (refine ret_bool ?_; rw [decide_eq_true_iff]; omega) | (refine ret_bool ?_; rw [decide_eq_false_iff_not]; omega), below1 _ _⟩
  · rw [decide_eq_false (show ¬ (-5400000 ≤ x ∧ x ≤ 5400000 ∧ -10800000 ≤ y ∧ y < 10800000) by omega)]
    go_enter Tryz.func6, Tryz.ntmps6
    go_wp2
    go_ret
    exact ⟨by first | rfl | exact ret_bool (by simp) | (refine ret_bool ?_; rw [decide_eq_true_iff]; omega) | (refine ret_bool ?_; rw [decide_eq_false_iff_not]; omega), below1 _ _⟩
theorem rpAll (w : World) :
    Calls Tryz.prog 40 #[] w fun e w' => e = .returned (.agg #[.int .i64 (-10800000), .int .i64 10800000]) ∧ Below w.heap.size w w' := by
  go_enter Tryz.func40, Tryz.ntmps40
  go_wp2_with fail
  have R := At2.new w (.int .i64 (-10800000)) (.int .i64 10800000) 25
  obtain ⟨z0, z1, -, -, -⟩ := id R
  refine bodyPost_ret (v := .agg #[.int .i64 (-10800000), .int .i64 10800000]) (by simp [results, Tryz.results40, go_sem]) rfl ⟨rfl, below1 _ _⟩
set_option maxHeartbeats 2000000 in
theorem rpLon (a b : Int) (w : World) :
    Calls Tryz.prog 24 #[.agg #[.int .i64 a, .int .i64 b]] w fun e w' => e = .returned (.bool (lonOk a b)) ∧ Below w.heap.size w w' := by
  have A := At2.new w (.int .i64 a) (.int .i64 b) 25
  have HB := Lib.hid (below1 w (.cells #[.int .i64 a, .int .i64 b] 25))
  have CA := Lib.hid (fun wx => rpAll wx)
  by_cases ha : a = -10800000
  · by_cases hb : b = 10800000
    · rw [show lonOk a b = true from decide_eq_true (by omega)]
      subst ha hb
      go_enter Tryz.func24, Tryz.ntmps24
      go_upto_region 1 with fail
      generalize (w.alloc (.cells #[.int .i64 (-10800000), .int .i64 10800000] 25)) = W at *
      obtain ⟨A0, A1⟩ := A.bel
      refine wp_region_bel (by kernel_rfl) (by kernel_rfl) ?_
      repeat (go_big_quiet_step (first | (go_at_call 40; with_reducible refine bel_of (CA.out _))))
      refine wpQuiet_nil ?_
      intro _ hw'
      obtain ⟨pq, hw''⟩ := hw'
      subst hw''
      have HB := Lib.hid (bstep HB.out pq.h)
      go_wp2_with fail
      go_ret
      exact ⟨by first | rfl | exact ret_bool (by simp) | (refine ret_bool ?_; rw [decide_eq_true_iff]; omega) | (refine ret_bool ?_; rw [decide_eq_false_iff_not]; omega), HB.out⟩
    · have hbb : (b == 10800000) = false := beq_eq_false_iff_ne.2 hb
      by_cases c3 : -10800000 ≤ b
      · by_cases c4 : b < 10800000
        · rw [show lonOk a b = true from decide_eq_true (by omega)]
          subst ha
          go_enter Tryz.func24, Tryz.ntmps24
          go_upto_region 1 with fail
          generalize (w.alloc (.cells #[.int .i64 (-10800000), .int .i64 b] 25)) = W at *
          obtain ⟨A0, A1⟩ := A.bel
          refine wp_region_bel (by kernel_rfl) (by kernel_rfl) ?_
          repeat (go_big_quiet_step (first | (go_at_call 40; with_reducible refine bel_of (CA.out _))))
          refine wpQuiet_nil ?_
          intro _ hw'
          obtain ⟨pq, hw''⟩ := hw'
          subst hw''
          have HB := Lib.hid (bstep HB.out pq.h)
          go_wp2_with fail
          go_ret
          exact ⟨by first | rfl | exact ret_bool (by simp) | (refine ret_bool ?_; rw [decide_eq_true_iff]; omega) | (refine ret_bool ?_; rw [decide_eq_false_iff_not]; omega), HB.out⟩
        · rw [show lonOk a b = false from decide_eq_false (by omega)]
          subst ha
          go_enter Tryz.func24, Tryz.ntmps24
          go_upto_region 1 with fail
          generalize (w.alloc (.cells #[.int .i64 (-10800000), .int .i64 b] 25)) = W at *
          obtain ⟨A0, A1⟩ := A.bel
          refine wp_region_bel (by kernel_rfl) (by kernel_rfl) ?_
          repeat (go_big_quiet_step (first | (go_at_call 40; with_reducible refine bel_of (CA.out _))))
          refine wpQuiet_nil ?_
          intro _ hw'
          obtain ⟨pq, hw''⟩ := hw'
          subst hw''
          have HB := Lib.hid (bstep HB.out pq.h)
          go_wp2_with fail
          go_ret
          exact ⟨by first | rfl | exact ret_bool (by simp) | (refine ret_bool ?_; rw [decide_eq_true_iff]; omega) | (refine ret_bool ?_; rw [decide_eq_false_iff_not]; omega), HB.out⟩
      · rw [show lonOk a b = false from decide_eq_false (by omega)]
        subst ha
        go_enter Tryz.func24, Tryz.ntmps24
        go_upto_region 1 with fail
        generalize (w.alloc (.cells #[.int .i64 (-10800000), .int .i64 b] 25)) = W at *
        obtain ⟨A0, A1⟩ := A.bel
        refine wp_region_bel (by kernel_rfl) (by kernel_rfl) ?_
        repeat (go_big_quiet_step (first | (go_at_call 40; with_reducible refine bel_of (CA.out _))))
        refine wpQuiet_nil ?_
        intro _ hw'
        obtain ⟨pq, hw''⟩ := hw'
        subst hw''
        have HB := Lib.hid (bstep HB.out pq.h)
        go_wp2_with fail
        go_ret
        exact ⟨by first | rfl | exact ret_bool (by simp) | (refine ret_bool ?_; rw [decide_eq_true_iff]; omega) | (refine ret_bool ?_; rw [decide_eq_false_iff_not]; omega), HB.out⟩
  · have hab : (a == -10800000) = false := beq_eq_false_iff_ne.2 ha
    by_cases c1 : -10800000 ≤ a
    · by_cases c2 : a < 10800000
      · by_cases c3 : a ≤ b
        · by_cases c4 : b < a + 21600000
          · rw [show lonOk a b = true from decide_eq_true (by omega)]
            go_enter Tryz.func24, Tryz.ntmps24
            go_upto_region 1 with fail
            generalize (w.alloc (.cells #[.int .i64 a, .int .i64 b] 25)) = W at *
            obtain ⟨A0, A1⟩ := A.bel
            refine wp_region_bel (by kernel_rfl) (by kernel_rfl) ?_
            repeat (go_big_quiet_step (first | (go_at_call 40; with_reducible refine bel_of (CA.out _))))
            refine wpQuiet_nil ?_
            intro _ hw'
            obtain ⟨pq, hw''⟩ := hw'
            subst hw''
            have HB := Lib.hid (bstep HB.out pq.h)
            go_wp2_with fail
            go_ret
            exact ⟨by first | rfl | exact ret_bool (by simp) | (refine ret_bool ?_; rw [decide_eq_true_iff]; omega) | (refine ret_bool ?_; rw [decide_eq_false_iff_not]; omega), HB.out⟩
          · rw [show lonOk a b = false from decide_eq_false (by omega)]
            go_enter Tryz.func24, Tryz.ntmps24
            go_upto_region 1 with fail
            generalize (w.alloc (.cells #[.int .i64 a, .int .i64 b] 25)) = W at *
            obtain ⟨A0, A1⟩ := A.bel
            refine wp_region_bel (by kernel_rfl) (by kernel_rfl) ?_
            repeat (go_big_quiet_step (first | (go_at_call 40; with_reducible refine bel_of (CA.out _))))
            refine wpQuiet_nil ?_
            intro _ hw'
            obtain ⟨pq, hw''⟩ := hw'
            subst hw''
            have HB := Lib.hid (bstep HB.out pq.h)
            go_wp2_with fail
            go_ret
            exact ⟨by first | rfl | exact ret_bool (by simp) | (refine ret_bool ?_; rw [decide_eq_true_iff]; omega) | (refine ret_bool ?_; rw [decide_eq_false_iff_not]; omega), HB.out⟩
        · rw [show lonOk a b = false from decide_eq_false (by omega)]
          go_enter Tryz.func24, Tryz.ntmps24
          go_upto_region 1 with fail
          generalize (w.alloc (.cells #[.int .i64 a, .int .i64 b] 25)) = W at *
          obtain ⟨A0, A1⟩ := A.bel
          refine wp_region_bel (by kernel_rfl) (by kernel_rfl) ?_
          repeat (go_big_quiet_step (first | (go_at_call 40; with_reducible refine bel_of (CA.out _))))
          refine wpQuiet_nil ?_
          intro _ hw'
          obtain ⟨pq, hw''⟩ := hw'
          subst hw''
          have HB := Lib.hid (bstep HB.out pq.h)
          go_wp2_with fail
          go_ret
          exact ⟨by first | rfl | exact ret_bool (by simp) | (refine ret_bool ?_; rw [decide_eq_true_iff]; omega) | (refine ret_bool ?_; rw [decide_eq_false_iff_not]; omega), HB.out⟩
      · rw [show lonOk a b = false from decide_eq_false (by omega)]
        go_enter Tryz.func24, Tryz.ntmps24
        go_upto_region 1 with fail
        generalize (w.alloc (.cells #[.int .i64 a, .int .i64 b] 25)) = W at *
        obtain ⟨A0, A1⟩ := A.bel
        refine wp_region_bel (by kernel_rfl) (by kernel_rfl) ?_
        repeat (go_big_quiet_step (first | (go_at_call 40; with_reducible refine bel_of (CA.out _))))
        refine wpQuiet_nil ?_
        intro _ hw'
        obtain ⟨pq, hw''⟩ := hw'
        subst hw''
        have HB := Lib.hid (bstep HB.out pq.h)
        go_wp2_with fail
        go_ret
        exact ⟨by first | rfl | exact ret_bool (by simp) | (refine ret_bool ?_; rw [decide_eq_true_iff]; omega) | (refine ret_bool ?_; rw [decide_eq_false_iff_not]; omega), HB.out⟩
    · rw [show lonOk a b = false from decide_eq_false (by omega)]
      go_enter Tryz.func24, Tryz.ntmps24
      go_upto_region 1 with fail
      generalize (w.alloc (.cells #[.int .i64 a, .int .i64 b] 25)) = W at *
      obtain ⟨A0, A1⟩ := A.bel
      refine wp_region_bel (by kernel_rfl) (by kernel_rfl) ?_
      repeat (go_big_quiet_step (first | (go_at_call 40; with_reducible refine bel_of (CA.out _))))
      refine wpQuiet_nil ?_
      intro _ hw'
      obtain ⟨pq, hw''⟩ := hw'
      subst hw''
      have HB := Lib.hid (bstep HB.out pq.h)
      go_wp2_with fail
      go_ret
      exact ⟨by first | rfl | exact ret_bool (by simp) | (refine ret_bool ?_; rw [decide_eq_true_iff]; omega) | (refine ret_bool ?_; rw [decide_eq_false_iff_not]; omega), HB.out⟩
theorem still8 {f : Nat} {args : Array Value} {w : World} {v : Value} (C : Calls Tryz.prog f args w fun e w' => e = .returned v ∧ w' = w) : Calls Tryz.prog f args w fun e w' => e = .returned v ∧ Below w.heap.size w w' := C.mono fun e w' h => ⟨h.1, h.2 ▸ Below.refl _ _⟩
theorem has_part {c d y : Int} (k : lonOk c d = true) (hy : -10800000 ≤ y ∧ y < 10800000) : decide ((y - c) % 21600000 ≤ d - c) = partB y y c d := by
  rw [lonOk_iff] at k
  rw [Bool.eq_iff_iff, partB_iff, decide_eq_true_iff]
  omega
theorem rpValid (a b c d : Int) (w : World) :
    Calls Tryz.prog 11 #[.agg #[.int .i64 a, .int .i64 b, .int .i64 c, .int .i64 d]] w fun e w' => e = .returned (.bool (plOk a b c d)) ∧ Below w.heap.size w w' := by
  have A := At4.new w (.int .i64 a) (.int .i64 b) (.int .i64 c) (.int .i64 d) 27
  have HB := Lib.hid (below1 w (.cells #[.int .i64 a, .int .i64 b, .int .i64 c, .int .i64 d] 27))
  have C1 := Lib.hid (fun wx => rpLat a b wx)
  have C2 := Lib.hid (fun wx => rpLon c d wx)
  unfold plOk
  generalize lonOk c d = lo at *
  generalize latOk a b = la at *
  obtain ⟨A0, A1, A2, A3, -, -, -, -, -⟩ := id A
  cases la
  · go_enter Tryz.func11, Tryz.ntmps11
    go_wp2_with fail
    refine ((C1).out _).mono ?_
    rintro e w1 ⟨rfl, hb⟩
    clear A0 A1 A2 A3
    have A := A.keep hb
    have HB := Lib.hid (bstep HB.out hb)
    clear hb
    obtain ⟨A0, A1, A2, A3, -, -, -, -, -⟩ := id A
    go_wp2_with fail
    go_ret
    exact ⟨by first | rfl | exact ret_bool (by simp), HB.out⟩
  · go_enter Tryz.func11, Tryz.ntmps11
    go_wp2_with fail
    refine ((C1).out _).mono ?_
    rintro e w1 ⟨rfl, hb⟩
    clear A0 A1 A2 A3
    have A := A.keep hb
    have HB := Lib.hid (bstep HB.out hb)
    clear hb
    obtain ⟨A0, A1, A2, A3, -, -, -, -, -⟩ := id A
    go_wp2_with fail
    refine ((C2).out _).mono ?_
    rintro e w2 ⟨rfl, hb⟩
    clear A0 A1 A2 A3
    have A := A.keep hb
    have HB := Lib.hid (bstep HB.out hb)
    clear hb
    obtain ⟨A0, A1, A2, A3, -, -, -, -, -⟩ := id A
    go_wp2_with fail
    go_ret
    exact ⟨by first | rfl | exact ret_bool (by simp), HB.out⟩
end Go.Proofs.YtgcoddjjkcdfmaaGreatDoor
