/- Angle: contracts of the program's functions of arcs. -/
import Derived.Test.YtndcjldnnfhedaaDoorAnK
namespace Go.Proofs.YtndcjldnnfhedaaDoor
open Go.RowKit
set_option linter.unusedVariables false
set_option maxRecDepth 100000

theorem pWrap (n : Int) (w : World) :
    Calls Tryd.prog 56 #[.int .i64 n] w fun e w' => e = .returned (.int .i64 (wrapN n)) ∧ w' = w := by
  obtain ⟨m1, m2, m3, m4⟩ := tmodT n
  unfold wrapN
  generalize n % 21600000 = v at *
  obtain ⟨r, hr⟩ : ∃ r, n.tmod 21600000 = r := ⟨_, rfl⟩
  rw [hr] at m1 m2 m3 m4
  by_cases h : r < 0
  · have E := Lib.hid (m1 h)
    clear m1 m2
    go_enter Tryd.func56, Tryd.ntmps56
    go_wp2
    go_ret
    exact ⟨ret_int (by have := E.out; go_num), rfl⟩
  · have E := Lib.hid (m2 h)
    clear m1 m2
    go_enter Tryd.func56, Tryd.ntmps56
    go_wp2
    go_ret
    exact ⟨ret_int (by have := E.out; go_num), rfl⟩

theorem pSigned (n : Int) (w : World) :
    Calls Tryd.prog 44 #[.int .i64 n] w fun e w' => e = .returned (.int .i64 (signN n)) ∧ w' = w := by
  have CW := Lib.hid (fun wx => pWrap n wx)
  have hw := wrapN_in n
  rw [show signN n = if 10800000 ≤ wrapN n then wrapN n - 21600000 else wrapN n from rfl]
  generalize wrapN n = v at *
  obtain ⟨v1, v2⟩ := hw
  by_cases h : v ≥ 10800000
  · rw [if_pos (show 10800000 ≤ v from h)]
    go_enter Tryd.func44, Tryd.ntmps44
    go_wp2_with fail
    refine (CW.out _).mono ?_
    rintro e w1 ⟨rfl, rfl⟩
    go_wp2_with fail
    go_ret
    exact ⟨rfl, rfl⟩
  · rw [if_neg (show ¬ 10800000 ≤ v from h)]
    go_enter Tryd.func44, Tryd.ntmps44
    go_wp2_with fail
    refine (CW.out _).mono ?_
    rintro e w1 ⟨rfl, rfl⟩
    go_wp2_with fail
    go_ret
    exact ⟨rfl, rfl⟩

theorem pValid (a b : Int) (w : World) :
    Calls Tryd.prog 42 #[.agg #[.int .i64 a, .int .i64 b]] w fun e w' => e = .returned (.bool (aok a b)) ∧ Below w.heap.size w w' := by
  obtain ⟨a0, a1, af0, af1, alt⟩ := At2.new w (.int .i64 a) (.int .i64 b) 25
  unfold aok
  by_cases c1 : -1099511627776 ≤ a
  · by_cases c2 : a ≤ b
    · by_cases c3 : b ≤ 1099511627776
      · rw [decide_eq_true (show -1099511627776 ≤ a ∧ b ≤ 1099511627776 ∧ a ≤ b by omega)]
        go_enter Tryd.func42, Tryd.ntmps42
        go_wp2
        go_ret
        exact ⟨rfl, below1 _ _⟩
      · rw [decide_eq_false (show ¬ (-1099511627776 ≤ a ∧ b ≤ 1099511627776 ∧ a ≤ b) by omega)]
        go_enter Tryd.func42, Tryd.ntmps42
        go_wp2
        go_ret
        exact ⟨rfl, below1 _ _⟩
    · rw [decide_eq_false (show ¬ (-1099511627776 ≤ a ∧ b ≤ 1099511627776 ∧ a ≤ b) by omega)]
      go_enter Tryd.func42, Tryd.ntmps42
      go_wp2
      go_ret
      exact ⟨rfl, below1 _ _⟩
  · rw [decide_eq_false (show ¬ (-1099511627776 ≤ a ∧ b ≤ 1099511627776 ∧ a ≤ b) by omega)]
    go_enter Tryd.func42, Tryd.ntmps42
    go_wp2
    go_ret
    exact ⟨rfl, below1 _ _⟩
theorem pValid_is (a b : Int) (r : Bool) (h : aok a b = r) (w : World) :
    Calls Tryd.prog 42 #[.agg #[.int .i64 a, .int .i64 b]] w fun e w' => e = .returned (.bool r) ∧ Below w.heap.size w w' := h ▸ pValid a b w

theorem pFits (n : Int) (w : World) :
    Calls Tryd.prog 77 #[.int .i64 n] w fun e w' => e = .returned (.bool (inA n)) ∧ w' = w := by
  unfold inA
  by_cases c1 : -1099511627776 ≤ n
  · by_cases c2 : n ≤ 1099511627776
    · rw [decide_eq_true (show -1099511627776 ≤ n ∧ n ≤ 1099511627776 by omega)]
      go_enter Tryd.func77, Tryd.ntmps77
      go_wp2
      go_ret
      exact ⟨rfl, rfl⟩
    · rw [decide_eq_false (show ¬ (-1099511627776 ≤ n ∧ n ≤ 1099511627776) by omega)]
      go_enter Tryd.func77, Tryd.ntmps77
      go_wp2
      go_ret
      exact ⟨rfl, rfl⟩
  · rw [decide_eq_false (show ¬ (-1099511627776 ≤ n ∧ n ≤ 1099511627776) by omega)]
    go_enter Tryd.func77, Tryd.ntmps77
    go_wp2
    go_ret
    exact ⟨rfl, rfl⟩

theorem phull (a b c d : Int) (w : World) :
    Calls Tryd.prog 43 #[.agg #[.int .i64 a, .int .i64 b], .agg #[.int .i64 c, .int .i64 d]] w fun e w' => e = .returned (vI (min a c) (max b d)) ∧ Below w.heap.size w w' := by
  unfold vI
  by_cases k1 : c < a
  · rw [show min a c = c by omega]
    by_cases k2 : d > b
    · rw [show max b d = d by omega]
      have A := At2.new w (.int .i64 a) (.int .i64 b) 25
      have A := A.alloc (.cells #[.int .i64 c, .int .i64 d] 25)
      have B := At2.new (w.alloc (.cells #[.int .i64 a, .int .i64 b] 25)) (.int .i64 c) (.int .i64 d) 25
      simp at B
      have A := A.alloc (.cells #[.int .i64 0, .int .i64 0] 25)
      have B := B.alloc (.cells #[.int .i64 0, .int .i64 0] 25)
      have R := At2.new ((w.alloc (.cells #[.int .i64 a, .int .i64 b] 25)).alloc (.cells #[.int .i64 c, .int .i64 d] 25)) (.int .i64 0) (.int .i64 0) 25
      simp at R
      have HB := Lib.hid (bstep (bstep (bstep (Below.refl w.heap.size w) (below1 w (.cells #[.int .i64 a, .int .i64 b] 25))) (below1 (w.alloc (.cells #[.int .i64 a, .int .i64 b] 25)) (.cells #[.int .i64 c, .int .i64 d] 25))) (below1 ((w.alloc (.cells #[.int .i64 a, .int .i64 b] 25)).alloc (.cells #[.int .i64 c, .int .i64 d] 25)) (.cells #[.int .i64 0, .int .i64 0] 25)))
      go_enter Tryd.func43, Tryd.ntmps43
      obtain ⟨A0, A1, -, -, -⟩ := id A
      obtain ⟨B0, B1, -, -, -⟩ := id B
      obtain ⟨R0, R1, R2, R3, R4⟩ := id R
      go_wp2_with fail
      refine bodyPost_ret (v := .agg #[.int .i64 c, .int .i64 d]) (by simp [results, Tryd.results43, go_sem]) rfl ⟨rfl, ?_⟩
      exact below3 _ _ _ _
    · rw [show max b d = b by omega]
      have A := At2.new w (.int .i64 a) (.int .i64 b) 25
      have A := A.alloc (.cells #[.int .i64 c, .int .i64 d] 25)
      have B := At2.new (w.alloc (.cells #[.int .i64 a, .int .i64 b] 25)) (.int .i64 c) (.int .i64 d) 25
      simp at B
      have A := A.alloc (.cells #[.int .i64 0, .int .i64 0] 25)
      have B := B.alloc (.cells #[.int .i64 0, .int .i64 0] 25)
      have R := At2.new ((w.alloc (.cells #[.int .i64 a, .int .i64 b] 25)).alloc (.cells #[.int .i64 c, .int .i64 d] 25)) (.int .i64 0) (.int .i64 0) 25
      simp at R
      have HB := Lib.hid (bstep (bstep (bstep (Below.refl w.heap.size w) (below1 w (.cells #[.int .i64 a, .int .i64 b] 25))) (below1 (w.alloc (.cells #[.int .i64 a, .int .i64 b] 25)) (.cells #[.int .i64 c, .int .i64 d] 25))) (below1 ((w.alloc (.cells #[.int .i64 a, .int .i64 b] 25)).alloc (.cells #[.int .i64 c, .int .i64 d] 25)) (.cells #[.int .i64 0, .int .i64 0] 25)))
      go_enter Tryd.func43, Tryd.ntmps43
      obtain ⟨A0, A1, -, -, -⟩ := id A
      obtain ⟨B0, B1, -, -, -⟩ := id B
      obtain ⟨R0, R1, R2, R3, R4⟩ := id R
      go_wp2_with fail
      refine bodyPost_ret (v := .agg #[.int .i64 c, .int .i64 b]) (by simp [results, Tryd.results43, go_sem]) rfl ⟨rfl, ?_⟩
      exact below3 _ _ _ _
  · rw [show min a c = a by omega]
    by_cases k2 : d > b
    · rw [show max b d = d by omega]
      have A := At2.new w (.int .i64 a) (.int .i64 b) 25
      have A := A.alloc (.cells #[.int .i64 c, .int .i64 d] 25)
      have B := At2.new (w.alloc (.cells #[.int .i64 a, .int .i64 b] 25)) (.int .i64 c) (.int .i64 d) 25
      simp at B
      have A := A.alloc (.cells #[.int .i64 0, .int .i64 0] 25)
      have B := B.alloc (.cells #[.int .i64 0, .int .i64 0] 25)
      have R := At2.new ((w.alloc (.cells #[.int .i64 a, .int .i64 b] 25)).alloc (.cells #[.int .i64 c, .int .i64 d] 25)) (.int .i64 0) (.int .i64 0) 25
      simp at R
      have HB := Lib.hid (bstep (bstep (bstep (Below.refl w.heap.size w) (below1 w (.cells #[.int .i64 a, .int .i64 b] 25))) (below1 (w.alloc (.cells #[.int .i64 a, .int .i64 b] 25)) (.cells #[.int .i64 c, .int .i64 d] 25))) (below1 ((w.alloc (.cells #[.int .i64 a, .int .i64 b] 25)).alloc (.cells #[.int .i64 c, .int .i64 d] 25)) (.cells #[.int .i64 0, .int .i64 0] 25)))
      go_enter Tryd.func43, Tryd.ntmps43
      obtain ⟨A0, A1, -, -, -⟩ := id A
      obtain ⟨B0, B1, -, -, -⟩ := id B
      obtain ⟨R0, R1, R2, R3, R4⟩ := id R
      go_wp2_with fail
      refine bodyPost_ret (v := .agg #[.int .i64 a, .int .i64 d]) (by simp [results, Tryd.results43, go_sem]) rfl ⟨rfl, ?_⟩
      exact below3 _ _ _ _
    · rw [show max b d = b by omega]
      have A := At2.new w (.int .i64 a) (.int .i64 b) 25
      have A := A.alloc (.cells #[.int .i64 c, .int .i64 d] 25)
      have B := At2.new (w.alloc (.cells #[.int .i64 a, .int .i64 b] 25)) (.int .i64 c) (.int .i64 d) 25
      simp at B
      have A := A.alloc (.cells #[.int .i64 0, .int .i64 0] 25)
      have B := B.alloc (.cells #[.int .i64 0, .int .i64 0] 25)
      have R := At2.new ((w.alloc (.cells #[.int .i64 a, .int .i64 b] 25)).alloc (.cells #[.int .i64 c, .int .i64 d] 25)) (.int .i64 0) (.int .i64 0) 25
      simp at R
      have HB := Lib.hid (bstep (bstep (bstep (Below.refl w.heap.size w) (below1 w (.cells #[.int .i64 a, .int .i64 b] 25))) (below1 (w.alloc (.cells #[.int .i64 a, .int .i64 b] 25)) (.cells #[.int .i64 c, .int .i64 d] 25))) (below1 ((w.alloc (.cells #[.int .i64 a, .int .i64 b] 25)).alloc (.cells #[.int .i64 c, .int .i64 d] 25)) (.cells #[.int .i64 0, .int .i64 0] 25)))
      go_enter Tryd.func43, Tryd.ntmps43
      obtain ⟨A0, A1, -, -, -⟩ := id A
      obtain ⟨B0, B1, -, -, -⟩ := id B
      obtain ⟨R0, R1, R2, R3, R4⟩ := id R
      go_wp2_with fail
      refine bodyPost_ret (v := .agg #[.int .i64 a, .int .i64 b]) (by simp [results, Tryd.results43, go_sem]) rfl ⟨rfl, ?_⟩
      exact below3 _ _ _ _
theorem phull_is (a b c d x y : Int) (hx : min a c = x) (hy : max b d = y) (w : World) :
    Calls Tryd.prog 43 #[.agg #[.int .i64 a, .int .i64 b], .agg #[.int .i64 c, .int .i64 d]] w fun e w' => e = .returned (.agg #[.int .i64 x, .int .i64 y]) ∧ Below w.heap.size w w' := by
  have h := phull a b c d w
  rw [hx, hy] at h
  exact h

set_option maxHeartbeats 1000000 in
theorem pHull (a b c d : Int) (w : World) :
    Calls Tryd.prog 33 #[.agg #[.int .i64 a, .int .i64 b], .agg #[.int .i64 c, .int .i64 d]] w fun e w' => e = .returned (vR (vA (aok a b && aok c d) (ahullR a b c d))) ∧ Below w.heap.size w w' := by
  cases ha : aok a b
  · have C1 := Lib.hid (fun wx => pValid_is a b false ha wx)
    rw [Bool.false_and, vA_no _ rfl]
    unfold vR
    clear ha
    have A := At2.new w (.int .i64 a) (.int .i64 b) 25
    have A := A.alloc (.cells #[.int .i64 c, .int .i64 d] 25)
    have B := At2.new (w.alloc (.cells #[.int .i64 a, .int .i64 b] 25)) (.int .i64 c) (.int .i64 d) 25
    simp at B
    have A := A.alloc (.cells #[.int .i64 0, .int .i64 0] 25)
    have B := B.alloc (.cells #[.int .i64 0, .int .i64 0] 25)
    have R := At2.new ((w.alloc (.cells #[.int .i64 a, .int .i64 b] 25)).alloc (.cells #[.int .i64 c, .int .i64 d] 25)) (.int .i64 0) (.int .i64 0) 25
    simp at R
    have HB := Lib.hid (bstep (bstep (bstep (Below.refl w.heap.size w) (below1 w (.cells #[.int .i64 a, .int .i64 b] 25))) (below1 (w.alloc (.cells #[.int .i64 a, .int .i64 b] 25)) (.cells #[.int .i64 c, .int .i64 d] 25))) (below1 ((w.alloc (.cells #[.int .i64 a, .int .i64 b] 25)).alloc (.cells #[.int .i64 c, .int .i64 d] 25)) (.cells #[.int .i64 0, .int .i64 0] 25)))
    go_enter Tryd.func33, Tryd.ntmps33
    obtain ⟨A0, A1, -, -, -⟩ := id A
    obtain ⟨B0, B1, -, -, -⟩ := id B
    obtain ⟨R0, R1, R2, R3, R4⟩ := id R
    go_wp2_with fail
    refine (C1.out _).mono ?_
    rintro e w1 ⟨rfl, hb⟩
    have A := (A.keep hb)
    have B := (B.keep hb)
    have R := (R.keep hb)
    have HB := Lib.hid (bstep HB.out hb)
    clear hb
    clear A0 A1 B0 B1 R0 R1 R2 R3 R4
    obtain ⟨A0, A1, -, -, -⟩ := id A
    obtain ⟨B0, B1, -, -, -⟩ := id B
    obtain ⟨R0, R1, R2, R3, R4⟩ := id R
    obtain ⟨s0, s1⟩ := set2 R0 R1 (.int .i64 0) (.int .i64 0)
    go_wp2_with fail
    refine bodyPost_ret (v := .tuple #[.agg #[.int .i64 0, .int .i64 0], .int .i64 1]) (by simp [results, Tryd.results33, go_sem, s0, s1]) rfl ⟨rfl, ?_⟩
    exact below_set2 HB.out (by omega) _ _
  · cases hc : aok c d
    · have C1 := Lib.hid (fun wx => pValid_is a b true ha wx)
      have C2 := Lib.hid (fun wx => pValid_is c d false hc wx)
      rw [Bool.and_false, vA_no _ rfl]
      unfold vR
      clear ha hc
      have A := At2.new w (.int .i64 a) (.int .i64 b) 25
      have A := A.alloc (.cells #[.int .i64 c, .int .i64 d] 25)
      have B := At2.new (w.alloc (.cells #[.int .i64 a, .int .i64 b] 25)) (.int .i64 c) (.int .i64 d) 25
      simp at B
      have A := A.alloc (.cells #[.int .i64 0, .int .i64 0] 25)
      have B := B.alloc (.cells #[.int .i64 0, .int .i64 0] 25)
      have R := At2.new ((w.alloc (.cells #[.int .i64 a, .int .i64 b] 25)).alloc (.cells #[.int .i64 c, .int .i64 d] 25)) (.int .i64 0) (.int .i64 0) 25
      simp at R
      have HB := Lib.hid (bstep (bstep (bstep (Below.refl w.heap.size w) (below1 w (.cells #[.int .i64 a, .int .i64 b] 25))) (below1 (w.alloc (.cells #[.int .i64 a, .int .i64 b] 25)) (.cells #[.int .i64 c, .int .i64 d] 25))) (below1 ((w.alloc (.cells #[.int .i64 a, .int .i64 b] 25)).alloc (.cells #[.int .i64 c, .int .i64 d] 25)) (.cells #[.int .i64 0, .int .i64 0] 25)))
      go_enter Tryd.func33, Tryd.ntmps33
      obtain ⟨A0, A1, -, -, -⟩ := id A
      obtain ⟨B0, B1, -, -, -⟩ := id B
      obtain ⟨R0, R1, R2, R3, R4⟩ := id R
      go_wp2_with fail
      refine (C1.out _).mono ?_
      rintro e w1 ⟨rfl, hb⟩
      have A := (A.keep hb)
      have B := (B.keep hb)
      have R := (R.keep hb)
      have HB := Lib.hid (bstep HB.out hb)
      clear hb
      clear A0 A1 B0 B1 R0 R1 R2 R3 R4
      obtain ⟨A0, A1, -, -, -⟩ := id A
      obtain ⟨B0, B1, -, -, -⟩ := id B
      obtain ⟨R0, R1, R2, R3, R4⟩ := id R
      go_wp2_with fail
      refine (C2.out _).mono ?_
      rintro e w2 ⟨rfl, hb⟩
      have A := (A.keep hb)
      have B := (B.keep hb)
      have R := (R.keep hb)
      have HB := Lib.hid (bstep HB.out hb)
      clear hb
      clear A0 A1 B0 B1 R0 R1 R2 R3 R4
      obtain ⟨A0, A1, -, -, -⟩ := id A
      obtain ⟨B0, B1, -, -, -⟩ := id B
      obtain ⟨R0, R1, R2, R3, R4⟩ := id R
      obtain ⟨s0, s1⟩ := set2 R0 R1 (.int .i64 0) (.int .i64 0)
      go_wp2_with fail
      refine bodyPost_ret (v := .tuple #[.agg #[.int .i64 0, .int .i64 0], .int .i64 1]) (by simp [results, Tryd.results33, go_sem, s0, s1]) rfl ⟨rfl, ?_⟩
      exact below_set2 HB.out (by omega) _ _
    · have C1 := Lib.hid (fun wx => pValid_is a b true ha wx)
      have C2 := Lib.hid (fun wx => pValid_is c d true hc wx)
      obtain ⟨a1, a2, a3⟩ := (aok_iff _ _).1 ha
      obtain ⟨c1, c2, c3⟩ := (aok_iff _ _).1 hc
      rw [Bool.true_and, vA_yes _ rfl]
      have C3 := Lib.hid (fun wx => phull a b c d wx)
      unfold ahullR vR
      unfold vI at C3
      generalize min a c = x at *
      generalize max b d = y at *
      clear ha hc a1 a2 a3 c1 c2 c3
      have A := At2.new w (.int .i64 a) (.int .i64 b) 25
      have A := A.alloc (.cells #[.int .i64 c, .int .i64 d] 25)
      have B := At2.new (w.alloc (.cells #[.int .i64 a, .int .i64 b] 25)) (.int .i64 c) (.int .i64 d) 25
      simp at B
      have A := A.alloc (.cells #[.int .i64 0, .int .i64 0] 25)
      have B := B.alloc (.cells #[.int .i64 0, .int .i64 0] 25)
      have R := At2.new ((w.alloc (.cells #[.int .i64 a, .int .i64 b] 25)).alloc (.cells #[.int .i64 c, .int .i64 d] 25)) (.int .i64 0) (.int .i64 0) 25
      simp at R
      have HB := Lib.hid (bstep (bstep (bstep (Below.refl w.heap.size w) (below1 w (.cells #[.int .i64 a, .int .i64 b] 25))) (below1 (w.alloc (.cells #[.int .i64 a, .int .i64 b] 25)) (.cells #[.int .i64 c, .int .i64 d] 25))) (below1 ((w.alloc (.cells #[.int .i64 a, .int .i64 b] 25)).alloc (.cells #[.int .i64 c, .int .i64 d] 25)) (.cells #[.int .i64 0, .int .i64 0] 25)))
      go_enter Tryd.func33, Tryd.ntmps33
      obtain ⟨A0, A1, -, -, -⟩ := id A
      obtain ⟨B0, B1, -, -, -⟩ := id B
      obtain ⟨R0, R1, R2, R3, R4⟩ := id R
      go_wp2_with fail
      refine (C1.out _).mono ?_
      rintro e w1 ⟨rfl, hb⟩
      have A := (A.keep hb)
      have B := (B.keep hb)
      have R := (R.keep hb)
      have HB := Lib.hid (bstep HB.out hb)
      clear hb
      clear A0 A1 B0 B1 R0 R1 R2 R3 R4
      obtain ⟨A0, A1, -, -, -⟩ := id A
      obtain ⟨B0, B1, -, -, -⟩ := id B
      obtain ⟨R0, R1, R2, R3, R4⟩ := id R
      go_wp2_with fail
      refine (C2.out _).mono ?_
      rintro e w2 ⟨rfl, hb⟩
      have A := (A.keep hb)
      have B := (B.keep hb)
      have R := (R.keep hb)
      have HB := Lib.hid (bstep HB.out hb)
      clear hb
      clear A0 A1 B0 B1 R0 R1 R2 R3 R4
      obtain ⟨A0, A1, -, -, -⟩ := id A
      obtain ⟨B0, B1, -, -, -⟩ := id B
      obtain ⟨R0, R1, R2, R3, R4⟩ := id R
      go_wp2_with fail
      refine (C3.out _).mono ?_
      rintro e w3 ⟨rfl, hb⟩
      have A := (A.keep hb)
      have B := (B.keep hb)
      have R := (R.keep hb)
      have HB := Lib.hid (bstep HB.out hb)
      clear hb
      clear A0 A1 B0 B1 R0 R1 R2 R3 R4
      obtain ⟨A0, A1, -, -, -⟩ := id A
      obtain ⟨B0, B1, -, -, -⟩ := id B
      obtain ⟨R0, R1, R2, R3, R4⟩ := id R
      obtain ⟨s0, s1⟩ := set2 R0 R1 (.int .i64 x) (.int .i64 y)
      go_wp2_with fail
      refine bodyPost_ret (v := .tuple #[.agg #[.int .i64 x, .int .i64 y], .int .i64 0]) (by simp [results, Tryd.results33, go_sem, s0, s1]) rfl ⟨rfl, ?_⟩
      exact below_set2 HB.out (by omega) _ _

end Go.Proofs.YtndcjldnnfhedaaDoor
