/- Angle: contracts of the program's Inside, Agree, Times. -/
import Derived.Test.YtedcpmiadonmeaaDoorAnQ
namespace Go.Proofs.YtedcpmiadonmeaaDoor
open Go.RowKit
set_option linter.unusedVariables false
set_option maxRecDepth 100000

/-- two arcs agree if a whole number of turns is among the differences -/
theorem agree_plain {a b c d : Int} (h1 : a ≤ b) (h2 : c ≤ d) : decide (a - d ≤ (b - c) - wrapN (b - c)) = agR a b c d := by
  rw [Bool.eq_iff_iff, decide_eq_true_iff, agR_iff]
  simp only [agK_iff]
  unfold trL trH wrapN
  by_cases k : 21600000 ≤ b - a
  · simp only [if_pos k]
    by_cases m : 21600000 ≤ d - c
    · simp only [if_pos m]
      omega
    · simp only [if_neg m]
      omega
  · simp only [if_neg k]
    by_cases m : 21600000 ≤ d - c
    · simp only [if_pos m]
      omega
    · simp only [if_neg m]
      omega

set_option maxHeartbeats 2000000 in
theorem pInside (a b c d : Int) (w : World) :
    Calls Tryd.prog 16 #[.agg #[.int .i64 a, .int .i64 b], .agg #[.int .i64 c, .int .i64 d]] w fun e w' => e = .returned (.bool (ainR a b c d)) ∧ Below w.heap.size w w' := by
  unfold ainR
  cases ha : aok a b
  · have C1 := Lib.hid (fun wx => pValid_is a b false ha wx)
    rw [Bool.false_and, Bool.false_and]
    clear ha
    have A := At2.new w (.int .i64 a) (.int .i64 b) 23
    have A := A.alloc (.cells #[.int .i64 c, .int .i64 d] 23)
    have B := At2.new (w.alloc (.cells #[.int .i64 a, .int .i64 b] 23)) (.int .i64 c) (.int .i64 d) 23
    simp at B
    have HB := Lib.hid (bstep (bstep (Below.refl w.heap.size w) (below1 w (.cells #[.int .i64 a, .int .i64 b] 23))) (below1 (w.alloc (.cells #[.int .i64 a, .int .i64 b] 23)) (.cells #[.int .i64 c, .int .i64 d] 23)))
    go_enter Tryd.func16, Tryd.ntmps16
    obtain ⟨A0, A1, -, -, -⟩ := id A
    obtain ⟨B0, B1, -, -, -⟩ := id B
    go_wp2_with fail
    clear A0 A1 B0 B1
    obtain ⟨A0, A1⟩ := A.bel
    obtain ⟨B0, B1⟩ := B.bel
    refine wp_region_bel (by kernel_rfl) (by kernel_rfl) ?_
    repeat (go_big_quiet_step (first | (go_at_call 14; first | (with_reducible refine bel_of (C1.out _)))))
    refine wpQuiet_nil ?_
    intro _ hw'
    obtain ⟨pq, hw''⟩ := hw'
    subst hw''
    have A := A.keep pq.h
    have B := B.keep pq.h
    have HB := Lib.hid (bstep HB.out pq.h)
    clear A0 A1 B0 B1
    obtain ⟨A0, A1, -, -, -⟩ := id A
    obtain ⟨B0, B1, -, -, -⟩ := id B
    go_wp2_with fail
    go_ret
    exact ⟨rfl, HB.out⟩
  · cases hc : aok c d
    · have C1 := Lib.hid (fun wx => pValid_is a b true ha wx)
      have C2 := Lib.hid (fun wx => pValid_is c d false hc wx)
      rw [Bool.true_and, Bool.false_and]
      clear ha hc
      have A := At2.new w (.int .i64 a) (.int .i64 b) 23
      have A := A.alloc (.cells #[.int .i64 c, .int .i64 d] 23)
      have B := At2.new (w.alloc (.cells #[.int .i64 a, .int .i64 b] 23)) (.int .i64 c) (.int .i64 d) 23
      simp at B
      have HB := Lib.hid (bstep (bstep (Below.refl w.heap.size w) (below1 w (.cells #[.int .i64 a, .int .i64 b] 23))) (below1 (w.alloc (.cells #[.int .i64 a, .int .i64 b] 23)) (.cells #[.int .i64 c, .int .i64 d] 23)))
      go_enter Tryd.func16, Tryd.ntmps16
      obtain ⟨A0, A1, -, -, -⟩ := id A
      obtain ⟨B0, B1, -, -, -⟩ := id B
      go_wp2_with fail
      clear A0 A1 B0 B1
      obtain ⟨A0, A1⟩ := A.bel
      obtain ⟨B0, B1⟩ := B.bel
      refine wp_region_bel (by kernel_rfl) (by kernel_rfl) ?_
      repeat (go_big_quiet_step (first | (go_at_call 14; first | (with_reducible refine bel_of (C1.out _)) | (with_reducible refine bel_of (C2.out _)))))
      refine wpQuiet_nil ?_
      intro _ hw'
      obtain ⟨pq, hw''⟩ := hw'
      subst hw''
      have A := A.keep pq.h
      have B := B.keep pq.h
      have HB := Lib.hid (bstep HB.out pq.h)
      clear A0 A1 B0 B1
      obtain ⟨A0, A1, -, -, -⟩ := id A
      obtain ⟨B0, B1, -, -, -⟩ := id B
      go_wp2_with fail
      go_ret
      exact ⟨rfl, HB.out⟩
    · have C1 := Lib.hid (fun wx => pValid_is a b true ha wx)
      have C2 := Lib.hid (fun wx => pValid_is c d true hc wx)
      rw [Bool.true_and, Bool.true_and]
      obtain ⟨x, hx⟩ : ∃ x, min a c = x := ⟨_, rfl⟩
      obtain ⟨y, hy⟩ : ∃ y, max b d = y := ⟨_, rfl⟩
      have C3 := Lib.hid (fun wx => phull_is a b c d x y hx hy wx)
      by_cases k1 : x = c
      · have t1 : (x == c) = true := beq_iff_eq.2 k1
        by_cases k2 : y = d
        · have t2 : (y == d) = true := beq_iff_eq.2 k2
          rw [decide_eq_true (show c ≤ a ∧ b ≤ d by omega)]
          clear ha hc hx hy k1 k2
          have A := At2.new w (.int .i64 a) (.int .i64 b) 23
          have A := A.alloc (.cells #[.int .i64 c, .int .i64 d] 23)
          have B := At2.new (w.alloc (.cells #[.int .i64 a, .int .i64 b] 23)) (.int .i64 c) (.int .i64 d) 23
          simp at B
          have HB := Lib.hid (bstep (bstep (Below.refl w.heap.size w) (below1 w (.cells #[.int .i64 a, .int .i64 b] 23))) (below1 (w.alloc (.cells #[.int .i64 a, .int .i64 b] 23)) (.cells #[.int .i64 c, .int .i64 d] 23)))
          go_enter Tryd.func16, Tryd.ntmps16
          obtain ⟨A0, A1, -, -, -⟩ := id A
          obtain ⟨B0, B1, -, -, -⟩ := id B
          go_wp2_with fail
          clear A0 A1 B0 B1
          obtain ⟨A0, A1⟩ := A.bel
          obtain ⟨B0, B1⟩ := B.bel
          refine wp_region_bel (by kernel_rfl) (by kernel_rfl) ?_
          repeat (go_big_quiet_step (first | (go_at_call 14; first | (with_reducible refine bel_of (C1.out _)) | (with_reducible refine bel_of (C2.out _))) | (go_at_call 46; first | (with_reducible refine bel_of (C3.out _)))))
          refine wpQuiet_nil ?_
          intro _ hw'
          obtain ⟨pq, hw''⟩ := hw'
          subst hw''
          have A := A.keep pq.h
          have B := B.keep pq.h
          have HB := Lib.hid (bstep HB.out pq.h)
          clear A0 A1 B0 B1
          obtain ⟨A0, A1, -, -, -⟩ := id A
          obtain ⟨B0, B1, -, -, -⟩ := id B
          go_wp2_with fail
          go_ret
          exact ⟨rfl, HB.out⟩
        · have t2 : (y == d) = false := beq_eq_false_iff_ne.2 k2
          rw [decide_eq_false (show ¬ (c ≤ a ∧ b ≤ d) by omega)]
          clear ha hc hx hy k1 k2
          have A := At2.new w (.int .i64 a) (.int .i64 b) 23
          have A := A.alloc (.cells #[.int .i64 c, .int .i64 d] 23)
          have B := At2.new (w.alloc (.cells #[.int .i64 a, .int .i64 b] 23)) (.int .i64 c) (.int .i64 d) 23
          simp at B
          have HB := Lib.hid (bstep (bstep (Below.refl w.heap.size w) (below1 w (.cells #[.int .i64 a, .int .i64 b] 23))) (below1 (w.alloc (.cells #[.int .i64 a, .int .i64 b] 23)) (.cells #[.int .i64 c, .int .i64 d] 23)))
          go_enter Tryd.func16, Tryd.ntmps16
          obtain ⟨A0, A1, -, -, -⟩ := id A
          obtain ⟨B0, B1, -, -, -⟩ := id B
          go_wp2_with fail
          clear A0 A1 B0 B1
          obtain ⟨A0, A1⟩ := A.bel
          obtain ⟨B0, B1⟩ := B.bel
          refine wp_region_bel (by kernel_rfl) (by kernel_rfl) ?_
          repeat (go_big_quiet_step (first | (go_at_call 14; first | (with_reducible refine bel_of (C1.out _)) | (with_reducible refine bel_of (C2.out _))) | (go_at_call 46; first | (with_reducible refine bel_of (C3.out _)))))
          refine wpQuiet_nil ?_
          intro _ hw'
          obtain ⟨pq, hw''⟩ := hw'
          subst hw''
          have A := A.keep pq.h
          have B := B.keep pq.h
          have HB := Lib.hid (bstep HB.out pq.h)
          clear A0 A1 B0 B1
          obtain ⟨A0, A1, -, -, -⟩ := id A
          obtain ⟨B0, B1, -, -, -⟩ := id B
          go_wp2_with fail
          go_ret
          exact ⟨rfl, HB.out⟩
      · have t1 : (x == c) = false := beq_eq_false_iff_ne.2 k1
        rw [decide_eq_false (show ¬ (c ≤ a ∧ b ≤ d) by omega)]
        clear ha hc hx hy k1
        have A := At2.new w (.int .i64 a) (.int .i64 b) 23
        have A := A.alloc (.cells #[.int .i64 c, .int .i64 d] 23)
        have B := At2.new (w.alloc (.cells #[.int .i64 a, .int .i64 b] 23)) (.int .i64 c) (.int .i64 d) 23
        simp at B
        have HB := Lib.hid (bstep (bstep (Below.refl w.heap.size w) (below1 w (.cells #[.int .i64 a, .int .i64 b] 23))) (below1 (w.alloc (.cells #[.int .i64 a, .int .i64 b] 23)) (.cells #[.int .i64 c, .int .i64 d] 23)))
        go_enter Tryd.func16, Tryd.ntmps16
        obtain ⟨A0, A1, -, -, -⟩ := id A
        obtain ⟨B0, B1, -, -, -⟩ := id B
        go_wp2_with fail
        clear A0 A1 B0 B1
        obtain ⟨A0, A1⟩ := A.bel
        obtain ⟨B0, B1⟩ := B.bel
        refine wp_region_bel (by kernel_rfl) (by kernel_rfl) ?_
        repeat (go_big_quiet_step (first | (go_at_call 14; first | (with_reducible refine bel_of (C1.out _)) | (with_reducible refine bel_of (C2.out _))) | (go_at_call 46; first | (with_reducible refine bel_of (C3.out _)))))
        refine wpQuiet_nil ?_
        intro _ hw'
        obtain ⟨pq, hw''⟩ := hw'
        subst hw''
        have A := A.keep pq.h
        have B := B.keep pq.h
        have HB := Lib.hid (bstep HB.out pq.h)
        clear A0 A1 B0 B1
        obtain ⟨A0, A1, -, -, -⟩ := id A
        obtain ⟨B0, B1, -, -, -⟩ := id B
        go_wp2_with fail
        go_ret
        exact ⟨rfl, HB.out⟩

set_option maxHeartbeats 2000000 in
theorem pAgree (a b c d : Int) (w : World) :
    Calls Tryd.prog 35 #[.agg #[.int .i64 a, .int .i64 b], .agg #[.int .i64 c, .int .i64 d]] w fun e w' => e = .returned (.tuple #[.bool (agB a b c d), .int .i64 (agE a b c d)]) ∧ Below w.heap.size w w' := by
  unfold agB agE
  cases ha : aok a b
  · have C1 := Lib.hid (fun wx => pValid_is a b false ha wx)
    rw [Bool.false_and, if_neg (by simp)]
    clear ha
    have A := At2.new w (.int .i64 a) (.int .i64 b) 23
    have A := A.alloc (.cells #[.int .i64 c, .int .i64 d] 23)
    have B := At2.new (w.alloc (.cells #[.int .i64 a, .int .i64 b] 23)) (.int .i64 c) (.int .i64 d) 23
    simp at B
    have HB := Lib.hid (bstep (bstep (Below.refl w.heap.size w) (below1 w (.cells #[.int .i64 a, .int .i64 b] 23))) (below1 (w.alloc (.cells #[.int .i64 a, .int .i64 b] 23)) (.cells #[.int .i64 c, .int .i64 d] 23)))
    go_enter Tryd.func35, Tryd.ntmps35
    obtain ⟨A0, A1, -, -, -⟩ := id A
    obtain ⟨B0, B1, -, -, -⟩ := id B
    go_wp2_with fail
    refine (C1.out _).mono ?_
    rintro e w1 ⟨rfl, hb⟩
    have A := (A.keep hb)
    have B := (B.keep hb)
    have HB := Lib.hid (bstep HB.out hb)
    clear hb
    clear A0 A1 B0 B1
    obtain ⟨A0, A1, -, -, -⟩ := id A
    obtain ⟨B0, B1, -, -, -⟩ := id B
    go_wp2_with fail
    go_ret2
    exact ⟨rfl, HB.out⟩
  · cases hc : aok c d
    · have C1 := Lib.hid (fun wx => pValid_is a b true ha wx)
      have C2 := Lib.hid (fun wx => pValid_is c d false hc wx)
      rw [Bool.true_and, Bool.false_and, if_neg (by simp)]
      clear ha hc
      have A := At2.new w (.int .i64 a) (.int .i64 b) 23
      have A := A.alloc (.cells #[.int .i64 c, .int .i64 d] 23)
      have B := At2.new (w.alloc (.cells #[.int .i64 a, .int .i64 b] 23)) (.int .i64 c) (.int .i64 d) 23
      simp at B
      have HB := Lib.hid (bstep (bstep (Below.refl w.heap.size w) (below1 w (.cells #[.int .i64 a, .int .i64 b] 23))) (below1 (w.alloc (.cells #[.int .i64 a, .int .i64 b] 23)) (.cells #[.int .i64 c, .int .i64 d] 23)))
      go_enter Tryd.func35, Tryd.ntmps35
      obtain ⟨A0, A1, -, -, -⟩ := id A
      obtain ⟨B0, B1, -, -, -⟩ := id B
      go_wp2_with fail
      refine (C1.out _).mono ?_
      rintro e w1 ⟨rfl, hb⟩
      have A := (A.keep hb)
      have B := (B.keep hb)
      have HB := Lib.hid (bstep HB.out hb)
      clear hb
      clear A0 A1 B0 B1
      obtain ⟨A0, A1, -, -, -⟩ := id A
      obtain ⟨B0, B1, -, -, -⟩ := id B
      go_wp2_with fail
      refine (C2.out _).mono ?_
      rintro e w2 ⟨rfl, hb⟩
      have A := (A.keep hb)
      have B := (B.keep hb)
      have HB := Lib.hid (bstep HB.out hb)
      clear hb
      clear A0 A1 B0 B1
      obtain ⟨A0, A1, -, -, -⟩ := id A
      obtain ⟨B0, B1, -, -, -⟩ := id B
      go_wp2_with fail
      go_ret2
      exact ⟨rfl, HB.out⟩
    · have C1 := Lib.hid (fun wx => pValid_is a b true ha wx)
      have C2 := Lib.hid (fun wx => pValid_is c d true hc wx)
      obtain ⟨a1, a2, a3⟩ := (aok_iff _ _).1 ha
      obtain ⟨c1, c2, c3⟩ := (aok_iff _ _).1 hc
      have E := agree_plain a3 c3
      have C3 := Lib.hid (fun wx => pWrap (b - c) wx)
      have hw := wrapN_in (b - c)
      rw [Bool.true_and, Bool.true_and, if_pos ⟨rfl, rfl⟩, ← E]
      clear E ha hc
      obtain ⟨v, hv⟩ : ∃ v, wrapN (b - c) = v := ⟨_, rfl⟩
      rw [hv] at hw C3 ⊢
      obtain ⟨p, hp⟩ : ∃ p, a - d = p := ⟨_, rfl⟩
      obtain ⟨q, hq⟩ : ∃ q, b - c = q := ⟨_, rfl⟩
      have p1 : -9223372036854775808 ≤ p := by omega
      have p2 : p ≤ 9223372036854775807 := by omega
      have q1 : -9223372036854775808 ≤ q := by omega
      have q2 : q ≤ 9223372036854775807 := by omega
      rw [hp, hq]
      rw [hq] at C3
      have wp := i64_is (x := a - d) (by omega) (by omega)
      have wq := i64_is (x := b - c) (by omega) (by omega)
      rw [hp] at wp
      rw [hq] at wq
      obtain ⟨r, hr⟩ : ∃ r, q - v = r := ⟨_, rfl⟩
      have r1 : -9223372036854775808 ≤ r := by omega
      have r2 : r ≤ 9223372036854775807 := by omega
      rw [hr]
      clear hw hv a1 a2 a3 c1 c2 c3
      have A := At2.new w (.int .i64 a) (.int .i64 b) 23
      have A := A.alloc (.cells #[.int .i64 c, .int .i64 d] 23)
      have B := At2.new (w.alloc (.cells #[.int .i64 a, .int .i64 b] 23)) (.int .i64 c) (.int .i64 d) 23
      simp at B
      have HB := Lib.hid (bstep (bstep (Below.refl w.heap.size w) (below1 w (.cells #[.int .i64 a, .int .i64 b] 23))) (below1 (w.alloc (.cells #[.int .i64 a, .int .i64 b] 23)) (.cells #[.int .i64 c, .int .i64 d] 23)))
      go_enter Tryd.func35, Tryd.ntmps35
      obtain ⟨A0, A1, -, -, -⟩ := id A
      obtain ⟨B0, B1, -, -, -⟩ := id B
      go_wp2_with fail
      refine (C1.out _).mono ?_
      rintro e w1 ⟨rfl, hb⟩
      have A := (A.keep hb)
      have B := (B.keep hb)
      have HB := Lib.hid (bstep HB.out hb)
      clear hb
      clear A0 A1 B0 B1
      obtain ⟨A0, A1, -, -, -⟩ := id A
      obtain ⟨B0, B1, -, -, -⟩ := id B
      go_wp2_with fail
      refine (C2.out _).mono ?_
      rintro e w2 ⟨rfl, hb⟩
      have A := (A.keep hb)
      have B := (B.keep hb)
      have HB := Lib.hid (bstep HB.out hb)
      clear hb
      clear A0 A1 B0 B1
      obtain ⟨A0, A1, -, -, -⟩ := id A
      obtain ⟨B0, B1, -, -, -⟩ := id B
      go_wp2_with fail
      go_quiet (fail)
      go_wp2_with fail
      refine (C3.out _).mono ?_
      rintro e w9 ⟨rfl, rfl⟩
      go_wp2_with fail
      go_ret2
      exact ⟨rfl, bstep HB.out (below_drewN _ _ _)⟩

set_option maxHeartbeats 2000000 in
theorem pTimes_f (a b n d : Int) (w : World) (ha : aok a b = false) :
    Calls Tryd.prog 23 #[.agg #[.int .i64 a, .int .i64 b], .int .i64 n, .int .i64 d] w fun e w' => e = .returned (vR ⟨0, 0, 1⟩) ∧ Below w.heap.size w w' := by
  have C1 := Lib.hid (fun wx => pValid_is a b false ha wx)
  unfold vR
  clear ha
  have A := At2.new w (.int .i64 a) (.int .i64 b) 23
  have A := A.alloc (.cells #[.int .i64 0, .int .i64 0] 23)
  have R := At2.new (w.alloc (.cells #[.int .i64 a, .int .i64 b] 23)) (.int .i64 0) (.int .i64 0) 23
  simp at R
  have HB := Lib.hid (bstep (bstep (Below.refl w.heap.size w) (below1 w (.cells #[.int .i64 a, .int .i64 b] 23))) (below1 (w.alloc (.cells #[.int .i64 a, .int .i64 b] 23)) (.cells #[.int .i64 0, .int .i64 0] 23)))
  go_enter Tryd.func23, Tryd.ntmps23
  obtain ⟨A0, A1, -, -, -⟩ := id A
  obtain ⟨R0, R1, R2, R3, R4⟩ := id R
  go_wp2_with fail
  refine (C1.out _).mono ?_
  rintro e w1 ⟨rfl, hb⟩
  have A := (A.keep hb)
  have R := (R.keep hb)
  have HB := Lib.hid (bstep HB.out hb)
  clear hb
  clear A0 A1 R0 R1 R2 R3 R4
  obtain ⟨A0, A1, -, -, -⟩ := id A
  obtain ⟨R0, R1, R2, R3, R4⟩ := id R
  obtain ⟨s0, s1⟩ := set2 R0 R1 (.int .i64 0) (.int .i64 0)
  go_wp2_with fail
  refine bodyPost_ret (v := .tuple #[.agg #[.int .i64 0, .int .i64 0], .int .i64 1]) (by simp [results, Tryd.results23, go_sem, s0, s1]) rfl ⟨rfl, ?_⟩
  exact below_set2 HB.out (by omega) _ _

set_option maxHeartbeats 2000000 in
theorem pTimes_r0 (a b n d : Int) (w : World) (ha : aok a b = true) (h1 : n < -1048576) :
    Calls Tryd.prog 23 #[.agg #[.int .i64 a, .int .i64 b], .int .i64 n, .int .i64 d] w fun e w' => e = .returned (vR ⟨0, 0, 2⟩) ∧ Below w.heap.size w w' := by
  have C1 := Lib.hid (fun wx => pValid_is a b true ha wx)
  unfold vR
  clear ha
  have t0 := decide_eq_true h1
  have A := At2.new w (.int .i64 a) (.int .i64 b) 23
  have A := A.alloc (.cells #[.int .i64 0, .int .i64 0] 23)
  have R := At2.new (w.alloc (.cells #[.int .i64 a, .int .i64 b] 23)) (.int .i64 0) (.int .i64 0) 23
  simp at R
  have HB := Lib.hid (bstep (bstep (Below.refl w.heap.size w) (below1 w (.cells #[.int .i64 a, .int .i64 b] 23))) (below1 (w.alloc (.cells #[.int .i64 a, .int .i64 b] 23)) (.cells #[.int .i64 0, .int .i64 0] 23)))
  go_enter Tryd.func23, Tryd.ntmps23
  obtain ⟨A0, A1, -, -, -⟩ := id A
  obtain ⟨R0, R1, R2, R3, R4⟩ := id R
  go_wp2_with fail
  refine (C1.out _).mono ?_
  rintro e w1 ⟨rfl, hb⟩
  have A := (A.keep hb)
  have R := (R.keep hb)
  have HB := Lib.hid (bstep HB.out hb)
  clear hb
  clear A0 A1 R0 R1 R2 R3 R4
  obtain ⟨A0, A1, -, -, -⟩ := id A
  obtain ⟨R0, R1, R2, R3, R4⟩ := id R
  obtain ⟨s0, s1⟩ := set2 R0 R1 (.int .i64 0) (.int .i64 0)
  go_wp2_with fail
  refine bodyPost_ret (v := .tuple #[.agg #[.int .i64 0, .int .i64 0], .int .i64 2]) (by simp [results, Tryd.results23, go_sem, s0, s1]) rfl ⟨rfl, ?_⟩
  exact below_set2 HB.out (by omega) _ _

set_option maxHeartbeats 2000000 in
theorem pTimes_r1 (a b n d : Int) (w : World) (ha : aok a b = true) (h1 : ¬ n < -1048576) (h2 : n > 1048576) :
    Calls Tryd.prog 23 #[.agg #[.int .i64 a, .int .i64 b], .int .i64 n, .int .i64 d] w fun e w' => e = .returned (vR ⟨0, 0, 2⟩) ∧ Below w.heap.size w w' := by
  have C1 := Lib.hid (fun wx => pValid_is a b true ha wx)
  unfold vR
  clear ha
  have t0 := decide_eq_false h1
  have t1 := decide_eq_true h2
  have A := At2.new w (.int .i64 a) (.int .i64 b) 23
  have A := A.alloc (.cells #[.int .i64 0, .int .i64 0] 23)
  have R := At2.new (w.alloc (.cells #[.int .i64 a, .int .i64 b] 23)) (.int .i64 0) (.int .i64 0) 23
  simp at R
  have HB := Lib.hid (bstep (bstep (Below.refl w.heap.size w) (below1 w (.cells #[.int .i64 a, .int .i64 b] 23))) (below1 (w.alloc (.cells #[.int .i64 a, .int .i64 b] 23)) (.cells #[.int .i64 0, .int .i64 0] 23)))
  go_enter Tryd.func23, Tryd.ntmps23
  obtain ⟨A0, A1, -, -, -⟩ := id A
  obtain ⟨R0, R1, R2, R3, R4⟩ := id R
  go_wp2_with fail
  refine (C1.out _).mono ?_
  rintro e w1 ⟨rfl, hb⟩
  have A := (A.keep hb)
  have R := (R.keep hb)
  have HB := Lib.hid (bstep HB.out hb)
  clear hb
  clear A0 A1 R0 R1 R2 R3 R4
  obtain ⟨A0, A1, -, -, -⟩ := id A
  obtain ⟨R0, R1, R2, R3, R4⟩ := id R
  obtain ⟨s0, s1⟩ := set2 R0 R1 (.int .i64 0) (.int .i64 0)
  go_wp2_with fail
  refine bodyPost_ret (v := .tuple #[.agg #[.int .i64 0, .int .i64 0], .int .i64 2]) (by simp [results, Tryd.results23, go_sem, s0, s1]) rfl ⟨rfl, ?_⟩
  exact below_set2 HB.out (by omega) _ _

set_option maxHeartbeats 2000000 in
theorem pTimes_r2 (a b n d : Int) (w : World) (ha : aok a b = true) (h1 : ¬ n < -1048576) (h2 : ¬ n > 1048576) (h3 : d < 1) :
    Calls Tryd.prog 23 #[.agg #[.int .i64 a, .int .i64 b], .int .i64 n, .int .i64 d] w fun e w' => e = .returned (vR ⟨0, 0, 2⟩) ∧ Below w.heap.size w w' := by
  have C1 := Lib.hid (fun wx => pValid_is a b true ha wx)
  unfold vR
  clear ha
  have t0 := decide_eq_false h1
  have t1 := decide_eq_false h2
  have t2 := decide_eq_true h3
  have A := At2.new w (.int .i64 a) (.int .i64 b) 23
  have A := A.alloc (.cells #[.int .i64 0, .int .i64 0] 23)
  have R := At2.new (w.alloc (.cells #[.int .i64 a, .int .i64 b] 23)) (.int .i64 0) (.int .i64 0) 23
  simp at R
  have HB := Lib.hid (bstep (bstep (Below.refl w.heap.size w) (below1 w (.cells #[.int .i64 a, .int .i64 b] 23))) (below1 (w.alloc (.cells #[.int .i64 a, .int .i64 b] 23)) (.cells #[.int .i64 0, .int .i64 0] 23)))
  go_enter Tryd.func23, Tryd.ntmps23
  obtain ⟨A0, A1, -, -, -⟩ := id A
  obtain ⟨R0, R1, R2, R3, R4⟩ := id R
  go_wp2_with fail
  refine (C1.out _).mono ?_
  rintro e w1 ⟨rfl, hb⟩
  have A := (A.keep hb)
  have R := (R.keep hb)
  have HB := Lib.hid (bstep HB.out hb)
  clear hb
  clear A0 A1 R0 R1 R2 R3 R4
  obtain ⟨A0, A1, -, -, -⟩ := id A
  obtain ⟨R0, R1, R2, R3, R4⟩ := id R
  obtain ⟨s0, s1⟩ := set2 R0 R1 (.int .i64 0) (.int .i64 0)
  go_wp2_with fail
  refine bodyPost_ret (v := .tuple #[.agg #[.int .i64 0, .int .i64 0], .int .i64 2]) (by simp [results, Tryd.results23, go_sem, s0, s1]) rfl ⟨rfl, ?_⟩
  exact below_set2 HB.out (by omega) _ _

set_option maxHeartbeats 2000000 in
theorem pTimes_r3 (a b n d : Int) (w : World) (ha : aok a b = true) (h1 : ¬ n < -1048576) (h2 : ¬ n > 1048576) (h3 : ¬ d < 1) (h4 : d > 1048576) :
    Calls Tryd.prog 23 #[.agg #[.int .i64 a, .int .i64 b], .int .i64 n, .int .i64 d] w fun e w' => e = .returned (vR ⟨0, 0, 2⟩) ∧ Below w.heap.size w w' := by
  have C1 := Lib.hid (fun wx => pValid_is a b true ha wx)
  unfold vR
  clear ha
  have t0 := decide_eq_false h1
  have t1 := decide_eq_false h2
  have t2 := decide_eq_false h3
  have t3 := decide_eq_true h4
  have A := At2.new w (.int .i64 a) (.int .i64 b) 23
  have A := A.alloc (.cells #[.int .i64 0, .int .i64 0] 23)
  have R := At2.new (w.alloc (.cells #[.int .i64 a, .int .i64 b] 23)) (.int .i64 0) (.int .i64 0) 23
  simp at R
  have HB := Lib.hid (bstep (bstep (Below.refl w.heap.size w) (below1 w (.cells #[.int .i64 a, .int .i64 b] 23))) (below1 (w.alloc (.cells #[.int .i64 a, .int .i64 b] 23)) (.cells #[.int .i64 0, .int .i64 0] 23)))
  go_enter Tryd.func23, Tryd.ntmps23
  obtain ⟨A0, A1, -, -, -⟩ := id A
  obtain ⟨R0, R1, R2, R3, R4⟩ := id R
  go_wp2_with fail
  refine (C1.out _).mono ?_
  rintro e w1 ⟨rfl, hb⟩
  have A := (A.keep hb)
  have R := (R.keep hb)
  have HB := Lib.hid (bstep HB.out hb)
  clear hb
  clear A0 A1 R0 R1 R2 R3 R4
  obtain ⟨A0, A1, -, -, -⟩ := id A
  obtain ⟨R0, R1, R2, R3, R4⟩ := id R
  obtain ⟨s0, s1⟩ := set2 R0 R1 (.int .i64 0) (.int .i64 0)
  go_wp2_with fail
  refine bodyPost_ret (v := .tuple #[.agg #[.int .i64 0, .int .i64 0], .int .i64 2]) (by simp [results, Tryd.results23, go_sem, s0, s1]) rfl ⟨rfl, ?_⟩
  exact below_set2 HB.out (by omega) _ _

set_option maxHeartbeats 2000000 in
theorem pTimes_p (a b n d : Int) (w : World) (ha : aok a b = true) (h0 : ¬ n < 0) (h1 : ¬ n < -1048576) (h2 : ¬ n > 1048576) (h3 : ¬ d < 1) (h4 : ¬ d > 1048576) :
    Calls Tryd.prog 23 #[.agg #[.int .i64 a, .int .i64 b], .int .i64 n, .int .i64 d] w fun e w' => e = .returned (vR (afit (a * n / d) (cdiv (b * n) d))) ∧ Below w.heap.size w w' := by
  obtain ⟨a1, a2, a3⟩ := (aok_iff _ _).1 ha
  have C1 := Lib.hid (fun wx => pValid_is a b true ha wx)
  have pa := prod60 (a := a) (n := n) (by omega) (by omega) (by omega) (by omega)
  have pb := prod60 (a := b) (n := n) (by omega) (by omega) (by omega) (by omega)
  obtain ⟨x, hx⟩ : ∃ x, a * n = x := ⟨_, rfl⟩
  obtain ⟨y, hy⟩ : ∃ y, b * n = y := ⟨_, rfl⟩
  rw [hx] at pa
  rw [hy] at pb
  rw [hx, hy]
  have w1' : IntKind.i64.wrap (a * n) = x := (i64_is (by omega) (by omega)).trans hx
  have w2' : IntKind.i64.wrap (b * n) = y := (i64_is (by omega) (by omega)).trans hy
  have C2 := Lib.hid (fun wx => pFloor x d wx (by omega) (by omega) (by omega))
  have C3 := Lib.hid (fun wx => pCeil y d wx (by omega) (by omega) (by omega))
  obtain ⟨l, hl⟩ : ∃ l, x / d = l := ⟨_, rfl⟩
  obtain ⟨u, hu⟩ : ∃ u, cdiv y d = u := ⟨_, rfl⟩
  rw [hl] at C2 ⊢
  rw [hu] at C3 ⊢
  have C4 := Lib.hid (fun wx => pFit l u wx)
  obtain ⟨F, hF⟩ : ∃ F, afit l u = F := ⟨_, rfl⟩
  rw [hF] at C4 ⊢
  unfold vR at *
  have t1 := decide_eq_false h1
  have t2 := decide_eq_false h2
  have t3 := decide_eq_false h3
  have t4 := decide_eq_false h4
  clear ha hF hl hu pa pb hx hy a1 a2 a3
  have A := At2.new w (.int .i64 a) (.int .i64 b) 23
  have A := A.alloc (.cells #[.int .i64 0, .int .i64 0] 23)
  have R := At2.new (w.alloc (.cells #[.int .i64 a, .int .i64 b] 23)) (.int .i64 0) (.int .i64 0) 23
  simp at R
  have HB := Lib.hid (bstep (bstep (Below.refl w.heap.size w) (below1 w (.cells #[.int .i64 a, .int .i64 b] 23))) (below1 (w.alloc (.cells #[.int .i64 a, .int .i64 b] 23)) (.cells #[.int .i64 0, .int .i64 0] 23)))
  go_enter Tryd.func23, Tryd.ntmps23
  obtain ⟨A0, A1, -, -, -⟩ := id A
  obtain ⟨R0, R1, R2, R3, R4⟩ := id R
  go_wp2_with fail
  refine (C1.out _).mono ?_
  rintro e w1 ⟨rfl, hb⟩
  have A := (A.keep hb)
  have R := (R.keep hb)
  have HB := Lib.hid (bstep HB.out hb)
  clear hb
  clear A0 A1 R0 R1 R2 R3 R4
  obtain ⟨A0, A1, -, -, -⟩ := id A
  obtain ⟨R0, R1, R2, R3, R4⟩ := id R
  go_wp2_with fail
  go_quiet (fail)
  go_wp2_with fail
  refine (C2.out _).mono ?_
  rintro e w8 ⟨rfl, rfl⟩
  go_wp2_with fail
  refine (C3.out _).mono ?_
  rintro e w9 ⟨rfl, rfl⟩
  go_wp2_with fail
  have R := R.keep (below_drewN w1.heap.size w1 nq)
  have HB := Lib.hid (bstep HB.out (below_drewN _ _ nq))
  clear A0 A1 R0 R1 R2 R3 R4
  refine (C4.out _).mono ?_
  rintro e w2 ⟨rfl, hb⟩
  have R := R.keep hb
  have HB := Lib.hid (bstep HB.out hb)
  obtain ⟨R0, R1, R2, R3, R4⟩ := id R
  obtain ⟨s0, s1⟩ := set2 R0 R1 (.int .i64 F.l) (.int .i64 F.h)
  go_wp2_with fail
  refine bodyPost_ret (v := .tuple #[.agg #[.int .i64 F.l, .int .i64 F.h], .int .i64 F.e]) (by simp [results, Tryd.results23, go_sem, s0, s1]) rfl ⟨rfl, ?_⟩
  exact below_set2 HB.out (by omega) _ _

set_option maxHeartbeats 2000000 in
theorem pTimes_n (a b n d : Int) (w : World) (ha : aok a b = true) (h0 : n < 0) (h1 : ¬ n < -1048576) (h2 : ¬ n > 1048576) (h3 : ¬ d < 1) (h4 : ¬ d > 1048576) :
    Calls Tryd.prog 23 #[.agg #[.int .i64 a, .int .i64 b], .int .i64 n, .int .i64 d] w fun e w' => e = .returned (vR (afit (b * n / d) (cdiv (a * n) d))) ∧ Below w.heap.size w w' := by
  obtain ⟨a1, a2, a3⟩ := (aok_iff _ _).1 ha
  have C1 := Lib.hid (fun wx => pValid_is a b true ha wx)
  have pa := prod60 (a := a) (n := n) (by omega) (by omega) (by omega) (by omega)
  have pb := prod60 (a := b) (n := n) (by omega) (by omega) (by omega) (by omega)
  obtain ⟨x, hx⟩ : ∃ x, a * n = x := ⟨_, rfl⟩
  obtain ⟨y, hy⟩ : ∃ y, b * n = y := ⟨_, rfl⟩
  rw [hx] at pa
  rw [hy] at pb
  rw [hx, hy]
  have w1' : IntKind.i64.wrap (a * n) = x := (i64_is (by omega) (by omega)).trans hx
  have w2' : IntKind.i64.wrap (b * n) = y := (i64_is (by omega) (by omega)).trans hy
  have C2 := Lib.hid (fun wx => pFloor y d wx (by omega) (by omega) (by omega))
  have C3 := Lib.hid (fun wx => pCeil x d wx (by omega) (by omega) (by omega))
  obtain ⟨l, hl⟩ : ∃ l, y / d = l := ⟨_, rfl⟩
  obtain ⟨u, hu⟩ : ∃ u, cdiv x d = u := ⟨_, rfl⟩
  rw [hl] at C2 ⊢
  rw [hu] at C3 ⊢
  have C4 := Lib.hid (fun wx => pFit l u wx)
  obtain ⟨F, hF⟩ : ∃ F, afit l u = F := ⟨_, rfl⟩
  rw [hF] at C4 ⊢
  unfold vR at *
  have t1 := decide_eq_false h1
  have t2 := decide_eq_false h2
  have t3 := decide_eq_false h3
  have t4 := decide_eq_false h4
  clear ha hF hl hu pa pb hx hy a1 a2 a3
  have A := At2.new w (.int .i64 a) (.int .i64 b) 23
  have A := A.alloc (.cells #[.int .i64 0, .int .i64 0] 23)
  have R := At2.new (w.alloc (.cells #[.int .i64 a, .int .i64 b] 23)) (.int .i64 0) (.int .i64 0) 23
  simp at R
  have HB := Lib.hid (bstep (bstep (Below.refl w.heap.size w) (below1 w (.cells #[.int .i64 a, .int .i64 b] 23))) (below1 (w.alloc (.cells #[.int .i64 a, .int .i64 b] 23)) (.cells #[.int .i64 0, .int .i64 0] 23)))
  go_enter Tryd.func23, Tryd.ntmps23
  obtain ⟨A0, A1, -, -, -⟩ := id A
  obtain ⟨R0, R1, R2, R3, R4⟩ := id R
  go_wp2_with fail
  refine (C1.out _).mono ?_
  rintro e w1 ⟨rfl, hb⟩
  have A := (A.keep hb)
  have R := (R.keep hb)
  have HB := Lib.hid (bstep HB.out hb)
  clear hb
  clear A0 A1 R0 R1 R2 R3 R4
  obtain ⟨A0, A1, -, -, -⟩ := id A
  obtain ⟨R0, R1, R2, R3, R4⟩ := id R
  go_wp2_with fail
  go_quiet (fail)
  go_wp2_with fail
  refine (C2.out _).mono ?_
  rintro e w8 ⟨rfl, rfl⟩
  go_wp2_with fail
  refine (C3.out _).mono ?_
  rintro e w9 ⟨rfl, rfl⟩
  go_wp2_with fail
  have R := R.keep (below_drewN w1.heap.size w1 nq)
  have HB := Lib.hid (bstep HB.out (below_drewN _ _ nq))
  clear A0 A1 R0 R1 R2 R3 R4
  refine (C4.out _).mono ?_
  rintro e w2 ⟨rfl, hb⟩
  have R := R.keep hb
  have HB := Lib.hid (bstep HB.out hb)
  obtain ⟨R0, R1, R2, R3, R4⟩ := id R
  obtain ⟨s0, s1⟩ := set2 R0 R1 (.int .i64 F.l) (.int .i64 F.h)
  go_wp2_with fail
  refine bodyPost_ret (v := .tuple #[.agg #[.int .i64 F.l, .int .i64 F.h], .int .i64 F.e]) (by simp [results, Tryd.results23, go_sem, s0, s1]) rfl ⟨rfl, ?_⟩
  exact below_set2 HB.out (by omega) _ _

theorem pTimes (a b n d : Int) (w : World) :
    Calls Tryd.prog 23 #[.agg #[.int .i64 a, .int .i64 b], .int .i64 n, .int .i64 d] w fun e w' => e = .returned (vR (vA (aok a b) (atimesR a b n d))) ∧ Below w.heap.size w w' := by
  cases ha : aok a b
  · rw [vA_no _ rfl]; exact pTimes_f a b n d w ha
  · rw [vA_yes _ rfl]
    unfold atimesR
    by_cases k : -1048576 ≤ n ∧ n ≤ 1048576 ∧ 1 ≤ d ∧ d ≤ 1048576
    · rw [if_pos ((tmOk_iff _ _).2 k)]
      unfold tmL tmH
      by_cases h0 : n < 0
      · have h := pTimes_n a b n d w ha h0 (by omega) (by omega) (by omega) (by omega)
        rw [if_pos h0, if_pos h0, Int.neg_mul_neg, Int.neg_mul_neg]
        exact h
      · have h := pTimes_p a b n d w ha h0 (by omega) (by omega) (by omega) (by omega)
        rw [if_neg h0, if_neg h0]
        exact h
    · rw [if_neg (by rw [tmOk_iff]; exact k)]
      by_cases h1 : n < -1048576
      · exact pTimes_r0 a b n d w ha h1
      · by_cases h2 : n > 1048576
        · exact pTimes_r1 a b n d w ha h1 h2
        · by_cases h3 : d < 1
          · exact pTimes_r2 a b n d w ha h1 h2 h3
          · exact pTimes_r3 a b n d w ha h1 h2 h3 (by omega)
end Go.Proofs.YtedcpmiadonmeaaDoor
