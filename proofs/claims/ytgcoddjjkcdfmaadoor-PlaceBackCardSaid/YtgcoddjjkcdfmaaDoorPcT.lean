/- Place: contracts of the reference's Contains, Inside, Around. -/
import Derived.Test.YtgcoddjjkcdfmaaDoorPcS
import Derived.LoopTactic
namespace Go.Proofs.YtgcoddjjkcdfmaaDoor
open Go.RowKit
set_option linter.unusedVariables false
set_option maxRecDepth 100000

set_option maxHeartbeats 1000000 in
theorem rpContains (a b c d x y : Int) (w : World) (hn : lonOk c d = true) (hy : -10800000 ≤ y ∧ y < 10800000) :
    Calls Tryd.prog 17 #[.agg #[.int .i64 a, .int .i64 b, .int .i64 c, .int .i64 d], .agg #[.int .i64 x, .int .i64 y]] w fun e w' => e = .returned (.bool (conB a b c d x y)) ∧ Below w.heap.size w w' := by
  have A := (At4.new w (.int .i64 a) (.int .i64 b) (.int .i64 c) (.int .i64 d) 25).alloc (.cells #[.int .i64 x, .int .i64 y] 27)
  have B := At2.new (w.alloc (.cells #[.int .i64 a, .int .i64 b, .int .i64 c, .int .i64 d] 25)) (.int .i64 x) (.int .i64 y) 27
  have HB := Lib.hid (below2 w (.cells #[.int .i64 a, .int .i64 b, .int .i64 c, .int .i64 d] 25) (.cells #[.int .i64 x, .int .i64 y] 27))
  simp at B
  have nb := lon_bd hn
  have CH := Lib.hid (fun wx => rpHas c d y wx ⟨nb.1, nb.2.1⟩ ⟨nb.2.2.1, nb.2.2.2.2⟩ hy)
  rw [has_part hn hy] at CH
  unfold conB
  generalize partB y y c d = pb at *
  clear nb hn hy
  obtain ⟨A0, A1, A2, A3, -, -, -, -, -⟩ := id A
  obtain ⟨B0, B1, -, -, -⟩ := id B
  by_cases c1 : a ≤ x
  · by_cases c2 : x ≤ b
    · have q : decide (a ≤ x ∧ x ≤ b) = true := decide_eq_true ⟨c1, c2⟩
      rw [q]
      have c1' : ¬ x < a := by omega
      have c2' : ¬ x > b := by omega
      clear q c1 c2
      by_cases d1 : x = -5400000
      · have q : poleB x = true := decide_eq_true (.inl d1)
        rw [q]
        have d1b : (x == -5400000) = true := beq_iff_eq.2 d1
        clear q d1
        go_enter Tryd.func17, Tryd.ntmps17
        go_wp2_with fail
        go_ret
        exact ⟨by first | rfl | exact ret_bool (by simp), HB.out⟩
      · by_cases d2 : x = 5400000
        · have q : poleB x = true := decide_eq_true (.inr d2)
          rw [q]
          have d1b : (x == -5400000) = false := beq_eq_false_iff_ne.2 d1
          have d2b : (x == 5400000) = true := beq_iff_eq.2 d2
          clear q d1 d2
          go_enter Tryd.func17, Tryd.ntmps17
          go_wp2_with fail
          go_ret
          exact ⟨by first | rfl | exact ret_bool (by simp), HB.out⟩
        · have q : poleB x = false := decide_eq_false (by omega)
          rw [q]
          have d1b : (x == -5400000) = false := beq_eq_false_iff_ne.2 d1
          have d2b : (x == 5400000) = false := beq_eq_false_iff_ne.2 d2
          clear q d1 d2
          go_enter Tryd.func17, Tryd.ntmps17
          go_wp2_with fail
          refine ((CH).out _).mono ?_
          rintro e w1 ⟨rfl, hb⟩
          clear A0 A1 A2 A3 B0 B1
          have A := A.keep hb
          have B := B.keep hb
          have HB := Lib.hid (bstep HB.out hb)
          clear hb
          obtain ⟨A0, A1, A2, A3, -, -, -, -, -⟩ := id A
          obtain ⟨B0, B1, -, -, -⟩ := id B
          go_wp2_with fail
          go_ret
          exact ⟨by first | rfl | exact ret_bool (by simp), HB.out⟩
    · have q : decide (a ≤ x ∧ x ≤ b) = false := decide_eq_false (by omega)
      rw [q]
      have c2' : x > b := by omega
      have c1' : ¬ x < a := by omega
      clear q c1 c2
      go_enter Tryd.func17, Tryd.ntmps17
      go_wp2_with fail
      go_ret
      exact ⟨by first | rfl | exact ret_bool (by simp), HB.out⟩
  · have q : decide (a ≤ x ∧ x ≤ b) = false := decide_eq_false (by omega)
    rw [q]
    have c1' : x < a := by omega
    clear q c1
    go_enter Tryd.func17, Tryd.ntmps17
    go_wp2_with fail
    go_ret
    exact ⟨by first | rfl | exact ret_bool (by simp), HB.out⟩
theorem offTold (z u : Int) (hz : z % 21600000 = u) (w : World) : Calls Tryd.prog 33 #[.int .i64 z] w fun e w' => e = .returned (.int .i64 u) ∧ w' = w := by
  have := rpOff z w
  rw [hz] at this; exact this
set_option maxHeartbeats 2000000 in
theorem rpInside (a b c d e f g h : Int) (w : World) :
    Calls Tryd.prog 16 #[.agg #[.int .i64 a, .int .i64 b, .int .i64 c, .int .i64 d], .agg #[.int .i64 e, .int .i64 f, .int .i64 g, .int .i64 h]] w fun r w' => r = .returned (.bool (insB a b c d e f g h)) ∧ Below w.heap.size w w' := by
  have CV := Lib.hid (fun wx => rpValid a b c d wx)
  have CU := Lib.hid (fun wx => rpValid e f g h wx)
  have CA := Lib.hid (fun wx => rpAll wx)
  have A := (At4.new w (.int .i64 a) (.int .i64 b) (.int .i64 c) (.int .i64 d) 25).alloc (.cells #[.int .i64 e, .int .i64 f, .int .i64 g, .int .i64 h] 25)
  have B := At4.new (w.alloc (.cells #[.int .i64 a, .int .i64 b, .int .i64 c, .int .i64 d] 25)) (.int .i64 e) (.int .i64 f) (.int .i64 g) (.int .i64 h) 25
  have HB := Lib.hid (below2 w (.cells #[.int .i64 a, .int .i64 b, .int .i64 c, .int .i64 d] 25) (.cells #[.int .i64 e, .int .i64 f, .int .i64 g, .int .i64 h] 25))
  simp at B
  unfold insB
  obtain ⟨A0, A1, A2, A3, -, -, -, -, -⟩ := id A
  obtain ⟨B0, B1, B2, B3, -, -, -, -, -⟩ := id B
  cases h1 : plOk a b c d
  · rw [h1] at CV
    go_enter Tryd.func16, Tryd.ntmps16
    go_wp2_with fail
    refine ((CV).out _).mono ?_
    rintro e w1 ⟨rfl, hb⟩
    clear A0 A1 A2 A3 B0 B1 B2 B3
    have A := A.keep hb
    have B := B.keep hb
    have HB := Lib.hid (bstep HB.out hb)
    clear hb
    obtain ⟨A0, A1, A2, A3, -, -, -, -, -⟩ := id A
    obtain ⟨B0, B1, B2, B3, -, -, -, -, -⟩ := id B
    go_wp2_with fail
    go_ret
    exact ⟨by first | rfl | exact ret_bool (by simp), HB.out⟩
  · cases h2 : plOk e f g h
    · rw [h1] at CV
      rw [h2] at CU
      go_enter Tryd.func16, Tryd.ntmps16
      go_wp2_with fail
      refine ((CV).out _).mono ?_
      rintro e w1 ⟨rfl, hb⟩
      clear A0 A1 A2 A3 B0 B1 B2 B3
      have A := A.keep hb
      have B := B.keep hb
      have HB := Lib.hid (bstep HB.out hb)
      clear hb
      obtain ⟨A0, A1, A2, A3, -, -, -, -, -⟩ := id A
      obtain ⟨B0, B1, B2, B3, -, -, -, -, -⟩ := id B
      go_wp2_with fail
      refine ((CU).out _).mono ?_
      rintro e w2 ⟨rfl, hb⟩
      clear A0 A1 A2 A3 B0 B1 B2 B3
      have A := A.keep hb
      have B := B.keep hb
      have HB := Lib.hid (bstep HB.out hb)
      clear hb
      obtain ⟨A0, A1, A2, A3, -, -, -, -, -⟩ := id A
      obtain ⟨B0, B1, B2, B3, -, -, -, -, -⟩ := id B
      go_wp2_with fail
      go_ret
      exact ⟨by first | rfl | exact ret_bool (by simp), HB.out⟩
    · obtain ⟨l1, m1⟩ := (plOk_iff _ _ _ _).1 h1
      obtain ⟨l2, m2⟩ := (plOk_iff _ _ _ _).1 h2
      rw [h1] at CV
      rw [h2] at CU
      obtain ⟨m11, m12, m13, m14, m15⟩ := lon_bd m1
      obtain ⟨m21, m22, m23, m24, m25⟩ := lon_bd m2
      clear l1 l2 h1 h2
      by_cases k1 : e ≤ a
      · by_cases k2 : b ≤ f
        · have k1' : ¬ a < e := by omega
          have k2' : ¬ b > f := by omega
          have kk : decide (e ≤ a ∧ b ≤ f) = true := decide_eq_true ⟨k1, k2⟩
          rw [kk]
          clear k1 k2 kk
          have q0 : 0 ≤ (c - g) % 21600000 := by omega
          have q1 : (c - g) % 21600000 < 21600000 := by omega
          obtain ⟨u, hu⟩ : ∃ u, (c - g) % 21600000 = u := ⟨_, rfl⟩
          have HU : Hid ((c - g) % 21600000 = u) := hu
          have CO := Lib.hid (fun (z : Int) (hz : z % 21600000 = u) (wx : World) => offTold z u hz wx)
          by_cases g1 : g = -10800000 ∧ h = 10800000
          · have p : partB c d g h = true := (partB_iff _ _ _ _).2 (.inl g1)
            rw [p]
            obtain ⟨g1, g2⟩ := g1
            subst g1 g2
            clear p
            go_enter Tryd.func16, Tryd.ntmps16
            go_wp2_with fail
            refine ((CV).out _).mono ?_
            rintro e w1 ⟨rfl, hb⟩
            clear A0 A1 A2 A3 B0 B1 B2 B3
            have A := A.keep hb
            have B := B.keep hb
            have HB := Lib.hid (bstep HB.out hb)
            clear hb
            obtain ⟨A0, A1, A2, A3, -, -, -, -, -⟩ := id A
            obtain ⟨B0, B1, B2, B3, -, -, -, -, -⟩ := id B
            go_wp2_with fail
            refine ((CU).out _).mono ?_
            rintro e w2 ⟨rfl, hb⟩
            clear A0 A1 A2 A3 B0 B1 B2 B3
            have A := A.keep hb
            have B := B.keep hb
            have HB := Lib.hid (bstep HB.out hb)
            clear hb
            obtain ⟨A0, A1, A2, A3, -, -, -, -, -⟩ := id A
            obtain ⟨B0, B1, B2, B3, -, -, -, -, -⟩ := id B
            go_upto_region 3 with fail
            clear A0 A1 A2 A3 B0 B1 B2 B3
            obtain ⟨A0, A1, A2, A3⟩ := A.bel
            obtain ⟨B0, B1, B2, B3⟩ := B.bel
            refine wp_region_bel (by kernel_rfl) (by kernel_rfl) ?_
            repeat (go_big_quiet_step (first | (go_at_call 32; with_reducible refine bel_of (CA.out _)) | (go_at_call 33; with_reducible refine bel_of (still8 (CO.out _ (by have := HU.out; omega) _)))))
            refine wpQuiet_nil ?_
            intro _ hw'
            obtain ⟨pq, hw''⟩ := hw'
            subst hw''
            have HB := Lib.hid (bstep HB.out pq.h)
            go_wp2_with fail
            go_ret
            exact ⟨by first | rfl | (refine ret_bool ?_; simp; done) | (refine ret_bool ?_; rw [Bool.eq_iff_iff]; simp; omega), HB.out⟩
          · rw [hu] at q0 q1
            by_cases a1 : c = -10800000 ∧ d = 10800000
            · by_cases g11 : g = -10800000
              · have g12 : ¬ h = 10800000 := fun q => g1 ⟨g11, q⟩
                have g1b : (h == 10800000) = false := beq_eq_false_iff_ne.2 g12
                have g1t : (g == -10800000) = true := beq_iff_eq.2 g11
                have p : partB c d g h = false := (partB_not _ _ _ _).2 (fun q => q.elim g1 (fun q => q.1 a1))
                rw [p]
                obtain ⟨a1, a2⟩ := a1
                have a1t : (c == -10800000) = true := beq_iff_eq.2 a1
                have a2t : (d == 10800000) = true := beq_iff_eq.2 a2
                clear a1 a2
                subst g11
                clear p g1 hu
                go_enter Tryd.func16, Tryd.ntmps16
                go_wp2_with fail
                refine ((CV).out _).mono ?_
                rintro e w1 ⟨rfl, hb⟩
                clear A0 A1 A2 A3 B0 B1 B2 B3
                have A := A.keep hb
                have B := B.keep hb
                have HB := Lib.hid (bstep HB.out hb)
                clear hb
                obtain ⟨A0, A1, A2, A3, -, -, -, -, -⟩ := id A
                obtain ⟨B0, B1, B2, B3, -, -, -, -, -⟩ := id B
                go_wp2_with fail
                refine ((CU).out _).mono ?_
                rintro e w2 ⟨rfl, hb⟩
                clear A0 A1 A2 A3 B0 B1 B2 B3
                have A := A.keep hb
                have B := B.keep hb
                have HB := Lib.hid (bstep HB.out hb)
                clear hb
                obtain ⟨A0, A1, A2, A3, -, -, -, -, -⟩ := id A
                obtain ⟨B0, B1, B2, B3, -, -, -, -, -⟩ := id B
                go_upto_region 3 with fail
                clear A0 A1 A2 A3 B0 B1 B2 B3
                obtain ⟨A0, A1, A2, A3⟩ := A.bel
                obtain ⟨B0, B1, B2, B3⟩ := B.bel
                refine wp_region_bel (by kernel_rfl) (by kernel_rfl) ?_
                repeat (go_big_quiet_step (first | (go_at_call 32; with_reducible refine bel_of (CA.out _)) | (go_at_call 33; with_reducible refine bel_of (still8 (CO.out _ (by have := HU.out; omega) _)))))
                refine wpQuiet_nil ?_
                intro _ hw'
                obtain ⟨pq, hw''⟩ := hw'
                subst hw''
                have HB := Lib.hid (bstep HB.out pq.h)
                go_wp2_with fail
                go_ret
                exact ⟨by first | rfl | (refine ret_bool ?_; simp; done) | (refine ret_bool ?_; rw [Bool.eq_iff_iff]; simp; omega), HB.out⟩
              · have g1b : (g == -10800000) = false := beq_eq_false_iff_ne.2 g11
                have p : partB c d g h = false := (partB_not _ _ _ _).2 (fun q => q.elim g1 (fun q => q.1 a1))
                rw [p]
                obtain ⟨a1, a2⟩ := a1
                have a1t : (c == -10800000) = true := beq_iff_eq.2 a1
                have a2t : (d == 10800000) = true := beq_iff_eq.2 a2
                clear a1 a2
                clear p g1 hu
                go_enter Tryd.func16, Tryd.ntmps16
                go_wp2_with fail
                refine ((CV).out _).mono ?_
                rintro e w1 ⟨rfl, hb⟩
                clear A0 A1 A2 A3 B0 B1 B2 B3
                have A := A.keep hb
                have B := B.keep hb
                have HB := Lib.hid (bstep HB.out hb)
                clear hb
                obtain ⟨A0, A1, A2, A3, -, -, -, -, -⟩ := id A
                obtain ⟨B0, B1, B2, B3, -, -, -, -, -⟩ := id B
                go_wp2_with fail
                refine ((CU).out _).mono ?_
                rintro e w2 ⟨rfl, hb⟩
                clear A0 A1 A2 A3 B0 B1 B2 B3
                have A := A.keep hb
                have B := B.keep hb
                have HB := Lib.hid (bstep HB.out hb)
                clear hb
                obtain ⟨A0, A1, A2, A3, -, -, -, -, -⟩ := id A
                obtain ⟨B0, B1, B2, B3, -, -, -, -, -⟩ := id B
                go_upto_region 3 with fail
                clear A0 A1 A2 A3 B0 B1 B2 B3
                obtain ⟨A0, A1, A2, A3⟩ := A.bel
                obtain ⟨B0, B1, B2, B3⟩ := B.bel
                refine wp_region_bel (by kernel_rfl) (by kernel_rfl) ?_
                repeat (go_big_quiet_step (first | (go_at_call 32; with_reducible refine bel_of (CA.out _)) | (go_at_call 33; with_reducible refine bel_of (still8 (CO.out _ (by have := HU.out; omega) _)))))
                refine wpQuiet_nil ?_
                intro _ hw'
                obtain ⟨pq, hw''⟩ := hw'
                subst hw''
                have HB := Lib.hid (bstep HB.out pq.h)
                go_wp2_with fail
                go_ret
                exact ⟨by first | rfl | (refine ret_bool ?_; simp; done) | (refine ret_bool ?_; rw [Bool.eq_iff_iff]; simp; omega), HB.out⟩
            · by_cases g11 : g = -10800000
              · have g12 : ¬ h = 10800000 := fun q => g1 ⟨g11, q⟩
                have g1b : (h == 10800000) = false := beq_eq_false_iff_ne.2 g12
                have g1t : (g == -10800000) = true := beq_iff_eq.2 g11
                by_cases a11 : c = -10800000
                · have a12 : ¬ d = 10800000 := fun q => a1 ⟨a11, q⟩
                  have a1b : (d == 10800000) = false := beq_eq_false_iff_ne.2 a12
                  have a1t : (c == -10800000) = true := beq_iff_eq.2 a11
                  have p : partB c d g h = decide (u + (d - c) ≤ h - g) := by
                    rw [Bool.eq_iff_iff, partB_iff, decide_eq_true_iff, hu]
                    exact ⟨fun q => q.elim (fun q => absurd q g1) (fun q => q.2), fun q => .inr ⟨a1, q⟩⟩
                  rw [p]
                  clear p g1 a1 hu
                  subst g11
                  subst a11
                  go_enter Tryd.func16, Tryd.ntmps16
                  go_wp2_with fail
                  refine ((CV).out _).mono ?_
                  rintro e w1 ⟨rfl, hb⟩
                  clear A0 A1 A2 A3 B0 B1 B2 B3
                  have A := A.keep hb
                  have B := B.keep hb
                  have HB := Lib.hid (bstep HB.out hb)
                  clear hb
                  obtain ⟨A0, A1, A2, A3, -, -, -, -, -⟩ := id A
                  obtain ⟨B0, B1, B2, B3, -, -, -, -, -⟩ := id B
                  go_wp2_with fail
                  refine ((CU).out _).mono ?_
                  rintro e w2 ⟨rfl, hb⟩
                  clear A0 A1 A2 A3 B0 B1 B2 B3
                  have A := A.keep hb
                  have B := B.keep hb
                  have HB := Lib.hid (bstep HB.out hb)
                  clear hb
                  obtain ⟨A0, A1, A2, A3, -, -, -, -, -⟩ := id A
                  obtain ⟨B0, B1, B2, B3, -, -, -, -, -⟩ := id B
                  go_upto_region 3 with fail
                  clear A0 A1 A2 A3 B0 B1 B2 B3
                  obtain ⟨A0, A1, A2, A3⟩ := A.bel
                  obtain ⟨B0, B1, B2, B3⟩ := B.bel
                  refine wp_region_bel (by kernel_rfl) (by kernel_rfl) ?_
                  repeat (go_big_quiet_step (first | (go_at_call 32; with_reducible refine bel_of (CA.out _)) | (go_at_call 33; with_reducible refine bel_of (still8 (CO.out _ (by have := HU.out; omega) _)))))
                  refine wpQuiet_nil ?_
                  intro _ hw'
                  obtain ⟨pq, hw''⟩ := hw'
                  subst hw''
                  have HB := Lib.hid (bstep HB.out pq.h)
                  go_wp2_with fail
                  go_ret
                  exact ⟨by first | rfl | (refine ret_bool ?_; simp; done) | (refine ret_bool ?_; rw [Bool.eq_iff_iff]; simp; omega), HB.out⟩
                · have a1b : (c == -10800000) = false := beq_eq_false_iff_ne.2 a11
                  have p : partB c d g h = decide (u + (d - c) ≤ h - g) := by
                    rw [Bool.eq_iff_iff, partB_iff, decide_eq_true_iff, hu]
                    exact ⟨fun q => q.elim (fun q => absurd q g1) (fun q => q.2), fun q => .inr ⟨a1, q⟩⟩
                  rw [p]
                  clear p g1 a1 hu
                  subst g11
                  go_enter Tryd.func16, Tryd.ntmps16
                  go_wp2_with fail
                  refine ((CV).out _).mono ?_
                  rintro e w1 ⟨rfl, hb⟩
                  clear A0 A1 A2 A3 B0 B1 B2 B3
                  have A := A.keep hb
                  have B := B.keep hb
                  have HB := Lib.hid (bstep HB.out hb)
                  clear hb
                  obtain ⟨A0, A1, A2, A3, -, -, -, -, -⟩ := id A
                  obtain ⟨B0, B1, B2, B3, -, -, -, -, -⟩ := id B
                  go_wp2_with fail
                  refine ((CU).out _).mono ?_
                  rintro e w2 ⟨rfl, hb⟩
                  clear A0 A1 A2 A3 B0 B1 B2 B3
                  have A := A.keep hb
                  have B := B.keep hb
                  have HB := Lib.hid (bstep HB.out hb)
                  clear hb
                  obtain ⟨A0, A1, A2, A3, -, -, -, -, -⟩ := id A
                  obtain ⟨B0, B1, B2, B3, -, -, -, -, -⟩ := id B
                  go_upto_region 3 with fail
                  clear A0 A1 A2 A3 B0 B1 B2 B3
                  obtain ⟨A0, A1, A2, A3⟩ := A.bel
                  obtain ⟨B0, B1, B2, B3⟩ := B.bel
                  refine wp_region_bel (by kernel_rfl) (by kernel_rfl) ?_
                  repeat (go_big_quiet_step (first | (go_at_call 32; with_reducible refine bel_of (CA.out _)) | (go_at_call 33; with_reducible refine bel_of (still8 (CO.out _ (by have := HU.out; omega) _)))))
                  refine wpQuiet_nil ?_
                  intro _ hw'
                  obtain ⟨pq, hw''⟩ := hw'
                  subst hw''
                  have HB := Lib.hid (bstep HB.out pq.h)
                  go_wp2_with fail
                  go_ret
                  exact ⟨by first | rfl | (refine ret_bool ?_; simp; done) | (refine ret_bool ?_; rw [Bool.eq_iff_iff]; simp; omega), HB.out⟩
              · have g1b : (g == -10800000) = false := beq_eq_false_iff_ne.2 g11
                by_cases a11 : c = -10800000
                · have a12 : ¬ d = 10800000 := fun q => a1 ⟨a11, q⟩
                  have a1b : (d == 10800000) = false := beq_eq_false_iff_ne.2 a12
                  have a1t : (c == -10800000) = true := beq_iff_eq.2 a11
                  have p : partB c d g h = decide (u + (d - c) ≤ h - g) := by
                    rw [Bool.eq_iff_iff, partB_iff, decide_eq_true_iff, hu]
                    exact ⟨fun q => q.elim (fun q => absurd q g1) (fun q => q.2), fun q => .inr ⟨a1, q⟩⟩
                  rw [p]
                  clear p g1 a1 hu
                  subst a11
                  go_enter Tryd.func16, Tryd.ntmps16
                  go_wp2_with fail
                  refine ((CV).out _).mono ?_
                  rintro e w1 ⟨rfl, hb⟩
                  clear A0 A1 A2 A3 B0 B1 B2 B3
                  have A := A.keep hb
                  have B := B.keep hb
                  have HB := Lib.hid (bstep HB.out hb)
                  clear hb
                  obtain ⟨A0, A1, A2, A3, -, -, -, -, -⟩ := id A
                  obtain ⟨B0, B1, B2, B3, -, -, -, -, -⟩ := id B
                  go_wp2_with fail
                  refine ((CU).out _).mono ?_
                  rintro e w2 ⟨rfl, hb⟩
                  clear A0 A1 A2 A3 B0 B1 B2 B3
                  have A := A.keep hb
                  have B := B.keep hb
                  have HB := Lib.hid (bstep HB.out hb)
                  clear hb
                  obtain ⟨A0, A1, A2, A3, -, -, -, -, -⟩ := id A
                  obtain ⟨B0, B1, B2, B3, -, -, -, -, -⟩ := id B
                  go_upto_region 3 with fail
                  clear A0 A1 A2 A3 B0 B1 B2 B3
                  obtain ⟨A0, A1, A2, A3⟩ := A.bel
                  obtain ⟨B0, B1, B2, B3⟩ := B.bel
                  refine wp_region_bel (by kernel_rfl) (by kernel_rfl) ?_
                  repeat (go_big_quiet_step (first | (go_at_call 32; with_reducible refine bel_of (CA.out _)) | (go_at_call 33; with_reducible refine bel_of (still8 (CO.out _ (by have := HU.out; omega) _)))))
                  refine wpQuiet_nil ?_
                  intro _ hw'
                  obtain ⟨pq, hw''⟩ := hw'
                  subst hw''
                  have HB := Lib.hid (bstep HB.out pq.h)
                  go_wp2_with fail
                  go_ret
                  exact ⟨by first | rfl | (refine ret_bool ?_; simp; done) | (refine ret_bool ?_; rw [Bool.eq_iff_iff]; simp; omega), HB.out⟩
                · have a1b : (c == -10800000) = false := beq_eq_false_iff_ne.2 a11
                  have p : partB c d g h = decide (u + (d - c) ≤ h - g) := by
                    rw [Bool.eq_iff_iff, partB_iff, decide_eq_true_iff, hu]
                    exact ⟨fun q => q.elim (fun q => absurd q g1) (fun q => q.2), fun q => .inr ⟨a1, q⟩⟩
                  rw [p]
                  clear p g1 a1 hu
                  go_enter Tryd.func16, Tryd.ntmps16
                  go_wp2_with fail
                  refine ((CV).out _).mono ?_
                  rintro e w1 ⟨rfl, hb⟩
                  clear A0 A1 A2 A3 B0 B1 B2 B3
                  have A := A.keep hb
                  have B := B.keep hb
                  have HB := Lib.hid (bstep HB.out hb)
                  clear hb
                  obtain ⟨A0, A1, A2, A3, -, -, -, -, -⟩ := id A
                  obtain ⟨B0, B1, B2, B3, -, -, -, -, -⟩ := id B
                  go_wp2_with fail
                  refine ((CU).out _).mono ?_
                  rintro e w2 ⟨rfl, hb⟩
                  clear A0 A1 A2 A3 B0 B1 B2 B3
                  have A := A.keep hb
                  have B := B.keep hb
                  have HB := Lib.hid (bstep HB.out hb)
                  clear hb
                  obtain ⟨A0, A1, A2, A3, -, -, -, -, -⟩ := id A
                  obtain ⟨B0, B1, B2, B3, -, -, -, -, -⟩ := id B
                  go_upto_region 3 with fail
                  clear A0 A1 A2 A3 B0 B1 B2 B3
                  obtain ⟨A0, A1, A2, A3⟩ := A.bel
                  obtain ⟨B0, B1, B2, B3⟩ := B.bel
                  refine wp_region_bel (by kernel_rfl) (by kernel_rfl) ?_
                  repeat (go_big_quiet_step (first | (go_at_call 32; with_reducible refine bel_of (CA.out _)) | (go_at_call 33; with_reducible refine bel_of (still8 (CO.out _ (by have := HU.out; omega) _)))))
                  refine wpQuiet_nil ?_
                  intro _ hw'
                  obtain ⟨pq, hw''⟩ := hw'
                  subst hw''
                  have HB := Lib.hid (bstep HB.out pq.h)
                  go_wp2_with fail
                  go_ret
                  exact ⟨by first | rfl | (refine ret_bool ?_; simp; done) | (refine ret_bool ?_; rw [Bool.eq_iff_iff]; simp; omega), HB.out⟩
        · have kk : decide (e ≤ a ∧ b ≤ f) = false := decide_eq_false (by omega)
          rw [kk]
          have k1' : ¬ a < e := by omega
          have k2' : b > f := by omega
          clear k1 k2 kk
          go_enter Tryd.func16, Tryd.ntmps16
          go_wp2_with fail
          refine ((CV).out _).mono ?_
          rintro e w1 ⟨rfl, hb⟩
          clear A0 A1 A2 A3 B0 B1 B2 B3
          have A := A.keep hb
          have B := B.keep hb
          have HB := Lib.hid (bstep HB.out hb)
          clear hb
          obtain ⟨A0, A1, A2, A3, -, -, -, -, -⟩ := id A
          obtain ⟨B0, B1, B2, B3, -, -, -, -, -⟩ := id B
          go_wp2_with fail
          refine ((CU).out _).mono ?_
          rintro e w2 ⟨rfl, hb⟩
          clear A0 A1 A2 A3 B0 B1 B2 B3
          have A := A.keep hb
          have B := B.keep hb
          have HB := Lib.hid (bstep HB.out hb)
          clear hb
          obtain ⟨A0, A1, A2, A3, -, -, -, -, -⟩ := id A
          obtain ⟨B0, B1, B2, B3, -, -, -, -, -⟩ := id B
          go_wp2_with fail
          go_ret
          exact ⟨by first | rfl | exact ret_bool (by simp), HB.out⟩
      · have kk : decide (e ≤ a ∧ b ≤ f) = false := decide_eq_false (by omega)
        rw [kk]
        have k1' : a < e := by omega
        clear k1 kk
        go_enter Tryd.func16, Tryd.ntmps16
        go_wp2_with fail
        refine ((CV).out _).mono ?_
        rintro e w1 ⟨rfl, hb⟩
        clear A0 A1 A2 A3 B0 B1 B2 B3
        have A := A.keep hb
        have B := B.keep hb
        have HB := Lib.hid (bstep HB.out hb)
        clear hb
        obtain ⟨A0, A1, A2, A3, -, -, -, -, -⟩ := id A
        obtain ⟨B0, B1, B2, B3, -, -, -, -, -⟩ := id B
        go_wp2_with fail
        refine ((CU).out _).mono ?_
        rintro e w2 ⟨rfl, hb⟩
        clear A0 A1 A2 A3 B0 B1 B2 B3
        have A := A.keep hb
        have B := B.keep hb
        have HB := Lib.hid (bstep HB.out hb)
        clear hb
        obtain ⟨A0, A1, A2, A3, -, -, -, -, -⟩ := id A
        obtain ⟨B0, B1, B2, B3, -, -, -, -, -⟩ := id B
        go_wp2_with fail
        go_ret
        exact ⟨by first | rfl | exact ret_bool (by simp), HB.out⟩
end Go.Proofs.YtgcoddjjkcdfmaaDoor
