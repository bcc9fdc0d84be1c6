/- FixedSums: the walk of the law. -/
import Derived.Test.YtdkigfcglfgpoaaFxL
namespace Go.Proofs.Ytdkigfcglfgpoaa
open Go.RowKit
set_option linter.unusedVariables false

set_option maxHeartbeats 4000000 in
theorem sums_bad (P : FxProg) (a b c d : Int) (w : World) (ha : fok a b = false) :
    Calls Try.prog 4 #[.agg #[.int .i64 a, .int .i64 b], .agg #[.int .i64 c, .int .i64 d]] w fun e w' => e = .returned (.bool true) ∧ Below w.heap.size w w' := by
  have CA := Lib.hid (fun wx => awake_any P wx)
  have V1 := Lib.hid (fun wx => rValid_is a b false ha wx)
  obtain ⟨vb, hc⟩ : ∃ vb, fok c d = vb := ⟨_, rfl⟩
  have V2 := Lib.hid (fun wx => rValid_is c d vb hc wx)
  have C1 := Lib.hid (fun wx => told 0 0 1 (vF_no _ (by rw [ha]; rfl)) (P.add a b c d wx))
  have C2 := Lib.hid (fun wx => told 0 0 1 (vF_no _ (by rw [ha]; rfl)) (P.sub a b c d wx))
  have C3 := Lib.hid (fun wx => told 0 0 1 (vF_no _ ha) (P.neg a b wx))
  clear ha hc
  have A := At2.new w (.int .i64 a) (.int .i64 b) 23
  have A := A.alloc (.cells #[.int .i64 c, .int .i64 d] 23)
  have B := At2.new (w.alloc (.cells #[.int .i64 a, .int .i64 b] 23)) (.int .i64 c) (.int .i64 d) 23
  simp at B
  have HB := Lib.hid (bstep (bstep (Below.refl w.heap.size w) (below1 w (.cells #[.int .i64 a, .int .i64 b] 23))) (below1 (w.alloc (.cells #[.int .i64 a, .int .i64 b] 23)) (.cells #[.int .i64 c, .int .i64 d] 23)))
  go_enter Try.func4, Try.ntmps4
  obtain ⟨A0, A1, -, -, -⟩ := id A
  obtain ⟨B0, B1, -, -, -⟩ := id B
  go_wp2_with fail
  refine (CA.out _).mono ?_
  rintro e w1 ⟨rfl, hb⟩
  have A := (A.keep hb)
  have B := (B.keep hb)
  have HB := Lib.hid (bstep HB.out hb)
  clear hb
  clear A0 A1 B0 B1
  obtain ⟨A0, A1, -, -, -⟩ := id A
  obtain ⟨B0, B1, -, -, -⟩ := id B
  go_wp2_with fail
  clear A0 A1 B0 B1
  obtain ⟨A0, A1⟩ := A.bel
  obtain ⟨B0, B1⟩ := B.bel
  refine wp_region_bel (by kernel_rfl) (by kernel_rfl) ?_
  repeat (go_big_quiet_step (first | (go_at_call 16; first | (with_reducible refine bel_of (V1.out _)) | (with_reducible refine bel_of (V2.out _)))))
  refine wpQuiet_nil ?_
  intro _ hw'
  obtain ⟨pq, hw''⟩ := hw'
  subst hw''
  have A := A.keep pq.h
  have B := B.keep pq.h
  have HB := Lib.hid (bstep HB.out pq.h)
  clear A0 A1 B0 B1
  obtain ⟨A0, A1, -, -, -⟩ := id A
  obtain ⟨B0, B1, -, -, -⟩ := id B
  go_wp2_with fail
  refine (C1.out _).mono ?_
  rintro e w2 ⟨rfl, hb⟩
  have A := (A.keep hb).alloc (.cells #[.int .i64 0, .int .i64 0] 23)
  have B := (B.keep hb).alloc (.cells #[.int .i64 0, .int .i64 0] 23)
  have X := At2.new w2 (.int .i64 0) (.int .i64 0) 23
  have HB := Lib.hid (bstep (bstep HB.out hb) (below1 w2 (.cells #[.int .i64 0, .int .i64 0] 23)))
  clear hb
  clear A0 A1 B0 B1
  obtain ⟨A0, A1, -, -, -⟩ := id A
  obtain ⟨B0, B1, -, -, -⟩ := id B
  obtain ⟨X0, X1, -, -, -⟩ := id X
  go_wp2_with fail
  refine (C2.out _).mono ?_
  rintro e w3 ⟨rfl, hb⟩
  have A := (A.keep hb).alloc (.cells #[.int .i64 0, .int .i64 0] 23)
  have B := (B.keep hb).alloc (.cells #[.int .i64 0, .int .i64 0] 23)
  have X := (X.keep hb).alloc (.cells #[.int .i64 0, .int .i64 0] 23)
  have Y := At2.new w3 (.int .i64 0) (.int .i64 0) 23
  have HB := Lib.hid (bstep (bstep HB.out hb) (below1 w3 (.cells #[.int .i64 0, .int .i64 0] 23)))
  clear hb
  clear A0 A1 B0 B1 X0 X1
  obtain ⟨A0, A1, -, -, -⟩ := id A
  obtain ⟨B0, B1, -, -, -⟩ := id B
  obtain ⟨X0, X1, -, -, -⟩ := id X
  obtain ⟨Y0, Y1, -, -, -⟩ := id Y
  go_wp2_with fail
  refine (C3.out _).mono ?_
  rintro e w4 ⟨rfl, hb⟩
  have A := (A.keep hb).alloc (.cells #[.int .i64 0, .int .i64 0] 23)
  have B := (B.keep hb).alloc (.cells #[.int .i64 0, .int .i64 0] 23)
  have X := (X.keep hb).alloc (.cells #[.int .i64 0, .int .i64 0] 23)
  have Y := (Y.keep hb).alloc (.cells #[.int .i64 0, .int .i64 0] 23)
  have Z := At2.new w4 (.int .i64 0) (.int .i64 0) 23
  have HB := Lib.hid (bstep (bstep HB.out hb) (below1 w4 (.cells #[.int .i64 0, .int .i64 0] 23)))
  clear hb
  clear A0 A1 B0 B1 X0 X1 Y0 Y1
  obtain ⟨A0, A1, -, -, -⟩ := id A
  obtain ⟨B0, B1, -, -, -⟩ := id B
  obtain ⟨X0, X1, -, -, -⟩ := id X
  obtain ⟨Y0, Y1, -, -, -⟩ := id Y
  obtain ⟨Z0, Z1, -, -, -⟩ := id Z
  go_wp2_with fail
  refine (result_bad _ _ _ _).mono ?_
  rintro e w5 ⟨rfl, hb⟩
  have A := (A.keep hb)
  have B := (B.keep hb)
  have X := (X.keep hb)
  have Y := (Y.keep hb)
  have Z := (Z.keep hb)
  have HB := Lib.hid (bstep HB.out hb)
  clear hb
  clear A0 A1 B0 B1 X0 X1 Y0 Y1 Z0 Z1
  obtain ⟨A0, A1, -, -, -⟩ := id A
  obtain ⟨B0, B1, -, -, -⟩ := id B
  obtain ⟨X0, X1, -, -, -⟩ := id X
  obtain ⟨Y0, Y1, -, -, -⟩ := id Y
  obtain ⟨Z0, Z1, -, -, -⟩ := id Z
  go_wp2_with fail
  refine (result_bad _ _ _ _).mono ?_
  rintro e w6 ⟨rfl, hb⟩
  have A := (A.keep hb)
  have B := (B.keep hb)
  have X := (X.keep hb)
  have Y := (Y.keep hb)
  have Z := (Z.keep hb)
  have HB := Lib.hid (bstep HB.out hb)
  clear hb
  clear A0 A1 B0 B1 X0 X1 Y0 Y1 Z0 Z1
  obtain ⟨A0, A1, -, -, -⟩ := id A
  obtain ⟨B0, B1, -, -, -⟩ := id B
  obtain ⟨X0, X1, -, -, -⟩ := id X
  obtain ⟨Y0, Y1, -, -, -⟩ := id Y
  obtain ⟨Z0, Z1, -, -, -⟩ := id Z
  go_wp2_with fail
  refine (result_bad _ _ _ _).mono ?_
  rintro e w7 ⟨rfl, hb⟩
  have A := (A.keep hb)
  have B := (B.keep hb)
  have X := (X.keep hb)
  have Y := (Y.keep hb)
  have Z := (Z.keep hb)
  have HB := Lib.hid (bstep HB.out hb)
  clear hb
  clear A0 A1 B0 B1 X0 X1 Y0 Y1 Z0 Z1
  obtain ⟨A0, A1, -, -, -⟩ := id A
  obtain ⟨B0, B1, -, -, -⟩ := id B
  obtain ⟨X0, X1, -, -, -⟩ := id X
  obtain ⟨Y0, Y1, -, -, -⟩ := id Y
  obtain ⟨Z0, Z1, -, -, -⟩ := id Z
  go_wp2_with fail
  go_ret
  exact ⟨rfl, HB.out⟩

set_option maxHeartbeats 4000000 in
theorem sums_mid (P : FxProg) (a b c d : Int) (w : World) (ha : fok a b = true) (hc : fok c d = false) :
    Calls Try.prog 4 #[.agg #[.int .i64 a, .int .i64 b], .agg #[.int .i64 c, .int .i64 d]] w fun e w' => e = .returned (.bool true) ∧ Below w.heap.size w w' := by
  have CA := Lib.hid (fun wx => awake_any P wx)
  have V1 := Lib.hid (fun wx => rValid_is a b true ha wx)
  have V2 := Lib.hid (fun wx => rValid_is c d false hc wx)
  have C1 := Lib.hid (fun wx => told 0 0 1 (vF_no _ (by rw [ha, hc]; rfl)) (P.add a b c d wx))
  have C2 := Lib.hid (fun wx => told 0 0 1 (vF_no _ (by rw [ha, hc]; rfl)) (P.sub a b c d wx))
  obtain ⟨nb, hnb⟩ : ∃ nb, -b = nb := ⟨_, rfl⟩
  obtain ⟨na, hna⟩ : ∃ na, -a = na := ⟨_, rfl⟩
  have C3 := Lib.hid (fun wx => told nb na 0 ((vF_yes _ ha).trans (by rw [← hnb, ← hna]; rfl)) (P.neg a b wx))
  have CN := Lib.hid (fun wx => rNeg a b wx ha)
  rw [hnb, hna] at CN
  have CR := Lib.hid (fun wx => result_ok nb na 0 wx)
  clear ha hc hnb hna
  have A := At2.new w (.int .i64 a) (.int .i64 b) 23
  have A := A.alloc (.cells #[.int .i64 c, .int .i64 d] 23)
  have B := At2.new (w.alloc (.cells #[.int .i64 a, .int .i64 b] 23)) (.int .i64 c) (.int .i64 d) 23
  simp at B
  have HB := Lib.hid (bstep (bstep (Below.refl w.heap.size w) (below1 w (.cells #[.int .i64 a, .int .i64 b] 23))) (below1 (w.alloc (.cells #[.int .i64 a, .int .i64 b] 23)) (.cells #[.int .i64 c, .int .i64 d] 23)))
  go_enter Try.func4, Try.ntmps4
  obtain ⟨A0, A1, -, -, -⟩ := id A
  obtain ⟨B0, B1, -, -, -⟩ := id B
  go_wp2_with fail
  refine (CA.out _).mono ?_
  rintro e w1 ⟨rfl, hb⟩
  have A := (A.keep hb)
  have B := (B.keep hb)
  have HB := Lib.hid (bstep HB.out hb)
  clear hb
  clear A0 A1 B0 B1
  obtain ⟨A0, A1, -, -, -⟩ := id A
  obtain ⟨B0, B1, -, -, -⟩ := id B
  go_wp2_with fail
  clear A0 A1 B0 B1
  obtain ⟨A0, A1⟩ := A.bel
  obtain ⟨B0, B1⟩ := B.bel
  refine wp_region_bel (by kernel_rfl) (by kernel_rfl) ?_
  repeat (go_big_quiet_step (first | (go_at_call 16; first | (with_reducible refine bel_of (V1.out _)) | (with_reducible refine bel_of (V2.out _)))))
  refine wpQuiet_nil ?_
  intro _ hw'
  obtain ⟨pq, hw''⟩ := hw'
  subst hw''
  have A := A.keep pq.h
  have B := B.keep pq.h
  have HB := Lib.hid (bstep HB.out pq.h)
  clear A0 A1 B0 B1
  obtain ⟨A0, A1, -, -, -⟩ := id A
  obtain ⟨B0, B1, -, -, -⟩ := id B
  go_wp2_with fail
  refine (C1.out _).mono ?_
  rintro e w2 ⟨rfl, hb⟩
  have A := (A.keep hb).alloc (.cells #[.int .i64 0, .int .i64 0] 23)
  have B := (B.keep hb).alloc (.cells #[.int .i64 0, .int .i64 0] 23)
  have X := At2.new w2 (.int .i64 0) (.int .i64 0) 23
  have HB := Lib.hid (bstep (bstep HB.out hb) (below1 w2 (.cells #[.int .i64 0, .int .i64 0] 23)))
  clear hb
  clear A0 A1 B0 B1
  obtain ⟨A0, A1, -, -, -⟩ := id A
  obtain ⟨B0, B1, -, -, -⟩ := id B
  obtain ⟨X0, X1, -, -, -⟩ := id X
  go_wp2_with fail
  refine (C2.out _).mono ?_
  rintro e w3 ⟨rfl, hb⟩
  have A := (A.keep hb).alloc (.cells #[.int .i64 0, .int .i64 0] 23)
  have B := (B.keep hb).alloc (.cells #[.int .i64 0, .int .i64 0] 23)
  have X := (X.keep hb).alloc (.cells #[.int .i64 0, .int .i64 0] 23)
  have Y := At2.new w3 (.int .i64 0) (.int .i64 0) 23
  have HB := Lib.hid (bstep (bstep HB.out hb) (below1 w3 (.cells #[.int .i64 0, .int .i64 0] 23)))
  clear hb
  clear A0 A1 B0 B1 X0 X1
  obtain ⟨A0, A1, -, -, -⟩ := id A
  obtain ⟨B0, B1, -, -, -⟩ := id B
  obtain ⟨X0, X1, -, -, -⟩ := id X
  obtain ⟨Y0, Y1, -, -, -⟩ := id Y
  go_wp2_with fail
  refine (C3.out _).mono ?_
  rintro e w4 ⟨rfl, hb⟩
  have A := (A.keep hb).alloc (.cells #[.int .i64 nb, .int .i64 na] 23)
  have B := (B.keep hb).alloc (.cells #[.int .i64 nb, .int .i64 na] 23)
  have X := (X.keep hb).alloc (.cells #[.int .i64 nb, .int .i64 na] 23)
  have Y := (Y.keep hb).alloc (.cells #[.int .i64 nb, .int .i64 na] 23)
  have Z := At2.new w4 (.int .i64 nb) (.int .i64 na) 23
  have HB := Lib.hid (bstep (bstep HB.out hb) (below1 w4 (.cells #[.int .i64 nb, .int .i64 na] 23)))
  clear hb
  clear A0 A1 B0 B1 X0 X1 Y0 Y1
  obtain ⟨A0, A1, -, -, -⟩ := id A
  obtain ⟨B0, B1, -, -, -⟩ := id B
  obtain ⟨X0, X1, -, -, -⟩ := id X
  obtain ⟨Y0, Y1, -, -, -⟩ := id Y
  obtain ⟨Z0, Z1, -, -, -⟩ := id Z
  go_wp2_with fail
  clear A0 A1 B0 B1 X0 X1 Y0 Y1 Z0 Z1
  obtain ⟨A0, A1⟩ := A.bel
  obtain ⟨B0, B1⟩ := B.bel
  obtain ⟨X0, X1⟩ := X.bel
  obtain ⟨Y0, Y1⟩ := Y.bel
  obtain ⟨Z0, Z1⟩ := Z.bel
  refine wp_region_bel (by kernel_rfl) (by kernel_rfl) ?_
  repeat (go_big_quiet_step (first | (go_at_call 26; first | (with_reducible refine bel_of (CN.out _))) | (go_at_call 14; first | (with_reducible refine bel_of (CR.out _)))))
  refine wpQuiet_nil ?_
  intro _ hw'
  obtain ⟨pq, hw''⟩ := hw'
  subst hw''
  have A := A.keep pq.h
  have B := B.keep pq.h
  have X := X.keep pq.h
  have Y := Y.keep pq.h
  have Z := Z.keep pq.h
  have HB := Lib.hid (bstep HB.out pq.h)
  clear A0 A1 B0 B1 X0 X1 Y0 Y1 Z0 Z1
  obtain ⟨A0, A1, -, -, -⟩ := id A
  obtain ⟨B0, B1, -, -, -⟩ := id B
  obtain ⟨X0, X1, -, -, -⟩ := id X
  obtain ⟨Y0, Y1, -, -, -⟩ := id Y
  obtain ⟨Z0, Z1, -, -, -⟩ := id Z
  go_wp2_with fail
  refine (result_bad _ _ _ _).mono ?_
  rintro e w5 ⟨rfl, hb⟩
  have A := (A.keep hb)
  have B := (B.keep hb)
  have X := (X.keep hb)
  have Y := (Y.keep hb)
  have Z := (Z.keep hb)
  have HB := Lib.hid (bstep HB.out hb)
  clear hb
  clear A0 A1 B0 B1 X0 X1 Y0 Y1 Z0 Z1
  obtain ⟨A0, A1, -, -, -⟩ := id A
  obtain ⟨B0, B1, -, -, -⟩ := id B
  obtain ⟨X0, X1, -, -, -⟩ := id X
  obtain ⟨Y0, Y1, -, -, -⟩ := id Y
  obtain ⟨Z0, Z1, -, -, -⟩ := id Z
  go_wp2_with fail
  refine (result_bad _ _ _ _).mono ?_
  rintro e w6 ⟨rfl, hb⟩
  have A := (A.keep hb)
  have B := (B.keep hb)
  have X := (X.keep hb)
  have Y := (Y.keep hb)
  have Z := (Z.keep hb)
  have HB := Lib.hid (bstep HB.out hb)
  clear hb
  clear A0 A1 B0 B1 X0 X1 Y0 Y1 Z0 Z1
  obtain ⟨A0, A1, -, -, -⟩ := id A
  obtain ⟨B0, B1, -, -, -⟩ := id B
  obtain ⟨X0, X1, -, -, -⟩ := id X
  obtain ⟨Y0, Y1, -, -, -⟩ := id Y
  obtain ⟨Z0, Z1, -, -, -⟩ := id Z
  go_wp2_with fail
  go_ret
  exact ⟨rfl, HB.out⟩

set_option maxHeartbeats 4000000 in
theorem sums_good (P : FxProg) (a b c d : Int) (w : World) (ha : fok a b = true) (hc : fok c d = true) :
    Calls Try.prog 4 #[.agg #[.int .i64 a, .int .i64 b], .agg #[.int .i64 c, .int .i64 d]] w fun e w' => e = .returned (.bool true) ∧ Below w.heap.size w w' := by
  have CA := Lib.hid (fun wx => awake_any P wx)
  have V1 := Lib.hid (fun wx => rValid_is a b true ha wx)
  have V2 := Lib.hid (fun wx => rValid_is c d true hc wx)
  obtain ⟨S, hS⟩ : ∃ S, addR a b c d = S := ⟨_, rfl⟩
  obtain ⟨D, hD⟩ : ∃ D, subR a b c d = D := ⟨_, rfl⟩
  have C1 := Lib.hid (fun wx => told S.l S.h S.e ((vF_yes _ (by rw [ha, hc]; rfl)).trans hS) (P.add a b c d wx))
  have C2 := Lib.hid (fun wx => told D.l D.h D.e ((vF_yes _ (by rw [ha, hc]; rfl)).trans hD) (P.sub a b c d wx))
  have K1 := Lib.hid (fun wx => told S.l S.h S.e hS (rAdd a b c d wx ha hc))
  have K2 := Lib.hid (fun wx => told D.l D.h D.e hD (rSub a b c d wx ha hc))
  obtain ⟨nb, hnb⟩ : ∃ nb, -b = nb := ⟨_, rfl⟩
  obtain ⟨na, hna⟩ : ∃ na, -a = na := ⟨_, rfl⟩
  have C3 := Lib.hid (fun wx => told nb na 0 ((vF_yes _ ha).trans (by rw [← hnb, ← hna]; rfl)) (P.neg a b wx))
  have CN := Lib.hid (fun wx => rNeg a b wx ha)
  rw [hnb, hna] at CN
  have CR := Lib.hid (fun wx => result_ok nb na 0 wx)
  clear ha hc hS hD hnb hna
  have A := At2.new w (.int .i64 a) (.int .i64 b) 23
  have A := A.alloc (.cells #[.int .i64 c, .int .i64 d] 23)
  have B := At2.new (w.alloc (.cells #[.int .i64 a, .int .i64 b] 23)) (.int .i64 c) (.int .i64 d) 23
  simp at B
  have HB := Lib.hid (bstep (bstep (Below.refl w.heap.size w) (below1 w (.cells #[.int .i64 a, .int .i64 b] 23))) (below1 (w.alloc (.cells #[.int .i64 a, .int .i64 b] 23)) (.cells #[.int .i64 c, .int .i64 d] 23)))
  go_enter Try.func4, Try.ntmps4
  obtain ⟨A0, A1, -, -, -⟩ := id A
  obtain ⟨B0, B1, -, -, -⟩ := id B
  go_wp2_with fail
  refine (CA.out _).mono ?_
  rintro e w1 ⟨rfl, hb⟩
  have A := (A.keep hb)
  have B := (B.keep hb)
  have HB := Lib.hid (bstep HB.out hb)
  clear hb
  clear A0 A1 B0 B1
  obtain ⟨A0, A1, -, -, -⟩ := id A
  obtain ⟨B0, B1, -, -, -⟩ := id B
  go_wp2_with fail
  clear A0 A1 B0 B1
  obtain ⟨A0, A1⟩ := A.bel
  obtain ⟨B0, B1⟩ := B.bel
  refine wp_region_bel (by kernel_rfl) (by kernel_rfl) ?_
  repeat (go_big_quiet_step (first | (go_at_call 16; first | (with_reducible refine bel_of (V1.out _)) | (with_reducible refine bel_of (V2.out _)))))
  refine wpQuiet_nil ?_
  intro _ hw'
  obtain ⟨pq, hw''⟩ := hw'
  subst hw''
  have A := A.keep pq.h
  have B := B.keep pq.h
  have HB := Lib.hid (bstep HB.out pq.h)
  clear A0 A1 B0 B1
  obtain ⟨A0, A1, -, -, -⟩ := id A
  obtain ⟨B0, B1, -, -, -⟩ := id B
  go_wp2_with fail
  refine (C1.out _).mono ?_
  rintro e w2 ⟨rfl, hb⟩
  have A := (A.keep hb).alloc (.cells #[.int .i64 S.l, .int .i64 S.h] 23)
  have B := (B.keep hb).alloc (.cells #[.int .i64 S.l, .int .i64 S.h] 23)
  have X := At2.new w2 (.int .i64 S.l) (.int .i64 S.h) 23
  have HB := Lib.hid (bstep (bstep HB.out hb) (below1 w2 (.cells #[.int .i64 S.l, .int .i64 S.h] 23)))
  clear hb
  clear A0 A1 B0 B1
  obtain ⟨A0, A1, -, -, -⟩ := id A
  obtain ⟨B0, B1, -, -, -⟩ := id B
  obtain ⟨X0, X1, -, -, -⟩ := id X
  go_wp2_with fail
  refine (C2.out _).mono ?_
  rintro e w3 ⟨rfl, hb⟩
  have A := (A.keep hb).alloc (.cells #[.int .i64 D.l, .int .i64 D.h] 23)
  have B := (B.keep hb).alloc (.cells #[.int .i64 D.l, .int .i64 D.h] 23)
  have X := (X.keep hb).alloc (.cells #[.int .i64 D.l, .int .i64 D.h] 23)
  have Y := At2.new w3 (.int .i64 D.l) (.int .i64 D.h) 23
  have HB := Lib.hid (bstep (bstep HB.out hb) (below1 w3 (.cells #[.int .i64 D.l, .int .i64 D.h] 23)))
  clear hb
  clear A0 A1 B0 B1 X0 X1
  obtain ⟨A0, A1, -, -, -⟩ := id A
  obtain ⟨B0, B1, -, -, -⟩ := id B
  obtain ⟨X0, X1, -, -, -⟩ := id X
  obtain ⟨Y0, Y1, -, -, -⟩ := id Y
  go_wp2_with fail
  refine (C3.out _).mono ?_
  rintro e w4 ⟨rfl, hb⟩
  have A := (A.keep hb).alloc (.cells #[.int .i64 nb, .int .i64 na] 23)
  have B := (B.keep hb).alloc (.cells #[.int .i64 nb, .int .i64 na] 23)
  have X := (X.keep hb).alloc (.cells #[.int .i64 nb, .int .i64 na] 23)
  have Y := (Y.keep hb).alloc (.cells #[.int .i64 nb, .int .i64 na] 23)
  have Z := At2.new w4 (.int .i64 nb) (.int .i64 na) 23
  have HB := Lib.hid (bstep (bstep HB.out hb) (below1 w4 (.cells #[.int .i64 nb, .int .i64 na] 23)))
  clear hb
  clear A0 A1 B0 B1 X0 X1 Y0 Y1
  obtain ⟨A0, A1, -, -, -⟩ := id A
  obtain ⟨B0, B1, -, -, -⟩ := id B
  obtain ⟨X0, X1, -, -, -⟩ := id X
  obtain ⟨Y0, Y1, -, -, -⟩ := id Y
  obtain ⟨Z0, Z1, -, -, -⟩ := id Z
  go_wp2_with fail
  clear A0 A1 B0 B1 X0 X1 Y0 Y1 Z0 Z1
  obtain ⟨A0, A1⟩ := A.bel
  obtain ⟨B0, B1⟩ := B.bel
  obtain ⟨X0, X1⟩ := X.bel
  obtain ⟨Y0, Y1⟩ := Y.bel
  obtain ⟨Z0, Z1⟩ := Z.bel
  refine wp_region_bel (by kernel_rfl) (by kernel_rfl) ?_
  repeat (go_big_quiet_step (first | (go_at_call 26; first | (with_reducible refine bel_of (CN.out _))) | (go_at_call 14; first | (with_reducible refine bel_of (CR.out _)))))
  refine wpQuiet_nil ?_
  intro _ hw'
  obtain ⟨pq, hw''⟩ := hw'
  subst hw''
  have A := A.keep pq.h
  have B := B.keep pq.h
  have X := X.keep pq.h
  have Y := Y.keep pq.h
  have Z := Z.keep pq.h
  have HB := Lib.hid (bstep HB.out pq.h)
  clear A0 A1 B0 B1 X0 X1 Y0 Y1 Z0 Z1
  obtain ⟨A0, A1, -, -, -⟩ := id A
  obtain ⟨B0, B1, -, -, -⟩ := id B
  obtain ⟨X0, X1, -, -, -⟩ := id X
  obtain ⟨Y0, Y1, -, -, -⟩ := id Y
  obtain ⟨Z0, Z1, -, -, -⟩ := id Z
  go_wp2_with fail
  refine (K1.out _).mono ?_
  rintro e w5 ⟨rfl, hb⟩
  have A := (A.keep hb).alloc (.cells #[.int .i64 S.l, .int .i64 S.h] 23)
  have B := (B.keep hb).alloc (.cells #[.int .i64 S.l, .int .i64 S.h] 23)
  have X := (X.keep hb).alloc (.cells #[.int .i64 S.l, .int .i64 S.h] 23)
  have Y := (Y.keep hb).alloc (.cells #[.int .i64 S.l, .int .i64 S.h] 23)
  have Z := (Z.keep hb).alloc (.cells #[.int .i64 S.l, .int .i64 S.h] 23)
  have G := At2.new w5 (.int .i64 S.l) (.int .i64 S.h) 23
  have HB := Lib.hid (bstep (bstep HB.out hb) (below1 w5 (.cells #[.int .i64 S.l, .int .i64 S.h] 23)))
  clear hb
  clear A0 A1 B0 B1 X0 X1 Y0 Y1 Z0 Z1
  obtain ⟨A0, A1, -, -, -⟩ := id A
  obtain ⟨B0, B1, -, -, -⟩ := id B
  obtain ⟨X0, X1, -, -, -⟩ := id X
  obtain ⟨Y0, Y1, -, -, -⟩ := id Y
  obtain ⟨Z0, Z1, -, -, -⟩ := id Z
  obtain ⟨G0, G1, -, -, -⟩ := id G
  go_wp2_with fail
  refine (K2.out _).mono ?_
  rintro e w6 ⟨rfl, hb⟩
  have A := (A.keep hb).alloc (.cells #[.int .i64 D.l, .int .i64 D.h] 23)
  have B := (B.keep hb).alloc (.cells #[.int .i64 D.l, .int .i64 D.h] 23)
  have X := (X.keep hb).alloc (.cells #[.int .i64 D.l, .int .i64 D.h] 23)
  have Y := (Y.keep hb).alloc (.cells #[.int .i64 D.l, .int .i64 D.h] 23)
  have Z := (Z.keep hb).alloc (.cells #[.int .i64 D.l, .int .i64 D.h] 23)
  have G := (G.keep hb).alloc (.cells #[.int .i64 D.l, .int .i64 D.h] 23)
  have H := At2.new w6 (.int .i64 D.l) (.int .i64 D.h) 23
  have HB := Lib.hid (bstep (bstep HB.out hb) (below1 w6 (.cells #[.int .i64 D.l, .int .i64 D.h] 23)))
  clear hb
  clear A0 A1 B0 B1 X0 X1 Y0 Y1 Z0 Z1 G0 G1
  obtain ⟨A0, A1, -, -, -⟩ := id A
  obtain ⟨B0, B1, -, -, -⟩ := id B
  obtain ⟨X0, X1, -, -, -⟩ := id X
  obtain ⟨Y0, Y1, -, -, -⟩ := id Y
  obtain ⟨Z0, Z1, -, -, -⟩ := id Z
  obtain ⟨G0, G1, -, -, -⟩ := id G
  obtain ⟨H0, H1, -, -, -⟩ := id H
  go_wp2_with fail
  refine (result_ok _ _ _ _).mono ?_
  rintro e w7 ⟨rfl, hb⟩
  have A := (A.keep hb)
  have B := (B.keep hb)
  have X := (X.keep hb)
  have Y := (Y.keep hb)
  have Z := (Z.keep hb)
  have G := (G.keep hb)
  have H := (H.keep hb)
  have HB := Lib.hid (bstep HB.out hb)
  clear hb
  clear A0 A1 B0 B1 X0 X1 Y0 Y1 Z0 Z1 G0 G1 H0 H1
  obtain ⟨A0, A1, -, -, -⟩ := id A
  obtain ⟨B0, B1, -, -, -⟩ := id B
  obtain ⟨X0, X1, -, -, -⟩ := id X
  obtain ⟨Y0, Y1, -, -, -⟩ := id Y
  obtain ⟨Z0, Z1, -, -, -⟩ := id Z
  obtain ⟨G0, G1, -, -, -⟩ := id G
  obtain ⟨H0, H1, -, -, -⟩ := id H
  go_wp2_with fail
  refine (result_ok _ _ _ _).mono ?_
  rintro e w8 ⟨rfl, hb⟩
  have A := (A.keep hb)
  have B := (B.keep hb)
  have X := (X.keep hb)
  have Y := (Y.keep hb)
  have Z := (Z.keep hb)
  have G := (G.keep hb)
  have H := (H.keep hb)
  have HB := Lib.hid (bstep HB.out hb)
  clear hb
  clear A0 A1 B0 B1 X0 X1 Y0 Y1 Z0 Z1 G0 G1 H0 H1
  obtain ⟨A0, A1, -, -, -⟩ := id A
  obtain ⟨B0, B1, -, -, -⟩ := id B
  obtain ⟨X0, X1, -, -, -⟩ := id X
  obtain ⟨Y0, Y1, -, -, -⟩ := id Y
  obtain ⟨Z0, Z1, -, -, -⟩ := id Z
  obtain ⟨G0, G1, -, -, -⟩ := id G
  obtain ⟨H0, H1, -, -, -⟩ := id H
  go_wp2_with fail
  go_ret
  exact ⟨rfl, HB.out⟩

theorem sums_walk (P : FxProg) (a b c d : Int) (w : World) :
    Calls Try.prog 4 #[.agg #[.int .i64 a, .int .i64 b], .agg #[.int .i64 c, .int .i64 d]] w fun e w' => e = .returned (.bool true) ∧ Below w.heap.size w w' := by
  cases ha : fok a b
  · exact sums_bad P a b c d w ha
  · cases hc : fok c d
    · exact sums_mid P a b c d w ha hc
    · exact sums_good P a b c d w ha hc
end Go.Proofs.Ytdkigfcglfgpoaa
