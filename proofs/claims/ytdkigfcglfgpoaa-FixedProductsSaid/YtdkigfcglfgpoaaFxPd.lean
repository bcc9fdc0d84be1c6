/- FixedProducts: the walk of the law. -/
import Derived.Test.YtdkigfcglfgpoaaFxL
namespace Go.Proofs.Ytdkigfcglfgpoaa
open Go.RowKit
set_option linter.unusedVariables false

set_option maxHeartbeats 4000000 in
theorem prod_bad (P : FxProg) (a b c d : Int) (w : World) (ha : fok a b = false) :
    Calls Try.prog 5 #[.agg #[.int .i64 a, .int .i64 b], .agg #[.int .i64 c, .int .i64 d]] w fun e w' => e = .returned (.bool true) ∧ Below w.heap.size w w' := by
  have CA := Lib.hid (fun wx => awake_any P wx)
  have V1 := Lib.hid (fun wx => rValid_is a b false ha wx)
  have C1 := Lib.hid (fun wx => told 0 0 1 (vF_no _ (by rw [ha]; rfl)) (P.mul a b c d wx))
  have C3 := Lib.hid (fun wx => told 0 0 1 (vF_no _ (by rw [ha]; rfl)) (P.div a b c d wx))
  have C2 := Lib.hid (fun wx => told 0 0 1 (vF_no _ ha) (P.square a b wx))
  clear ha
  have A := At2.new w (.int .i64 a) (.int .i64 b) 23
  have A := A.alloc (.cells #[.int .i64 c, .int .i64 d] 23)
  have B := At2.new (w.alloc (.cells #[.int .i64 a, .int .i64 b] 23)) (.int .i64 c) (.int .i64 d) 23
  simp at B
  have HB := Lib.hid (bstep (bstep (Below.refl w.heap.size w) (below1 w (.cells #[.int .i64 a, .int .i64 b] 23))) (below1 (w.alloc (.cells #[.int .i64 a, .int .i64 b] 23)) (.cells #[.int .i64 c, .int .i64 d] 23)))
  go_enter Try.func5, Try.ntmps5
  obtain ⟨A0, A1, -, -, -⟩ := id A
  obtain ⟨B0, B1, -, -, -⟩ := id B
  go_wp2_with fail
  refine (CA.out _).mono ?_
  rintro e w1 ⟨rfl, hb⟩
  have A := (A.keep hb)
  have B := (B.keep hb)
  have HB := Lib.hid (bstep HB.out hb)
  clear hb
  clear A0 A1 B0 B1
  obtain ⟨A0, A1, -, -, -⟩ := id A
  obtain ⟨B0, B1, -, -, -⟩ := id B
  go_wp2_with fail
  refine (C1.out _).mono ?_
  rintro e w2 ⟨rfl, hb⟩
  have A := (A.keep hb).alloc (.cells #[.int .i64 0, .int .i64 0] 23)
  have B := (B.keep hb).alloc (.cells #[.int .i64 0, .int .i64 0] 23)
  have X := At2.new w2 (.int .i64 0) (.int .i64 0) 23
  have HB := Lib.hid (bstep (bstep HB.out hb) (below1 w2 (.cells #[.int .i64 0, .int .i64 0] 23)))
  clear hb
  clear A0 A1 B0 B1
  obtain ⟨A0, A1, -, -, -⟩ := id A
  obtain ⟨B0, B1, -, -, -⟩ := id B
  obtain ⟨X0, X1, -, -, -⟩ := id X
  go_wp2_with fail
  refine (C2.out _).mono ?_
  rintro e w3 ⟨rfl, hb⟩
  have A := (A.keep hb).alloc (.cells #[.int .i64 0, .int .i64 0] 23)
  have B := (B.keep hb).alloc (.cells #[.int .i64 0, .int .i64 0] 23)
  have X := (X.keep hb).alloc (.cells #[.int .i64 0, .int .i64 0] 23)
  have Y := At2.new w3 (.int .i64 0) (.int .i64 0) 23
  have HB := Lib.hid (bstep (bstep HB.out hb) (below1 w3 (.cells #[.int .i64 0, .int .i64 0] 23)))
  clear hb
  clear A0 A1 B0 B1 X0 X1
  obtain ⟨A0, A1, -, -, -⟩ := id A
  obtain ⟨B0, B1, -, -, -⟩ := id B
  obtain ⟨X0, X1, -, -, -⟩ := id X
  obtain ⟨Y0, Y1, -, -, -⟩ := id Y
  go_wp2_with fail
  refine (C3.out _).mono ?_
  rintro e w4 ⟨rfl, hb⟩
  have A := (A.keep hb).alloc (.cells #[.int .i64 0, .int .i64 0] 23)
  have B := (B.keep hb).alloc (.cells #[.int .i64 0, .int .i64 0] 23)
  have X := (X.keep hb).alloc (.cells #[.int .i64 0, .int .i64 0] 23)
  have Y := (Y.keep hb).alloc (.cells #[.int .i64 0, .int .i64 0] 23)
  have Z := At2.new w4 (.int .i64 0) (.int .i64 0) 23
  have HB := Lib.hid (bstep (bstep HB.out hb) (below1 w4 (.cells #[.int .i64 0, .int .i64 0] 23)))
  clear hb
  clear A0 A1 B0 B1 X0 X1 Y0 Y1
  obtain ⟨A0, A1, -, -, -⟩ := id A
  obtain ⟨B0, B1, -, -, -⟩ := id B
  obtain ⟨X0, X1, -, -, -⟩ := id X
  obtain ⟨Y0, Y1, -, -, -⟩ := id Y
  obtain ⟨Z0, Z1, -, -, -⟩ := id Z
  go_wp2_with fail
  refine (V1.out _).mono ?_
  rintro e w5 ⟨rfl, hb⟩
  have A := (A.keep hb)
  have B := (B.keep hb)
  have X := (X.keep hb)
  have Y := (Y.keep hb)
  have Z := (Z.keep hb)
  have HB := Lib.hid (bstep HB.out hb)
  clear hb
  clear A0 A1 B0 B1 X0 X1 Y0 Y1 Z0 Z1
  obtain ⟨A0, A1, -, -, -⟩ := id A
  obtain ⟨B0, B1, -, -, -⟩ := id B
  obtain ⟨X0, X1, -, -, -⟩ := id X
  obtain ⟨Y0, Y1, -, -, -⟩ := id Y
  obtain ⟨Z0, Z1, -, -, -⟩ := id Z
  go_wp2_with fail
  refine (result_bad _ _ _ _).mono ?_
  rintro e w6 ⟨rfl, hb⟩
  have A := (A.keep hb)
  have B := (B.keep hb)
  have X := (X.keep hb)
  have Y := (Y.keep hb)
  have Z := (Z.keep hb)
  have HB := Lib.hid (bstep HB.out hb)
  clear hb
  clear A0 A1 B0 B1 X0 X1 Y0 Y1 Z0 Z1
  obtain ⟨A0, A1, -, -, -⟩ := id A
  obtain ⟨B0, B1, -, -, -⟩ := id B
  obtain ⟨X0, X1, -, -, -⟩ := id X
  obtain ⟨Y0, Y1, -, -, -⟩ := id Y
  obtain ⟨Z0, Z1, -, -, -⟩ := id Z
  go_wp2_with fail
  refine (result_bad _ _ _ _).mono ?_
  rintro e w7 ⟨rfl, hb⟩
  have A := (A.keep hb)
  have B := (B.keep hb)
  have X := (X.keep hb)
  have Y := (Y.keep hb)
  have Z := (Z.keep hb)
  have HB := Lib.hid (bstep HB.out hb)
  clear hb
  clear A0 A1 B0 B1 X0 X1 Y0 Y1 Z0 Z1
  obtain ⟨A0, A1, -, -, -⟩ := id A
  obtain ⟨B0, B1, -, -, -⟩ := id B
  obtain ⟨X0, X1, -, -, -⟩ := id X
  obtain ⟨Y0, Y1, -, -, -⟩ := id Y
  obtain ⟨Z0, Z1, -, -, -⟩ := id Z
  go_wp2_with fail
  refine (result_bad _ _ _ _).mono ?_
  rintro e w8 ⟨rfl, hb⟩
  have A := (A.keep hb)
  have B := (B.keep hb)
  have X := (X.keep hb)
  have Y := (Y.keep hb)
  have Z := (Z.keep hb)
  have HB := Lib.hid (bstep HB.out hb)
  clear hb
  clear A0 A1 B0 B1 X0 X1 Y0 Y1 Z0 Z1
  obtain ⟨A0, A1, -, -, -⟩ := id A
  obtain ⟨B0, B1, -, -, -⟩ := id B
  obtain ⟨X0, X1, -, -, -⟩ := id X
  obtain ⟨Y0, Y1, -, -, -⟩ := id Y
  obtain ⟨Z0, Z1, -, -, -⟩ := id Z
  go_wp2_with fail
  go_ret
  exact ⟨rfl, HB.out⟩

set_option maxHeartbeats 4000000 in
theorem prod_mid (P : FxProg) (a b c d : Int) (w : World) (ha : fok a b = true) (hc : fok c d = false) :
    Calls Try.prog 5 #[.agg #[.int .i64 a, .int .i64 b], .agg #[.int .i64 c, .int .i64 d]] w fun e w' => e = .returned (.bool true) ∧ Below w.heap.size w w' := by
  have CA := Lib.hid (fun wx => awake_any P wx)
  have V1 := Lib.hid (fun wx => rValid_is a b true ha wx)
  have V2 := Lib.hid (fun wx => rValid_is c d false hc wx)
  have C1 := Lib.hid (fun wx => told 0 0 1 (vF_no _ (by rw [ha, hc]; rfl)) (P.mul a b c d wx))
  have C3 := Lib.hid (fun wx => told 0 0 1 (vF_no _ (by rw [ha, hc]; rfl)) (P.div a b c d wx))
  obtain ⟨S, hS⟩ : ∃ S, squareR a b = S := ⟨_, rfl⟩
  have C2 := Lib.hid (fun wx => told S.l S.h S.e ((vF_yes _ ha).trans hS) (P.square a b wx))
  have K2 := Lib.hid (fun wx => told S.l S.h S.e hS (rSquare a b wx ha))
  clear ha hc hS
  have A := At2.new w (.int .i64 a) (.int .i64 b) 23
  have A := A.alloc (.cells #[.int .i64 c, .int .i64 d] 23)
  have B := At2.new (w.alloc (.cells #[.int .i64 a, .int .i64 b] 23)) (.int .i64 c) (.int .i64 d) 23
  simp at B
  have HB := Lib.hid (bstep (bstep (Below.refl w.heap.size w) (below1 w (.cells #[.int .i64 a, .int .i64 b] 23))) (below1 (w.alloc (.cells #[.int .i64 a, .int .i64 b] 23)) (.cells #[.int .i64 c, .int .i64 d] 23)))
  go_enter Try.func5, Try.ntmps5
  obtain ⟨A0, A1, -, -, -⟩ := id A
  obtain ⟨B0, B1, -, -, -⟩ := id B
  go_wp2_with fail
  refine (CA.out _).mono ?_
  rintro e w1 ⟨rfl, hb⟩
  have A := (A.keep hb)
  have B := (B.keep hb)
  have HB := Lib.hid (bstep HB.out hb)
  clear hb
  clear A0 A1 B0 B1
  obtain ⟨A0, A1, -, -, -⟩ := id A
  obtain ⟨B0, B1, -, -, -⟩ := id B
  go_wp2_with fail
  refine (C1.out _).mono ?_
  rintro e w2 ⟨rfl, hb⟩
  have A := (A.keep hb).alloc (.cells #[.int .i64 0, .int .i64 0] 23)
  have B := (B.keep hb).alloc (.cells #[.int .i64 0, .int .i64 0] 23)
  have X := At2.new w2 (.int .i64 0) (.int .i64 0) 23
  have HB := Lib.hid (bstep (bstep HB.out hb) (below1 w2 (.cells #[.int .i64 0, .int .i64 0] 23)))
  clear hb
  clear A0 A1 B0 B1
  obtain ⟨A0, A1, -, -, -⟩ := id A
  obtain ⟨B0, B1, -, -, -⟩ := id B
  obtain ⟨X0, X1, -, -, -⟩ := id X
  go_wp2_with fail
  refine (C2.out _).mono ?_
  rintro e w3 ⟨rfl, hb⟩
  have A := (A.keep hb).alloc (.cells #[.int .i64 S.l, .int .i64 S.h] 23)
  have B := (B.keep hb).alloc (.cells #[.int .i64 S.l, .int .i64 S.h] 23)
  have X := (X.keep hb).alloc (.cells #[.int .i64 S.l, .int .i64 S.h] 23)
  have Y := At2.new w3 (.int .i64 S.l) (.int .i64 S.h) 23
  have HB := Lib.hid (bstep (bstep HB.out hb) (below1 w3 (.cells #[.int .i64 S.l, .int .i64 S.h] 23)))
  clear hb
  clear A0 A1 B0 B1 X0 X1
  obtain ⟨A0, A1, -, -, -⟩ := id A
  obtain ⟨B0, B1, -, -, -⟩ := id B
  obtain ⟨X0, X1, -, -, -⟩ := id X
  obtain ⟨Y0, Y1, -, -, -⟩ := id Y
  go_wp2_with fail
  refine (C3.out _).mono ?_
  rintro e w4 ⟨rfl, hb⟩
  have A := (A.keep hb).alloc (.cells #[.int .i64 0, .int .i64 0] 23)
  have B := (B.keep hb).alloc (.cells #[.int .i64 0, .int .i64 0] 23)
  have X := (X.keep hb).alloc (.cells #[.int .i64 0, .int .i64 0] 23)
  have Y := (Y.keep hb).alloc (.cells #[.int .i64 0, .int .i64 0] 23)
  have Z := At2.new w4 (.int .i64 0) (.int .i64 0) 23
  have HB := Lib.hid (bstep (bstep HB.out hb) (below1 w4 (.cells #[.int .i64 0, .int .i64 0] 23)))
  clear hb
  clear A0 A1 B0 B1 X0 X1 Y0 Y1
  obtain ⟨A0, A1, -, -, -⟩ := id A
  obtain ⟨B0, B1, -, -, -⟩ := id B
  obtain ⟨X0, X1, -, -, -⟩ := id X
  obtain ⟨Y0, Y1, -, -, -⟩ := id Y
  obtain ⟨Z0, Z1, -, -, -⟩ := id Z
  go_wp2_with fail
  refine (V1.out _).mono ?_
  rintro e w5 ⟨rfl, hb⟩
  have A := (A.keep hb)
  have B := (B.keep hb)
  have X := (X.keep hb)
  have Y := (Y.keep hb)
  have Z := (Z.keep hb)
  have HB := Lib.hid (bstep HB.out hb)
  clear hb
  clear A0 A1 B0 B1 X0 X1 Y0 Y1 Z0 Z1
  obtain ⟨A0, A1, -, -, -⟩ := id A
  obtain ⟨B0, B1, -, -, -⟩ := id B
  obtain ⟨X0, X1, -, -, -⟩ := id X
  obtain ⟨Y0, Y1, -, -, -⟩ := id Y
  obtain ⟨Z0, Z1, -, -, -⟩ := id Z
  go_wp2_with fail
  refine (K2.out _).mono ?_
  rintro e w6 ⟨rfl, hb⟩
  have A := (A.keep hb).alloc (.cells #[.int .i64 S.l, .int .i64 S.h] 23)
  have B := (B.keep hb).alloc (.cells #[.int .i64 S.l, .int .i64 S.h] 23)
  have X := (X.keep hb).alloc (.cells #[.int .i64 S.l, .int .i64 S.h] 23)
  have Y := (Y.keep hb).alloc (.cells #[.int .i64 S.l, .int .i64 S.h] 23)
  have Z := (Z.keep hb).alloc (.cells #[.int .i64 S.l, .int .i64 S.h] 23)
  have G := At2.new w6 (.int .i64 S.l) (.int .i64 S.h) 23
  have HB := Lib.hid (bstep (bstep HB.out hb) (below1 w6 (.cells #[.int .i64 S.l, .int .i64 S.h] 23)))
  clear hb
  clear A0 A1 B0 B1 X0 X1 Y0 Y1 Z0 Z1
  obtain ⟨A0, A1, -, -, -⟩ := id A
  obtain ⟨B0, B1, -, -, -⟩ := id B
  obtain ⟨X0, X1, -, -, -⟩ := id X
  obtain ⟨Y0, Y1, -, -, -⟩ := id Y
  obtain ⟨Z0, Z1, -, -, -⟩ := id Z
  obtain ⟨G0, G1, -, -, -⟩ := id G
  go_wp2_with fail
  refine (result_ok _ _ _ _).mono ?_
  rintro e w7 ⟨rfl, hb⟩
  have A := (A.keep hb)
  have B := (B.keep hb)
  have X := (X.keep hb)
  have Y := (Y.keep hb)
  have Z := (Z.keep hb)
  have G := (G.keep hb)
  have HB := Lib.hid (bstep HB.out hb)
  clear hb
  clear A0 A1 B0 B1 X0 X1 Y0 Y1 Z0 Z1 G0 G1
  obtain ⟨A0, A1, -, -, -⟩ := id A
  obtain ⟨B0, B1, -, -, -⟩ := id B
  obtain ⟨X0, X1, -, -, -⟩ := id X
  obtain ⟨Y0, Y1, -, -, -⟩ := id Y
  obtain ⟨Z0, Z1, -, -, -⟩ := id Z
  obtain ⟨G0, G1, -, -, -⟩ := id G
  go_wp2_with fail
  refine (V2.out _).mono ?_
  rintro e w8 ⟨rfl, hb⟩
  have A := (A.keep hb)
  have B := (B.keep hb)
  have X := (X.keep hb)
  have Y := (Y.keep hb)
  have Z := (Z.keep hb)
  have G := (G.keep hb)
  have HB := Lib.hid (bstep HB.out hb)
  clear hb
  clear A0 A1 B0 B1 X0 X1 Y0 Y1 Z0 Z1 G0 G1
  obtain ⟨A0, A1, -, -, -⟩ := id A
  obtain ⟨B0, B1, -, -, -⟩ := id B
  obtain ⟨X0, X1, -, -, -⟩ := id X
  obtain ⟨Y0, Y1, -, -, -⟩ := id Y
  obtain ⟨Z0, Z1, -, -, -⟩ := id Z
  obtain ⟨G0, G1, -, -, -⟩ := id G
  go_wp2_with fail
  refine (result_bad _ _ _ _).mono ?_
  rintro e w9 ⟨rfl, hb⟩
  have A := (A.keep hb)
  have B := (B.keep hb)
  have X := (X.keep hb)
  have Y := (Y.keep hb)
  have Z := (Z.keep hb)
  have G := (G.keep hb)
  have HB := Lib.hid (bstep HB.out hb)
  clear hb
  clear A0 A1 B0 B1 X0 X1 Y0 Y1 Z0 Z1 G0 G1
  obtain ⟨A0, A1, -, -, -⟩ := id A
  obtain ⟨B0, B1, -, -, -⟩ := id B
  obtain ⟨X0, X1, -, -, -⟩ := id X
  obtain ⟨Y0, Y1, -, -, -⟩ := id Y
  obtain ⟨Z0, Z1, -, -, -⟩ := id Z
  obtain ⟨G0, G1, -, -, -⟩ := id G
  go_wp2_with fail
  refine (result_bad _ _ _ _).mono ?_
  rintro e w10 ⟨rfl, hb⟩
  have A := (A.keep hb)
  have B := (B.keep hb)
  have X := (X.keep hb)
  have Y := (Y.keep hb)
  have Z := (Z.keep hb)
  have G := (G.keep hb)
  have HB := Lib.hid (bstep HB.out hb)
  clear hb
  clear A0 A1 B0 B1 X0 X1 Y0 Y1 Z0 Z1 G0 G1
  obtain ⟨A0, A1, -, -, -⟩ := id A
  obtain ⟨B0, B1, -, -, -⟩ := id B
  obtain ⟨X0, X1, -, -, -⟩ := id X
  obtain ⟨Y0, Y1, -, -, -⟩ := id Y
  obtain ⟨Z0, Z1, -, -, -⟩ := id Z
  obtain ⟨G0, G1, -, -, -⟩ := id G
  go_wp2_with fail
  go_ret
  exact ⟨rfl, HB.out⟩

set_option maxHeartbeats 4000000 in
theorem prod_good (P : FxProg) (a b c d : Int) (w : World) (ha : fok a b = true) (hc : fok c d = true) :
    Calls Try.prog 5 #[.agg #[.int .i64 a, .int .i64 b], .agg #[.int .i64 c, .int .i64 d]] w fun e w' => e = .returned (.bool true) ∧ Below w.heap.size w w' := by
  have CA := Lib.hid (fun wx => awake_any P wx)
  have V1 := Lib.hid (fun wx => rValid_is a b true ha wx)
  have V2 := Lib.hid (fun wx => rValid_is c d true hc wx)
  obtain ⟨M, hM⟩ : ∃ M, mulR a b c d = M := ⟨_, rfl⟩
  obtain ⟨Q, hQ⟩ : ∃ Q, divR a b c d = Q := ⟨_, rfl⟩
  have C1 := Lib.hid (fun wx => told M.l M.h M.e ((vF_yes _ (by rw [ha, hc]; rfl)).trans hM) (P.mul a b c d wx))
  have C3 := Lib.hid (fun wx => told Q.l Q.h Q.e ((vF_yes _ (by rw [ha, hc]; rfl)).trans hQ) (P.div a b c d wx))
  have K1 := Lib.hid (fun wx => told M.l M.h M.e hM (rMul a b c d wx ha hc))
  have K3 := Lib.hid (fun wx => told Q.l Q.h Q.e hQ (rDiv a b c d wx ha hc))
  obtain ⟨S, hS⟩ : ∃ S, squareR a b = S := ⟨_, rfl⟩
  have C2 := Lib.hid (fun wx => told S.l S.h S.e ((vF_yes _ ha).trans hS) (P.square a b wx))
  have K2 := Lib.hid (fun wx => told S.l S.h S.e hS (rSquare a b wx ha))
  clear ha hc hM hQ hS
  have A := At2.new w (.int .i64 a) (.int .i64 b) 23
  have A := A.alloc (.cells #[.int .i64 c, .int .i64 d] 23)
  have B := At2.new (w.alloc (.cells #[.int .i64 a, .int .i64 b] 23)) (.int .i64 c) (.int .i64 d) 23
  simp at B
  have HB := Lib.hid (bstep (bstep (Below.refl w.heap.size w) (below1 w (.cells #[.int .i64 a, .int .i64 b] 23))) (below1 (w.alloc (.cells #[.int .i64 a, .int .i64 b] 23)) (.cells #[.int .i64 c, .int .i64 d] 23)))
  go_enter Try.func5, Try.ntmps5
  obtain ⟨A0, A1, -, -, -⟩ := id A
  obtain ⟨B0, B1, -, -, -⟩ := id B
  go_wp2_with fail
  refine (CA.out _).mono ?_
  rintro e w1 ⟨rfl, hb⟩
  have A := (A.keep hb)
  have B := (B.keep hb)
  have HB := Lib.hid (bstep HB.out hb)
  clear hb
  clear A0 A1 B0 B1
  obtain ⟨A0, A1, -, -, -⟩ := id A
  obtain ⟨B0, B1, -, -, -⟩ := id B
  go_wp2_with fail
  refine (C1.out _).mono ?_
  rintro e w2 ⟨rfl, hb⟩
  have A := (A.keep hb).alloc (.cells #[.int .i64 M.l, .int .i64 M.h] 23)
  have B := (B.keep hb).alloc (.cells #[.int .i64 M.l, .int .i64 M.h] 23)
  have X := At2.new w2 (.int .i64 M.l) (.int .i64 M.h) 23
  have HB := Lib.hid (bstep (bstep HB.out hb) (below1 w2 (.cells #[.int .i64 M.l, .int .i64 M.h] 23)))
  clear hb
  clear A0 A1 B0 B1
  obtain ⟨A0, A1, -, -, -⟩ := id A
  obtain ⟨B0, B1, -, -, -⟩ := id B
  obtain ⟨X0, X1, -, -, -⟩ := id X
  go_wp2_with fail
  refine (C2.out _).mono ?_
  rintro e w3 ⟨rfl, hb⟩
  have A := (A.keep hb).alloc (.cells #[.int .i64 S.l, .int .i64 S.h] 23)
  have B := (B.keep hb).alloc (.cells #[.int .i64 S.l, .int .i64 S.h] 23)
  have X := (X.keep hb).alloc (.cells #[.int .i64 S.l, .int .i64 S.h] 23)
  have Y := At2.new w3 (.int .i64 S.l) (.int .i64 S.h) 23
  have HB := Lib.hid (bstep (bstep HB.out hb) (below1 w3 (.cells #[.int .i64 S.l, .int .i64 S.h] 23)))
  clear hb
  clear A0 A1 B0 B1 X0 X1
  obtain ⟨A0, A1, -, -, -⟩ := id A
  obtain ⟨B0, B1, -, -, -⟩ := id B
  obtain ⟨X0, X1, -, -, -⟩ := id X
  obtain ⟨Y0, Y1, -, -, -⟩ := id Y
  go_wp2_with fail
  refine (C3.out _).mono ?_
  rintro e w4 ⟨rfl, hb⟩
  have A := (A.keep hb).alloc (.cells #[.int .i64 Q.l, .int .i64 Q.h] 23)
  have B := (B.keep hb).alloc (.cells #[.int .i64 Q.l, .int .i64 Q.h] 23)
  have X := (X.keep hb).alloc (.cells #[.int .i64 Q.l, .int .i64 Q.h] 23)
  have Y := (Y.keep hb).alloc (.cells #[.int .i64 Q.l, .int .i64 Q.h] 23)
  have Z := At2.new w4 (.int .i64 Q.l) (.int .i64 Q.h) 23
  have HB := Lib.hid (bstep (bstep HB.out hb) (below1 w4 (.cells #[.int .i64 Q.l, .int .i64 Q.h] 23)))
  clear hb
  clear A0 A1 B0 B1 X0 X1 Y0 Y1
  obtain ⟨A0, A1, -, -, -⟩ := id A
  obtain ⟨B0, B1, -, -, -⟩ := id B
  obtain ⟨X0, X1, -, -, -⟩ := id X
  obtain ⟨Y0, Y1, -, -, -⟩ := id Y
  obtain ⟨Z0, Z1, -, -, -⟩ := id Z
  go_wp2_with fail
  refine (V1.out _).mono ?_
  rintro e w5 ⟨rfl, hb⟩
  have A := (A.keep hb)
  have B := (B.keep hb)
  have X := (X.keep hb)
  have Y := (Y.keep hb)
  have Z := (Z.keep hb)
  have HB := Lib.hid (bstep HB.out hb)
  clear hb
  clear A0 A1 B0 B1 X0 X1 Y0 Y1 Z0 Z1
  obtain ⟨A0, A1, -, -, -⟩ := id A
  obtain ⟨B0, B1, -, -, -⟩ := id B
  obtain ⟨X0, X1, -, -, -⟩ := id X
  obtain ⟨Y0, Y1, -, -, -⟩ := id Y
  obtain ⟨Z0, Z1, -, -, -⟩ := id Z
  go_wp2_with fail
  refine (K2.out _).mono ?_
  rintro e w6 ⟨rfl, hb⟩
  have A := (A.keep hb).alloc (.cells #[.int .i64 S.l, .int .i64 S.h] 23)
  have B := (B.keep hb).alloc (.cells #[.int .i64 S.l, .int .i64 S.h] 23)
  have X := (X.keep hb).alloc (.cells #[.int .i64 S.l, .int .i64 S.h] 23)
  have Y := (Y.keep hb).alloc (.cells #[.int .i64 S.l, .int .i64 S.h] 23)
  have Z := (Z.keep hb).alloc (.cells #[.int .i64 S.l, .int .i64 S.h] 23)
  have G := At2.new w6 (.int .i64 S.l) (.int .i64 S.h) 23
  have HB := Lib.hid (bstep (bstep HB.out hb) (below1 w6 (.cells #[.int .i64 S.l, .int .i64 S.h] 23)))
  clear hb
  clear A0 A1 B0 B1 X0 X1 Y0 Y1 Z0 Z1
  obtain ⟨A0, A1, -, -, -⟩ := id A
  obtain ⟨B0, B1, -, -, -⟩ := id B
  obtain ⟨X0, X1, -, -, -⟩ := id X
  obtain ⟨Y0, Y1, -, -, -⟩ := id Y
  obtain ⟨Z0, Z1, -, -, -⟩ := id Z
  obtain ⟨G0, G1, -, -, -⟩ := id G
  go_wp2_with fail
  refine (result_ok _ _ _ _).mono ?_
  rintro e w7 ⟨rfl, hb⟩
  have A := (A.keep hb)
  have B := (B.keep hb)
  have X := (X.keep hb)
  have Y := (Y.keep hb)
  have Z := (Z.keep hb)
  have G := (G.keep hb)
  have HB := Lib.hid (bstep HB.out hb)
  clear hb
  clear A0 A1 B0 B1 X0 X1 Y0 Y1 Z0 Z1 G0 G1
  obtain ⟨A0, A1, -, -, -⟩ := id A
  obtain ⟨B0, B1, -, -, -⟩ := id B
  obtain ⟨X0, X1, -, -, -⟩ := id X
  obtain ⟨Y0, Y1, -, -, -⟩ := id Y
  obtain ⟨Z0, Z1, -, -, -⟩ := id Z
  obtain ⟨G0, G1, -, -, -⟩ := id G
  go_wp2_with fail
  refine (V2.out _).mono ?_
  rintro e w8 ⟨rfl, hb⟩
  have A := (A.keep hb)
  have B := (B.keep hb)
  have X := (X.keep hb)
  have Y := (Y.keep hb)
  have Z := (Z.keep hb)
  have G := (G.keep hb)
  have HB := Lib.hid (bstep HB.out hb)
  clear hb
  clear A0 A1 B0 B1 X0 X1 Y0 Y1 Z0 Z1 G0 G1
  obtain ⟨A0, A1, -, -, -⟩ := id A
  obtain ⟨B0, B1, -, -, -⟩ := id B
  obtain ⟨X0, X1, -, -, -⟩ := id X
  obtain ⟨Y0, Y1, -, -, -⟩ := id Y
  obtain ⟨Z0, Z1, -, -, -⟩ := id Z
  obtain ⟨G0, G1, -, -, -⟩ := id G
  go_wp2_with fail
  refine (K1.out _).mono ?_
  rintro e w9 ⟨rfl, hb⟩
  have A := (A.keep hb).alloc (.cells #[.int .i64 M.l, .int .i64 M.h] 23)
  have B := (B.keep hb).alloc (.cells #[.int .i64 M.l, .int .i64 M.h] 23)
  have X := (X.keep hb).alloc (.cells #[.int .i64 M.l, .int .i64 M.h] 23)
  have Y := (Y.keep hb).alloc (.cells #[.int .i64 M.l, .int .i64 M.h] 23)
  have Z := (Z.keep hb).alloc (.cells #[.int .i64 M.l, .int .i64 M.h] 23)
  have G := (G.keep hb).alloc (.cells #[.int .i64 M.l, .int .i64 M.h] 23)
  have H := At2.new w9 (.int .i64 M.l) (.int .i64 M.h) 23
  have HB := Lib.hid (bstep (bstep HB.out hb) (below1 w9 (.cells #[.int .i64 M.l, .int .i64 M.h] 23)))
  clear hb
  clear A0 A1 B0 B1 X0 X1 Y0 Y1 Z0 Z1 G0 G1
  obtain ⟨A0, A1, -, -, -⟩ := id A
  obtain ⟨B0, B1, -, -, -⟩ := id B
  obtain ⟨X0, X1, -, -, -⟩ := id X
  obtain ⟨Y0, Y1, -, -, -⟩ := id Y
  obtain ⟨Z0, Z1, -, -, -⟩ := id Z
  obtain ⟨G0, G1, -, -, -⟩ := id G
  obtain ⟨H0, H1, -, -, -⟩ := id H
  go_wp2_with fail
  refine (K3.out _).mono ?_
  rintro e w10 ⟨rfl, hb⟩
  have A := (A.keep hb).alloc (.cells #[.int .i64 Q.l, .int .i64 Q.h] 23)
  have B := (B.keep hb).alloc (.cells #[.int .i64 Q.l, .int .i64 Q.h] 23)
  have X := (X.keep hb).alloc (.cells #[.int .i64 Q.l, .int .i64 Q.h] 23)
  have Y := (Y.keep hb).alloc (.cells #[.int .i64 Q.l, .int .i64 Q.h] 23)
  have Z := (Z.keep hb).alloc (.cells #[.int .i64 Q.l, .int .i64 Q.h] 23)
  have G := (G.keep hb).alloc (.cells #[.int .i64 Q.l, .int .i64 Q.h] 23)
  have H := (H.keep hb).alloc (.cells #[.int .i64 Q.l, .int .i64 Q.h] 23)
  have I := At2.new w10 (.int .i64 Q.l) (.int .i64 Q.h) 23
  have HB := Lib.hid (bstep (bstep HB.out hb) (below1 w10 (.cells #[.int .i64 Q.l, .int .i64 Q.h] 23)))
  clear hb
  clear A0 A1 B0 B1 X0 X1 Y0 Y1 Z0 Z1 G0 G1 H0 H1
  obtain ⟨A0, A1, -, -, -⟩ := id A
  obtain ⟨B0, B1, -, -, -⟩ := id B
  obtain ⟨X0, X1, -, -, -⟩ := id X
  obtain ⟨Y0, Y1, -, -, -⟩ := id Y
  obtain ⟨Z0, Z1, -, -, -⟩ := id Z
  obtain ⟨G0, G1, -, -, -⟩ := id G
  obtain ⟨H0, H1, -, -, -⟩ := id H
  obtain ⟨I0, I1, -, -, -⟩ := id I
  go_wp2_with fail
  refine (result_ok _ _ _ _).mono ?_
  rintro e w11 ⟨rfl, hb⟩
  have A := (A.keep hb)
  have B := (B.keep hb)
  have X := (X.keep hb)
  have Y := (Y.keep hb)
  have Z := (Z.keep hb)
  have G := (G.keep hb)
  have H := (H.keep hb)
  have I := (I.keep hb)
  have HB := Lib.hid (bstep HB.out hb)
  clear hb
  clear A0 A1 B0 B1 X0 X1 Y0 Y1 Z0 Z1 G0 G1 H0 H1 I0 I1
  obtain ⟨A0, A1, -, -, -⟩ := id A
  obtain ⟨B0, B1, -, -, -⟩ := id B
  obtain ⟨X0, X1, -, -, -⟩ := id X
  obtain ⟨Y0, Y1, -, -, -⟩ := id Y
  obtain ⟨Z0, Z1, -, -, -⟩ := id Z
  obtain ⟨G0, G1, -, -, -⟩ := id G
  obtain ⟨H0, H1, -, -, -⟩ := id H
  obtain ⟨I0, I1, -, -, -⟩ := id I
  go_wp2_with fail
  refine (result_ok _ _ _ _).mono ?_
  rintro e w12 ⟨rfl, hb⟩
  have A := (A.keep hb)
  have B := (B.keep hb)
  have X := (X.keep hb)
  have Y := (Y.keep hb)
  have Z := (Z.keep hb)
  have G := (G.keep hb)
  have H := (H.keep hb)
  have I := (I.keep hb)
  have HB := Lib.hid (bstep HB.out hb)
  clear hb
  clear A0 A1 B0 B1 X0 X1 Y0 Y1 Z0 Z1 G0 G1 H0 H1 I0 I1
  obtain ⟨A0, A1, -, -, -⟩ := id A
  obtain ⟨B0, B1, -, -, -⟩ := id B
  obtain ⟨X0, X1, -, -, -⟩ := id X
  obtain ⟨Y0, Y1, -, -, -⟩ := id Y
  obtain ⟨Z0, Z1, -, -, -⟩ := id Z
  obtain ⟨G0, G1, -, -, -⟩ := id G
  obtain ⟨H0, H1, -, -, -⟩ := id H
  obtain ⟨I0, I1, -, -, -⟩ := id I
  go_wp2_with fail
  go_ret
  exact ⟨rfl, HB.out⟩

theorem products_walk (P : FxProg) (a b c d : Int) (w : World) :
    Calls Try.prog 5 #[.agg #[.int .i64 a, .int .i64 b], .agg #[.int .i64 c, .int .i64 d]] w fun e w' => e = .returned (.bool true) ∧ Below w.heap.size w w' := by
  cases ha : fok a b
  · exact prod_bad P a b c d w ha
  · cases hc : fok c d
    · exact prod_mid P a b c d w ha hc
    · exact prod_good P a b c d w ha hc
end Go.Proofs.Ytdkigfcglfgpoaa
