/- FixedRoots: the walk of the law. -/
import Derived.Test.YtdkigfcglfgpoaaFxL
namespace Go.Proofs.Ytdkigfcglfgpoaa
open Go.RowKit
set_option linter.unusedVariables false

set_option maxHeartbeats 4000000 in
theorem roots_bad (P : FxProg) (a b : Int) (w : World) (ha : fok a b = false) :
    Calls Try.prog 6 #[.agg #[.int .i64 a, .int .i64 b]] w fun e w' => e = .returned (.bool true) ∧ Below w.heap.size w w' := by
  have CA := Lib.hid (fun wx => awake_any P wx)
  have V1 := Lib.hid (fun wx => rValid_is a b false ha wx)
  have C1 := Lib.hid (fun wx => told 0 0 1 (vF_no _ ha) (P.root a b wx))
  clear ha
  have A := At2.new w (.int .i64 a) (.int .i64 b) 23
  have HB := Lib.hid (bstep (Below.refl w.heap.size w) (below1 w (.cells #[.int .i64 a, .int .i64 b] 23)))
  go_enter Try.func6, Try.ntmps6
  obtain ⟨A0, A1, -, -, -⟩ := id A
  go_wp2_with fail
  refine (CA.out _).mono ?_
  rintro e w1 ⟨rfl, hb⟩
  have A := (A.keep hb)
  have HB := Lib.hid (bstep HB.out hb)
  clear hb
  clear A0 A1
  obtain ⟨A0, A1, -, -, -⟩ := id A
  go_wp2_with fail
  refine (C1.out _).mono ?_
  rintro e w2 ⟨rfl, hb⟩
  have A := (A.keep hb).alloc (.cells #[.int .i64 0, .int .i64 0] 23)
  have X := At2.new w2 (.int .i64 0) (.int .i64 0) 23
  have HB := Lib.hid (bstep (bstep HB.out hb) (below1 w2 (.cells #[.int .i64 0, .int .i64 0] 23)))
  clear hb
  clear A0 A1
  obtain ⟨A0, A1, -, -, -⟩ := id A
  obtain ⟨X0, X1, -, -, -⟩ := id X
  go_wp2_with fail
  refine (V1.out _).mono ?_
  rintro e w3 ⟨rfl, hb⟩
  have A := (A.keep hb)
  have X := (X.keep hb)
  have HB := Lib.hid (bstep HB.out hb)
  clear hb
  clear A0 A1 X0 X1
  obtain ⟨A0, A1, -, -, -⟩ := id A
  obtain ⟨X0, X1, -, -, -⟩ := id X
  go_wp2_with fail
  refine (result_bad _ _ _ _).mono ?_
  rintro e w4 ⟨rfl, hb⟩
  have A := (A.keep hb)
  have X := (X.keep hb)
  have HB := Lib.hid (bstep HB.out hb)
  clear hb
  clear A0 A1 X0 X1
  obtain ⟨A0, A1, -, -, -⟩ := id A
  obtain ⟨X0, X1, -, -, -⟩ := id X
  go_wp2_with fail
  go_ret
  exact ⟨rfl, HB.out⟩

set_option maxHeartbeats 4000000 in
theorem roots_none (P : FxProg) (a b : Int) (w : World) (ha : fok a b = true) (he : (sqrtR a b).e ≠ 0) :
    Calls Try.prog 6 #[.agg #[.int .i64 a, .int .i64 b]] w fun e w' => e = .returned (.bool true) ∧ Below w.heap.size w w' := by
  have CA := Lib.hid (fun wx => awake_any P wx)
  have V1 := Lib.hid (fun wx => rValid_is a b true ha wx)
  obtain ⟨S, hS⟩ : ∃ S, sqrtR a b = S := ⟨_, rfl⟩
  rw [hS] at he
  have C1 := Lib.hid (fun wx => told S.l S.h S.e ((vF_yes _ ha).trans hS) (P.root a b wx))
  have K1 := Lib.hid (fun wx => told S.l S.h S.e hS (rSqrt a b wx ha))
  have t1 : (S.e != 0) = true := by rw [bne_iff_ne]; exact he
  clear ha hS he
  have A := At2.new w (.int .i64 a) (.int .i64 b) 23
  have HB := Lib.hid (bstep (Below.refl w.heap.size w) (below1 w (.cells #[.int .i64 a, .int .i64 b] 23)))
  go_enter Try.func6, Try.ntmps6
  obtain ⟨A0, A1, -, -, -⟩ := id A
  go_wp2_with fail
  refine (CA.out _).mono ?_
  rintro e w1 ⟨rfl, hb⟩
  have A := (A.keep hb)
  have HB := Lib.hid (bstep HB.out hb)
  clear hb
  clear A0 A1
  obtain ⟨A0, A1, -, -, -⟩ := id A
  go_wp2_with fail
  refine (C1.out _).mono ?_
  rintro e w2 ⟨rfl, hb⟩
  have A := (A.keep hb).alloc (.cells #[.int .i64 S.l, .int .i64 S.h] 23)
  have X := At2.new w2 (.int .i64 S.l) (.int .i64 S.h) 23
  have HB := Lib.hid (bstep (bstep HB.out hb) (below1 w2 (.cells #[.int .i64 S.l, .int .i64 S.h] 23)))
  clear hb
  clear A0 A1
  obtain ⟨A0, A1, -, -, -⟩ := id A
  obtain ⟨X0, X1, -, -, -⟩ := id X
  go_wp2_with fail
  refine (V1.out _).mono ?_
  rintro e w3 ⟨rfl, hb⟩
  have A := (A.keep hb)
  have X := (X.keep hb)
  have HB := Lib.hid (bstep HB.out hb)
  clear hb
  clear A0 A1 X0 X1
  obtain ⟨A0, A1, -, -, -⟩ := id A
  obtain ⟨X0, X1, -, -, -⟩ := id X
  go_wp2_with fail
  refine (K1.out _).mono ?_
  rintro e w4 ⟨rfl, hb⟩
  have A := (A.keep hb).alloc (.cells #[.int .i64 S.l, .int .i64 S.h] 23)
  have X := (X.keep hb).alloc (.cells #[.int .i64 S.l, .int .i64 S.h] 23)
  have Y := At2.new w4 (.int .i64 S.l) (.int .i64 S.h) 23
  have HB := Lib.hid (bstep (bstep HB.out hb) (below1 w4 (.cells #[.int .i64 S.l, .int .i64 S.h] 23)))
  clear hb
  clear A0 A1 X0 X1
  obtain ⟨A0, A1, -, -, -⟩ := id A
  obtain ⟨X0, X1, -, -, -⟩ := id X
  obtain ⟨Y0, Y1, -, -, -⟩ := id Y
  go_wp2_with fail
  refine (result_ok _ _ _ _).mono ?_
  rintro e w5 ⟨rfl, hb⟩
  have A := (A.keep hb)
  have X := (X.keep hb)
  have Y := (Y.keep hb)
  have HB := Lib.hid (bstep HB.out hb)
  clear hb
  clear A0 A1 X0 X1 Y0 Y1
  obtain ⟨A0, A1, -, -, -⟩ := id A
  obtain ⟨X0, X1, -, -, -⟩ := id X
  obtain ⟨Y0, Y1, -, -, -⟩ := id Y
  go_wp2_with fail
  go_ret
  exact ⟨rfl, HB.out⟩

set_option maxHeartbeats 4000000 in
theorem roots_nz (P : FxProg) (a b : Int) (w : World) (ha : fok a b = true) (he : (sqrtR a b).e = 0) (hn : a < 0) (hz : (sqrtR a b).h = 0) :
    Calls Try.prog 6 #[.agg #[.int .i64 a, .int .i64 b]] w fun e w' => e = .returned (.bool true) ∧ Below w.heap.size w w' := by
  have CA := Lib.hid (fun wx => awake_any P wx)
  have V1 := Lib.hid (fun wx => rValid_is a b true ha wx)
  obtain ⟨hk, hl0⟩ := sqrt_ok ha he
  obtain ⟨e1, e2, e3, e4⟩ := sqrt_near ha he
  obtain ⟨l, hl⟩ : ∃ l, (sqrtR a b).l = l := ⟨_, rfl⟩
  obtain ⟨h, hh⟩ : ∃ h, (sqrtR a b).h = h := ⟨_, rfl⟩
  have hS : sqrtR a b = ⟨l, h, 0⟩ := by rw [← hl, ← hh, ← he]
  rw [hl] at e1 e2 hl0 hk
  rw [hh] at e3 e4 hk hz
  have pa := (fok_iff _ _).1 ha
  have pk := (fok_iff _ _).1 hk
  rw [show max a 0 * 1073741824 = 0 by omega] at e1 e2
  have l0 : l = 0 := by
    by_cases hx : l = 0
    · exact hx
    · have := sq_le (a := 1) (b := l) (by omega) (by omega); omega
  subst l0
  have C1 := Lib.hid (fun wx => told 0 h 0 ((vF_yes _ ha).trans hS) (P.root a b wx))
  have K1 := Lib.hid (fun wx => told 0 h 0 hS (rSqrt a b wx ha))
  have b3 := mul_abs (a := h) (b := h) (A := 2147483648) (B := 2147483648) (by omega) (by omega) (by omega) (by omega)
  have b4 := mul_abs (a := h - 1) (b := h - 1) (A := 2147483648) (B := 2147483648) (by omega) (by omega) (by omega) (by omega)
  obtain ⟨q3, hq3⟩ : ∃ q, h * h = q := ⟨_, rfl⟩
  obtain ⟨q4, hq4⟩ : ∃ q, (h - 1) * (h - 1) = q := ⟨_, rfl⟩
  rw [hq3] at b3 e3
  rw [hq4] at b4 e4
  have w3 := w64_is hq3 (by omega) (by omega)
  have w4 := w64_is hq4 (by omega) (by omega)
  have t3 : decide (b * 1073741824 ≤ q3) = true := decide_eq_true e3
  have t4 : (h == 0) = true := by rw [beq_iff_eq]; exact hz
  obtain ⟨p1, p2, p3⟩ := pa
  obtain ⟨k1, k2, k3⟩ := pk
  clear hz e4 ha he hk hl hh hS hq3 hq4 b3 b4
  have A := At2.new w (.int .i64 a) (.int .i64 b) 23
  have HB := Lib.hid (bstep (Below.refl w.heap.size w) (below1 w (.cells #[.int .i64 a, .int .i64 b] 23)))
  go_enter Try.func6, Try.ntmps6
  obtain ⟨A0, A1, -, -, -⟩ := id A
  go_wp2_with fail
  refine (CA.out _).mono ?_
  rintro e w1 ⟨rfl, hb⟩
  have A := (A.keep hb)
  have HB := Lib.hid (bstep HB.out hb)
  clear hb
  clear A0 A1
  obtain ⟨A0, A1, -, -, -⟩ := id A
  go_wp2_with fail
  refine (C1.out _).mono ?_
  rintro e w2 ⟨rfl, hb⟩
  have A := (A.keep hb).alloc (.cells #[.int .i64 0, .int .i64 h] 23)
  have X := At2.new w2 (.int .i64 0) (.int .i64 h) 23
  have HB := Lib.hid (bstep (bstep HB.out hb) (below1 w2 (.cells #[.int .i64 0, .int .i64 h] 23)))
  clear hb
  clear A0 A1
  obtain ⟨A0, A1, -, -, -⟩ := id A
  obtain ⟨X0, X1, -, -, -⟩ := id X
  go_wp2_with fail
  refine (V1.out _).mono ?_
  rintro e w3 ⟨rfl, hb⟩
  have A := (A.keep hb)
  have X := (X.keep hb)
  have HB := Lib.hid (bstep HB.out hb)
  clear hb
  clear A0 A1 X0 X1
  obtain ⟨A0, A1, -, -, -⟩ := id A
  obtain ⟨X0, X1, -, -, -⟩ := id X
  go_wp2_with fail
  refine (K1.out _).mono ?_
  rintro e w4 ⟨rfl, hb⟩
  have A := (A.keep hb).alloc (.cells #[.int .i64 0, .int .i64 h] 23)
  have X := (X.keep hb).alloc (.cells #[.int .i64 0, .int .i64 h] 23)
  have Y := At2.new w4 (.int .i64 0) (.int .i64 h) 23
  have HB := Lib.hid (bstep (bstep HB.out hb) (below1 w4 (.cells #[.int .i64 0, .int .i64 h] 23)))
  clear hb
  clear A0 A1 X0 X1
  obtain ⟨A0, A1, -, -, -⟩ := id A
  obtain ⟨X0, X1, -, -, -⟩ := id X
  obtain ⟨Y0, Y1, -, -, -⟩ := id Y
  go_wp2_with fail
  refine (result_ok _ _ _ _).mono ?_
  rintro e w5 ⟨rfl, hb⟩
  have A := (A.keep hb)
  have X := (X.keep hb)
  have Y := (Y.keep hb)
  have HB := Lib.hid (bstep HB.out hb)
  clear hb
  clear A0 A1 X0 X1 Y0 Y1
  obtain ⟨A0, A1, -, -, -⟩ := id A
  obtain ⟨X0, X1, -, -, -⟩ := id X
  obtain ⟨Y0, Y1, -, -, -⟩ := id Y
  go_wp2_with fail
  go_region
  all_goals
    go_wp2_with fail
    go_ret
    exact ⟨rfl, HB.out.drew⟩

set_option maxHeartbeats 4000000 in
theorem roots_nm (P : FxProg) (a b : Int) (w : World) (ha : fok a b = true) (he : (sqrtR a b).e = 0) (hn : a < 0) (hz : (sqrtR a b).h ≠ 0) :
    Calls Try.prog 6 #[.agg #[.int .i64 a, .int .i64 b]] w fun e w' => e = .returned (.bool true) ∧ Below w.heap.size w w' := by
  have CA := Lib.hid (fun wx => awake_any P wx)
  have V1 := Lib.hid (fun wx => rValid_is a b true ha wx)
  obtain ⟨hk, hl0⟩ := sqrt_ok ha he
  obtain ⟨e1, e2, e3, e4⟩ := sqrt_near ha he
  obtain ⟨l, hl⟩ : ∃ l, (sqrtR a b).l = l := ⟨_, rfl⟩
  obtain ⟨h, hh⟩ : ∃ h, (sqrtR a b).h = h := ⟨_, rfl⟩
  have hS : sqrtR a b = ⟨l, h, 0⟩ := by rw [← hl, ← hh, ← he]
  rw [hl] at e1 e2 hl0 hk
  rw [hh] at e3 e4 hk hz
  have pa := (fok_iff _ _).1 ha
  have pk := (fok_iff _ _).1 hk
  rw [show max a 0 * 1073741824 = 0 by omega] at e1 e2
  have l0 : l = 0 := by
    by_cases hx : l = 0
    · exact hx
    · have := sq_le (a := 1) (b := l) (by omega) (by omega); omega
  subst l0
  have C1 := Lib.hid (fun wx => told 0 h 0 ((vF_yes _ ha).trans hS) (P.root a b wx))
  have K1 := Lib.hid (fun wx => told 0 h 0 hS (rSqrt a b wx ha))
  have b3 := mul_abs (a := h) (b := h) (A := 2147483648) (B := 2147483648) (by omega) (by omega) (by omega) (by omega)
  have b4 := mul_abs (a := h - 1) (b := h - 1) (A := 2147483648) (B := 2147483648) (by omega) (by omega) (by omega) (by omega)
  obtain ⟨q3, hq3⟩ : ∃ q, h * h = q := ⟨_, rfl⟩
  obtain ⟨q4, hq4⟩ : ∃ q, (h - 1) * (h - 1) = q := ⟨_, rfl⟩
  rw [hq3] at b3 e3
  rw [hq4] at b4 e4
  have w3 := w64_is hq3 (by omega) (by omega)
  have w4 := w64_is hq4 (by omega) (by omega)
  have t3 : decide (b * 1073741824 ≤ q3) = true := decide_eq_true e3
  have t4 : (h == 0) = false := by rw [beq_eq_false_iff_ne]; exact hz
  have t5 : decide (q4 < b * 1073741824) = true := decide_eq_true (by omega)
  obtain ⟨p1, p2, p3⟩ := pa
  obtain ⟨k1, k2, k3⟩ := pk
  clear hz e4 ha he hk hl hh hS hq3 hq4 b3 b4
  have A := At2.new w (.int .i64 a) (.int .i64 b) 23
  have HB := Lib.hid (bstep (Below.refl w.heap.size w) (below1 w (.cells #[.int .i64 a, .int .i64 b] 23)))
  go_enter Try.func6, Try.ntmps6
  obtain ⟨A0, A1, -, -, -⟩ := id A
  go_wp2_with fail
  refine (CA.out _).mono ?_
  rintro e w1 ⟨rfl, hb⟩
  have A := (A.keep hb)
  have HB := Lib.hid (bstep HB.out hb)
  clear hb
  clear A0 A1
  obtain ⟨A0, A1, -, -, -⟩ := id A
  go_wp2_with fail
  refine (C1.out _).mono ?_
  rintro e w2 ⟨rfl, hb⟩
  have A := (A.keep hb).alloc (.cells #[.int .i64 0, .int .i64 h] 23)
  have X := At2.new w2 (.int .i64 0) (.int .i64 h) 23
  have HB := Lib.hid (bstep (bstep HB.out hb) (below1 w2 (.cells #[.int .i64 0, .int .i64 h] 23)))
  clear hb
  clear A0 A1
  obtain ⟨A0, A1, -, -, -⟩ := id A
  obtain ⟨X0, X1, -, -, -⟩ := id X
  go_wp2_with fail
  refine (V1.out _).mono ?_
  rintro e w3 ⟨rfl, hb⟩
  have A := (A.keep hb)
  have X := (X.keep hb)
  have HB := Lib.hid (bstep HB.out hb)
  clear hb
  clear A0 A1 X0 X1
  obtain ⟨A0, A1, -, -, -⟩ := id A
  obtain ⟨X0, X1, -, -, -⟩ := id X
  go_wp2_with fail
  refine (K1.out _).mono ?_
  rintro e w4 ⟨rfl, hb⟩
  have A := (A.keep hb).alloc (.cells #[.int .i64 0, .int .i64 h] 23)
  have X := (X.keep hb).alloc (.cells #[.int .i64 0, .int .i64 h] 23)
  have Y := At2.new w4 (.int .i64 0) (.int .i64 h) 23
  have HB := Lib.hid (bstep (bstep HB.out hb) (below1 w4 (.cells #[.int .i64 0, .int .i64 h] 23)))
  clear hb
  clear A0 A1 X0 X1
  obtain ⟨A0, A1, -, -, -⟩ := id A
  obtain ⟨X0, X1, -, -, -⟩ := id X
  obtain ⟨Y0, Y1, -, -, -⟩ := id Y
  go_wp2_with fail
  refine (result_ok _ _ _ _).mono ?_
  rintro e w5 ⟨rfl, hb⟩
  have A := (A.keep hb)
  have X := (X.keep hb)
  have Y := (Y.keep hb)
  have HB := Lib.hid (bstep HB.out hb)
  clear hb
  clear A0 A1 X0 X1 Y0 Y1
  obtain ⟨A0, A1, -, -, -⟩ := id A
  obtain ⟨X0, X1, -, -, -⟩ := id X
  obtain ⟨Y0, Y1, -, -, -⟩ := id Y
  go_wp2_with fail
  go_region
  all_goals
    go_wp2_with fail
    go_ret
    exact ⟨rfl, HB.out.drew⟩

set_option maxHeartbeats 4000000 in
theorem roots_pz (P : FxProg) (a b : Int) (w : World) (ha : fok a b = true) (he : (sqrtR a b).e = 0) (hn : ¬ a < 0) (hz : (sqrtR a b).h = 0) :
    Calls Try.prog 6 #[.agg #[.int .i64 a, .int .i64 b]] w fun e w' => e = .returned (.bool true) ∧ Below w.heap.size w w' := by
  have CA := Lib.hid (fun wx => awake_any P wx)
  have V1 := Lib.hid (fun wx => rValid_is a b true ha wx)
  obtain ⟨hk, hl0⟩ := sqrt_ok ha he
  obtain ⟨e1, e2, e3, e4⟩ := sqrt_near ha he
  obtain ⟨l, hl⟩ : ∃ l, (sqrtR a b).l = l := ⟨_, rfl⟩
  obtain ⟨h, hh⟩ : ∃ h, (sqrtR a b).h = h := ⟨_, rfl⟩
  have hS : sqrtR a b = ⟨l, h, 0⟩ := by rw [← hl, ← hh, ← he]
  rw [hl] at e1 e2 hl0 hk
  rw [hh] at e3 e4 hk hz
  have pa := (fok_iff _ _).1 ha
  have pk := (fok_iff _ _).1 hk
  rw [show max a 0 = a by omega] at e1 e2
  have C1 := Lib.hid (fun wx => told l h 0 ((vF_yes _ ha).trans hS) (P.root a b wx))
  have K1 := Lib.hid (fun wx => told l h 0 hS (rSqrt a b wx ha))
  have b3 := mul_abs (a := h) (b := h) (A := 2147483648) (B := 2147483648) (by omega) (by omega) (by omega) (by omega)
  have b4 := mul_abs (a := h - 1) (b := h - 1) (A := 2147483648) (B := 2147483648) (by omega) (by omega) (by omega) (by omega)
  obtain ⟨q3, hq3⟩ : ∃ q, h * h = q := ⟨_, rfl⟩
  obtain ⟨q4, hq4⟩ : ∃ q, (h - 1) * (h - 1) = q := ⟨_, rfl⟩
  rw [hq3] at b3 e3
  rw [hq4] at b4 e4
  have w3 := w64_is hq3 (by omega) (by omega)
  have w4 := w64_is hq4 (by omega) (by omega)
  have b1 := mul_abs (a := l) (b := l) (A := 2147483648) (B := 2147483648) (by omega) (by omega) (by omega) (by omega)
  have b2 := mul_abs (a := l + 1) (b := l + 1) (A := 2147483649) (B := 2147483649) (by omega) (by omega) (by omega) (by omega)
  obtain ⟨q1, hq1⟩ : ∃ q, l * l = q := ⟨_, rfl⟩
  obtain ⟨q2, hq2⟩ : ∃ q, (l + 1) * (l + 1) = q := ⟨_, rfl⟩
  rw [hq1] at b1 e1
  rw [hq2] at b2 e2
  have w1 := w64_is hq1 (by omega) (by omega)
  have w2 := w64_is hq2 (by omega) (by omega)
  have t1 : decide (q1 ≤ a * 1073741824) = true := decide_eq_true e1
  have t2 : decide (a * 1073741824 < q2) = true := decide_eq_true e2
  clear hq1 hq2 b1 b2
  have t3 : decide (b * 1073741824 ≤ q3) = true := decide_eq_true e3
  have t4 : (h == 0) = true := by rw [beq_iff_eq]; exact hz
  obtain ⟨p1, p2, p3⟩ := pa
  obtain ⟨k1, k2, k3⟩ := pk
  clear hz e4 ha he hk hl hh hS hq3 hq4 b3 b4
  have A := At2.new w (.int .i64 a) (.int .i64 b) 23
  have HB := Lib.hid (bstep (Below.refl w.heap.size w) (below1 w (.cells #[.int .i64 a, .int .i64 b] 23)))
  go_enter Try.func6, Try.ntmps6
  obtain ⟨A0, A1, -, -, -⟩ := id A
  go_wp2_with fail
  refine (CA.out _).mono ?_
  rintro e w1 ⟨rfl, hb⟩
  have A := (A.keep hb)
  have HB := Lib.hid (bstep HB.out hb)
  clear hb
  clear A0 A1
  obtain ⟨A0, A1, -, -, -⟩ := id A
  go_wp2_with fail
  refine (C1.out _).mono ?_
  rintro e w2 ⟨rfl, hb⟩
  have A := (A.keep hb).alloc (.cells #[.int .i64 l, .int .i64 h] 23)
  have X := At2.new w2 (.int .i64 l) (.int .i64 h) 23
  have HB := Lib.hid (bstep (bstep HB.out hb) (below1 w2 (.cells #[.int .i64 l, .int .i64 h] 23)))
  clear hb
  clear A0 A1
  obtain ⟨A0, A1, -, -, -⟩ := id A
  obtain ⟨X0, X1, -, -, -⟩ := id X
  go_wp2_with fail
  refine (V1.out _).mono ?_
  rintro e w3 ⟨rfl, hb⟩
  have A := (A.keep hb)
  have X := (X.keep hb)
  have HB := Lib.hid (bstep HB.out hb)
  clear hb
  clear A0 A1 X0 X1
  obtain ⟨A0, A1, -, -, -⟩ := id A
  obtain ⟨X0, X1, -, -, -⟩ := id X
  go_wp2_with fail
  refine (K1.out _).mono ?_
  rintro e w4 ⟨rfl, hb⟩
  have A := (A.keep hb).alloc (.cells #[.int .i64 l, .int .i64 h] 23)
  have X := (X.keep hb).alloc (.cells #[.int .i64 l, .int .i64 h] 23)
  have Y := At2.new w4 (.int .i64 l) (.int .i64 h) 23
  have HB := Lib.hid (bstep (bstep HB.out hb) (below1 w4 (.cells #[.int .i64 l, .int .i64 h] 23)))
  clear hb
  clear A0 A1 X0 X1
  obtain ⟨A0, A1, -, -, -⟩ := id A
  obtain ⟨X0, X1, -, -, -⟩ := id X
  obtain ⟨Y0, Y1, -, -, -⟩ := id Y
  go_wp2_with fail
  refine (result_ok _ _ _ _).mono ?_
  rintro e w5 ⟨rfl, hb⟩
  have A := (A.keep hb)
  have X := (X.keep hb)
  have Y := (Y.keep hb)
  have HB := Lib.hid (bstep HB.out hb)
  clear hb
  clear A0 A1 X0 X1 Y0 Y1
  obtain ⟨A0, A1, -, -, -⟩ := id A
  obtain ⟨X0, X1, -, -, -⟩ := id X
  obtain ⟨Y0, Y1, -, -, -⟩ := id Y
  go_wp2_with fail
  go_region
  all_goals
    go_wp2_with fail
    go_ret
    exact ⟨rfl, HB.out.drew⟩

set_option maxHeartbeats 4000000 in
theorem roots_pm (P : FxProg) (a b : Int) (w : World) (ha : fok a b = true) (he : (sqrtR a b).e = 0) (hn : ¬ a < 0) (hz : (sqrtR a b).h ≠ 0) :
    Calls Try.prog 6 #[.agg #[.int .i64 a, .int .i64 b]] w fun e w' => e = .returned (.bool true) ∧ Below w.heap.size w w' := by
  have CA := Lib.hid (fun wx => awake_any P wx)
  have V1 := Lib.hid (fun wx => rValid_is a b true ha wx)
  obtain ⟨hk, hl0⟩ := sqrt_ok ha he
  obtain ⟨e1, e2, e3, e4⟩ := sqrt_near ha he
  obtain ⟨l, hl⟩ : ∃ l, (sqrtR a b).l = l := ⟨_, rfl⟩
  obtain ⟨h, hh⟩ : ∃ h, (sqrtR a b).h = h := ⟨_, rfl⟩
  have hS : sqrtR a b = ⟨l, h, 0⟩ := by rw [← hl, ← hh, ← he]
  rw [hl] at e1 e2 hl0 hk
  rw [hh] at e3 e4 hk hz
  have pa := (fok_iff _ _).1 ha
  have pk := (fok_iff _ _).1 hk
  rw [show max a 0 = a by omega] at e1 e2
  have C1 := Lib.hid (fun wx => told l h 0 ((vF_yes _ ha).trans hS) (P.root a b wx))
  have K1 := Lib.hid (fun wx => told l h 0 hS (rSqrt a b wx ha))
  have b3 := mul_abs (a := h) (b := h) (A := 2147483648) (B := 2147483648) (by omega) (by omega) (by omega) (by omega)
  have b4 := mul_abs (a := h - 1) (b := h - 1) (A := 2147483648) (B := 2147483648) (by omega) (by omega) (by omega) (by omega)
  obtain ⟨q3, hq3⟩ : ∃ q, h * h = q := ⟨_, rfl⟩
  obtain ⟨q4, hq4⟩ : ∃ q, (h - 1) * (h - 1) = q := ⟨_, rfl⟩
  rw [hq3] at b3 e3
  rw [hq4] at b4 e4
  have w3 := w64_is hq3 (by omega) (by omega)
  have w4 := w64_is hq4 (by omega) (by omega)
  have b1 := mul_abs (a := l) (b := l) (A := 2147483648) (B := 2147483648) (by omega) (by omega) (by omega) (by omega)
  have b2 := mul_abs (a := l + 1) (b := l + 1) (A := 2147483649) (B := 2147483649) (by omega) (by omega) (by omega) (by omega)
  obtain ⟨q1, hq1⟩ : ∃ q, l * l = q := ⟨_, rfl⟩
  obtain ⟨q2, hq2⟩ : ∃ q, (l + 1) * (l + 1) = q := ⟨_, rfl⟩
  rw [hq1] at b1 e1
  rw [hq2] at b2 e2
  have w1 := w64_is hq1 (by omega) (by omega)
  have w2 := w64_is hq2 (by omega) (by omega)
  have t1 : decide (q1 ≤ a * 1073741824) = true := decide_eq_true e1
  have t2 : decide (a * 1073741824 < q2) = true := decide_eq_true e2
  clear hq1 hq2 b1 b2
  have t3 : decide (b * 1073741824 ≤ q3) = true := decide_eq_true e3
  have t4 : (h == 0) = false := by rw [beq_eq_false_iff_ne]; exact hz
  have t5 : decide (q4 < b * 1073741824) = true := decide_eq_true (by omega)
  obtain ⟨p1, p2, p3⟩ := pa
  obtain ⟨k1, k2, k3⟩ := pk
  clear hz e4 ha he hk hl hh hS hq3 hq4 b3 b4
  have A := At2.new w (.int .i64 a) (.int .i64 b) 23
  have HB := Lib.hid (bstep (Below.refl w.heap.size w) (below1 w (.cells #[.int .i64 a, .int .i64 b] 23)))
  go_enter Try.func6, Try.ntmps6
  obtain ⟨A0, A1, -, -, -⟩ := id A
  go_wp2_with fail
  refine (CA.out _).mono ?_
  rintro e w1 ⟨rfl, hb⟩
  have A := (A.keep hb)
  have HB := Lib.hid (bstep HB.out hb)
  clear hb
  clear A0 A1
  obtain ⟨A0, A1, -, -, -⟩ := id A
  go_wp2_with fail
  refine (C1.out _).mono ?_
  rintro e w2 ⟨rfl, hb⟩
  have A := (A.keep hb).alloc (.cells #[.int .i64 l, .int .i64 h] 23)
  have X := At2.new w2 (.int .i64 l) (.int .i64 h) 23
  have HB := Lib.hid (bstep (bstep HB.out hb) (below1 w2 (.cells #[.int .i64 l, .int .i64 h] 23)))
  clear hb
  clear A0 A1
  obtain ⟨A0, A1, -, -, -⟩ := id A
  obtain ⟨X0, X1, -, -, -⟩ := id X
  go_wp2_with fail
  refine (V1.out _).mono ?_
  rintro e w3 ⟨rfl, hb⟩
  have A := (A.keep hb)
  have X := (X.keep hb)
  have HB := Lib.hid (bstep HB.out hb)
  clear hb
  clear A0 A1 X0 X1
  obtain ⟨A0, A1, -, -, -⟩ := id A
  obtain ⟨X0, X1, -, -, -⟩ := id X
  go_wp2_with fail
  refine (K1.out _).mono ?_
  rintro e w4 ⟨rfl, hb⟩
  have A := (A.keep hb).alloc (.cells #[.int .i64 l, .int .i64 h] 23)
  have X := (X.keep hb).alloc (.cells #[.int .i64 l, .int .i64 h] 23)
  have Y := At2.new w4 (.int .i64 l) (.int .i64 h) 23
  have HB := Lib.hid (bstep (bstep HB.out hb) (below1 w4 (.cells #[.int .i64 l, .int .i64 h] 23)))
  clear hb
  clear A0 A1 X0 X1
  obtain ⟨A0, A1, -, -, -⟩ := id A
  obtain ⟨X0, X1, -, -, -⟩ := id X
  obtain ⟨Y0, Y1, -, -, -⟩ := id Y
  go_wp2_with fail
  refine (result_ok _ _ _ _).mono ?_
  rintro e w5 ⟨rfl, hb⟩
  have A := (A.keep hb)
  have X := (X.keep hb)
  have Y := (Y.keep hb)
  have HB := Lib.hid (bstep HB.out hb)
  clear hb
  clear A0 A1 X0 X1 Y0 Y1
  obtain ⟨A0, A1, -, -, -⟩ := id A
  obtain ⟨X0, X1, -, -, -⟩ := id X
  obtain ⟨Y0, Y1, -, -, -⟩ := id Y
  go_wp2_with fail
  go_region
  all_goals
    go_wp2_with fail
    go_ret
    exact ⟨rfl, HB.out.drew⟩

theorem roots_walk (P : FxProg) (a b : Int) (w : World) :
    Calls Try.prog 6 #[.agg #[.int .i64 a, .int .i64 b]] w fun e w' => e = .returned (.bool true) ∧ Below w.heap.size w w' := by
  cases ha : fok a b
  · exact roots_bad P a b w ha
  · by_cases he : (sqrtR a b).e = 0
    · by_cases hz : (sqrtR a b).h = 0
      · by_cases hn : a < 0
        · exact roots_nz P a b w ha he hn hz
        · exact roots_pz P a b w ha he hn hz
      · by_cases hn : a < 0
        · exact roots_nm P a b w ha he hn hz
        · exact roots_pm P a b w ha he hn hz
    · exact roots_none P a b w ha he
end Go.Proofs.Ytdkigfcglfgpoaa
