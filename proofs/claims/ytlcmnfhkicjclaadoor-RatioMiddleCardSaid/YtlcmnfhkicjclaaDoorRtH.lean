/- Contracts of the reference's Add, Mul, Div. -/
import Derived.Test.YtlcmnfhkicjclaaDoorRtI
namespace Go.Proofs.YtlcmnfhkicjclaaDoor
open Go.RowKit
set_option linter.unusedVariables false

set_option maxRecDepth 100000 in
set_option maxHeartbeats 1000000 in
theorem rAdd (a b : Rat) (w : World) (ha : rfit a = true) (hb : rfit b = true) :
    Calls Tryd.prog 21 #[.agg #[.int .i64 a.num, .int .i64 (a.den : Int)], .agg #[.int .i64 b.num, .int .i64 (b.den : Int)]] w fun e w' => e = .returned (.tuple #[.agg #[.int .i64 (rN (a + b)), .int .i64 (rD (a + b))], .int .i64 (rE (a + b))]) ∧ Below w.heap.size w w' := by
  have C1 := Lib.hid (fun wx => rvalid_is a.num (a.den : Int) true (rok_of ha) wx)
  have C2 := Lib.hid (fun wx => rvalid_is b.num (b.den : Int) true (rok_of hb) wx)
  have fa := (rfit_iff a).1 ha
  have fb := (rfit_iff b).1 hb
  have da := rden_pos a
  have db := rden_pos b
  have m1 := mul_bd a.num (b.den : Int) 1073741824 1073741824 (by omega) (by omega) (by omega) (by omega)
  have m2 := mul_bd b.num (a.den : Int) 1073741824 1073741824 (by omega) (by omega) (by omega) (by omega)
  have m3 := mul_bd (a.den : Int) (b.den : Int) 1073741824 1073741824 (by omega) (by omega) (by omega) (by omega)
  have m4 := mul_bd a.num b.num 1073741824 1073741824 (by omega) (by omega) (by omega) (by omega)
  have m5 := mul_bd (a.den : Int) b.num 1073741824 1073741824 (by omega) (by omega) (by omega) (by omega)
  have nz : (a.den : Int) * (b.den : Int) ≠ 0 := by exact Int.mul_ne_zero (den_ne a) (den_ne b)
  have CM := Lib.hid (fun wx => rMake_any (a.num * (b.den : Int) + b.num * (a.den : Int)) ((a.den : Int) * (b.den : Int)) wx nz (by omega) (by omega) (by omega) (by omega))
  rw [add_parts] at CM
  obtain ⟨x, hx⟩ : ∃ x, x = rN (a + b) := ⟨_, rfl⟩
  obtain ⟨y, hy⟩ : ∃ y, y = rD (a + b) := ⟨_, rfl⟩
  obtain ⟨z, hz9⟩ : ∃ z, z = rE (a + b) := ⟨_, rfl⟩
  rw [← hx, ← hy, ← hz9] at CM ⊢
  obtain ⟨an, han⟩ : ∃ t, t = a.num := ⟨_, rfl⟩
  obtain ⟨ad, had⟩ : ∃ t, t = (a.den : Int) := ⟨_, rfl⟩
  obtain ⟨bn, hbn⟩ : ∃ t, t = b.num := ⟨_, rfl⟩
  obtain ⟨bd, hbd⟩ : ∃ t, t = (b.den : Int) := ⟨_, rfl⟩
  rw [← han, ← had] at C1 fa
  rw [← hbn, ← hbd] at C2 fb
  simp only [← han, ← had, ← hbn, ← hbd] at CM m1 m2 m3 m4 m5 ⊢
  obtain ⟨m11, m12⟩ := m1
  obtain ⟨m21, m22⟩ := m2
  obtain ⟨m31, m32⟩ := m3
  obtain ⟨m41, m42⟩ := m4
  obtain ⟨m51, m52⟩ := m5
  simp only [Int.reduceMul] at m11 m12 m21 m22 m31 m32 m41 m42 m51 m52
  clear ha hb da db nz hx hy hz9 han had hbn hbd fa fb
  go_enter Tryd.func21, Tryd.ntmps21
  go_wp2_with fail
  refine (C1.out _).mono ?_
  rintro e w1 ⟨rfl, hb1⟩
  obtain ⟨A0, B0, R0⟩ := At2.three w (.int .i64 an) (.int .i64 ad) (.int .i64 bn) (.int .i64 bd) (.int .i64 0) (.int .i64 0) 24 24 24
  have A1 := A0.keep hb1
  have B1 := B0.keep hb1
  have R1 := R0.keep hb1
  have HB := Lib.hid (bstep (below3 w _ _ _) hb1)
  clear hb1 A0 B0 R0
  obtain ⟨p0, p1, _, _, _⟩ := id B1
  go_wp2_with fail
  refine (C2.out _).mono ?_
  rintro e w2 ⟨rfl, hb2⟩
  clear p0 p1
  have A2 := A1.keep hb2
  have B2 := B1.keep hb2
  have R2 := R1.keep hb2
  have HB2 := Lib.hid (bstep HB.out hb2)
  clear hb2 A1 B1 R1 HB
  obtain ⟨p0, p1, _, _, _⟩ := id A2
  obtain ⟨q0, q1, _, _, _⟩ := id B2
  go_wp2_with fail
  refine (CM.out _).mono ?_
  rintro e w3 ⟨rfl, hb3⟩
  clear p0 p1 q0 q1
  have R3 := R2.keep hb3
  have HB3 := Lib.hid (bstep HB2.out hb3)
  clear hb3 R2 HB2
  obtain ⟨c0, c1, f0, f1, hz⟩ := R3
  obtain ⟨s0, s1⟩ := set2 c0 c1 (.int .i64 x) (.int .i64 y)
  go_wp2_with fail
  refine bodyPost_ret (v := .tuple #[.agg #[.int .i64 x, .int .i64 y], .int .i64 z]) (by simp [results, Tryd.results21, go_sem, s0, s1]) rfl ⟨rfl, ?_⟩
  exact below_set2 HB3.out (by omega) _ _

theorem rAdd_b1 (n d n' d' : Int) (w : World) (hk : rok n d = false) :
    Calls Tryd.prog 21 #[.agg #[.int .i64 n, .int .i64 d], .agg #[.int .i64 n', .int .i64 d']] w fun e w' => e = .returned (.tuple #[.agg #[.int .i64 0, .int .i64 0], .int .i64 1]) ∧ Below w.heap.size w w' := by
  have C1 := Lib.hid (fun wx => rvalid_is n d false hk wx)
  clear hk
  go_enter Tryd.func21, Tryd.ntmps21
  go_wp2_with fail
  refine (C1.out _).mono ?_
  rintro e w1 ⟨rfl, hb1⟩
  obtain ⟨-, -, R0⟩ := At2.three w (.int .i64 n) (.int .i64 d) (.int .i64 n') (.int .i64 d') (.int .i64 0) (.int .i64 0) 24 24 24
  obtain ⟨c0, c1, f0, f1, hz⟩ := R0.keep hb1
  obtain ⟨s0, s1⟩ := set2 c0 c1 (.int .i64 0) (.int .i64 0)
  have HB := Lib.hid (bstep (below3 w _ _ _) hb1)
  clear hb1 R0
  go_wp2_with fail
  refine bodyPost_ret (v := .tuple #[.agg #[.int .i64 0, .int .i64 0], .int .i64 1]) (by simp [results, Tryd.results21, go_sem, s0, s1]) rfl ⟨rfl, ?_⟩
  exact below_set2 HB.out (by omega) _ _
theorem rAdd_b2 (n d n' d' : Int) (w : World) (hk : rok n d = true) (hk' : rok n' d' = false) :
    Calls Tryd.prog 21 #[.agg #[.int .i64 n, .int .i64 d], .agg #[.int .i64 n', .int .i64 d']] w fun e w' => e = .returned (.tuple #[.agg #[.int .i64 0, .int .i64 0], .int .i64 1]) ∧ Below w.heap.size w w' := by
  have C1 := Lib.hid (fun wx => rvalid_is n d true hk wx)
  have C2 := Lib.hid (fun wx => rvalid_is n' d' false hk' wx)
  clear hk hk'
  go_enter Tryd.func21, Tryd.ntmps21
  go_wp2_with fail
  refine (C1.out _).mono ?_
  rintro e w1 ⟨rfl, hb1⟩
  obtain ⟨-, B0, R0⟩ := At2.three w (.int .i64 n) (.int .i64 d) (.int .i64 n') (.int .i64 d') (.int .i64 0) (.int .i64 0) 24 24 24
  obtain ⟨p0, p1, _, _, _⟩ := B0.keep hb1
  have R1 := R0.keep hb1
  have HB := Lib.hid (bstep (below3 w _ _ _) hb1)
  clear hb1 R0 B0
  go_wp2_with fail
  refine (C2.out _).mono ?_
  rintro e w2 ⟨rfl, hb2⟩
  clear p0 p1
  obtain ⟨c0, c1, f0, f1, hz⟩ := R1.keep hb2
  obtain ⟨s0, s1⟩ := set2 c0 c1 (.int .i64 0) (.int .i64 0)
  have HB2 := Lib.hid (bstep HB.out hb2)
  clear hb2 R1
  go_wp2_with fail
  refine bodyPost_ret (v := .tuple #[.agg #[.int .i64 0, .int .i64 0], .int .i64 1]) (by simp [results, Tryd.results21, go_sem, s0, s1]) rfl ⟨rfl, ?_⟩
  exact below_set2 HB2.out (by omega) _ _

set_option maxRecDepth 100000 in
set_option maxHeartbeats 1000000 in
theorem rMul (a b : Rat) (w : World) (ha : rfit a = true) (hb : rfit b = true) :
    Calls Tryd.prog 23 #[.agg #[.int .i64 a.num, .int .i64 (a.den : Int)], .agg #[.int .i64 b.num, .int .i64 (b.den : Int)]] w fun e w' => e = .returned (.tuple #[.agg #[.int .i64 (rN (a * b)), .int .i64 (rD (a * b))], .int .i64 (rE (a * b))]) ∧ Below w.heap.size w w' := by
  have C1 := Lib.hid (fun wx => rvalid_is a.num (a.den : Int) true (rok_of ha) wx)
  have C2 := Lib.hid (fun wx => rvalid_is b.num (b.den : Int) true (rok_of hb) wx)
  have fa := (rfit_iff a).1 ha
  have fb := (rfit_iff b).1 hb
  have da := rden_pos a
  have db := rden_pos b
  have m1 := mul_bd a.num (b.den : Int) 1073741824 1073741824 (by omega) (by omega) (by omega) (by omega)
  have m2 := mul_bd b.num (a.den : Int) 1073741824 1073741824 (by omega) (by omega) (by omega) (by omega)
  have m3 := mul_bd (a.den : Int) (b.den : Int) 1073741824 1073741824 (by omega) (by omega) (by omega) (by omega)
  have m4 := mul_bd a.num b.num 1073741824 1073741824 (by omega) (by omega) (by omega) (by omega)
  have m5 := mul_bd (a.den : Int) b.num 1073741824 1073741824 (by omega) (by omega) (by omega) (by omega)
  have nz : (a.den : Int) * (b.den : Int) ≠ 0 := by exact Int.mul_ne_zero (den_ne a) (den_ne b)
  have CM := Lib.hid (fun wx => rMake_any (a.num * b.num) ((a.den : Int) * (b.den : Int)) wx nz (by omega) (by omega) (by omega) (by omega))
  rw [mul_parts] at CM
  obtain ⟨x, hx⟩ : ∃ x, x = rN (a * b) := ⟨_, rfl⟩
  obtain ⟨y, hy⟩ : ∃ y, y = rD (a * b) := ⟨_, rfl⟩
  obtain ⟨z, hz9⟩ : ∃ z, z = rE (a * b) := ⟨_, rfl⟩
  rw [← hx, ← hy, ← hz9] at CM ⊢
  obtain ⟨an, han⟩ : ∃ t, t = a.num := ⟨_, rfl⟩
  obtain ⟨ad, had⟩ : ∃ t, t = (a.den : Int) := ⟨_, rfl⟩
  obtain ⟨bn, hbn⟩ : ∃ t, t = b.num := ⟨_, rfl⟩
  obtain ⟨bd, hbd⟩ : ∃ t, t = (b.den : Int) := ⟨_, rfl⟩
  rw [← han, ← had] at C1 fa
  rw [← hbn, ← hbd] at C2 fb
  simp only [← han, ← had, ← hbn, ← hbd] at CM m1 m2 m3 m4 m5 ⊢
  obtain ⟨m11, m12⟩ := m1
  obtain ⟨m21, m22⟩ := m2
  obtain ⟨m31, m32⟩ := m3
  obtain ⟨m41, m42⟩ := m4
  obtain ⟨m51, m52⟩ := m5
  simp only [Int.reduceMul] at m11 m12 m21 m22 m31 m32 m41 m42 m51 m52
  clear ha hb da db nz hx hy hz9 han had hbn hbd fa fb
  go_enter Tryd.func23, Tryd.ntmps23
  go_wp2_with fail
  refine (C1.out _).mono ?_
  rintro e w1 ⟨rfl, hb1⟩
  obtain ⟨A0, B0, R0⟩ := At2.three w (.int .i64 an) (.int .i64 ad) (.int .i64 bn) (.int .i64 bd) (.int .i64 0) (.int .i64 0) 24 24 24
  have A1 := A0.keep hb1
  have B1 := B0.keep hb1
  have R1 := R0.keep hb1
  have HB := Lib.hid (bstep (below3 w _ _ _) hb1)
  clear hb1 A0 B0 R0
  obtain ⟨p0, p1, _, _, _⟩ := id B1
  go_wp2_with fail
  refine (C2.out _).mono ?_
  rintro e w2 ⟨rfl, hb2⟩
  clear p0 p1
  have A2 := A1.keep hb2
  have B2 := B1.keep hb2
  have R2 := R1.keep hb2
  have HB2 := Lib.hid (bstep HB.out hb2)
  clear hb2 A1 B1 R1 HB
  obtain ⟨p0, p1, _, _, _⟩ := id A2
  obtain ⟨q0, q1, _, _, _⟩ := id B2
  go_wp2_with fail
  refine (CM.out _).mono ?_
  rintro e w3 ⟨rfl, hb3⟩
  clear p0 p1 q0 q1
  have R3 := R2.keep hb3
  have HB3 := Lib.hid (bstep HB2.out hb3)
  clear hb3 R2 HB2
  obtain ⟨c0, c1, f0, f1, hz⟩ := R3
  obtain ⟨s0, s1⟩ := set2 c0 c1 (.int .i64 x) (.int .i64 y)
  go_wp2_with fail
  refine bodyPost_ret (v := .tuple #[.agg #[.int .i64 x, .int .i64 y], .int .i64 z]) (by simp [results, Tryd.results23, go_sem, s0, s1]) rfl ⟨rfl, ?_⟩
  exact below_set2 HB3.out (by omega) _ _

theorem rMul_b1 (n d n' d' : Int) (w : World) (hk : rok n d = false) :
    Calls Tryd.prog 23 #[.agg #[.int .i64 n, .int .i64 d], .agg #[.int .i64 n', .int .i64 d']] w fun e w' => e = .returned (.tuple #[.agg #[.int .i64 0, .int .i64 0], .int .i64 1]) ∧ Below w.heap.size w w' := by
  have C1 := Lib.hid (fun wx => rvalid_is n d false hk wx)
  clear hk
  go_enter Tryd.func23, Tryd.ntmps23
  go_wp2_with fail
  refine (C1.out _).mono ?_
  rintro e w1 ⟨rfl, hb1⟩
  obtain ⟨-, -, R0⟩ := At2.three w (.int .i64 n) (.int .i64 d) (.int .i64 n') (.int .i64 d') (.int .i64 0) (.int .i64 0) 24 24 24
  obtain ⟨c0, c1, f0, f1, hz⟩ := R0.keep hb1
  obtain ⟨s0, s1⟩ := set2 c0 c1 (.int .i64 0) (.int .i64 0)
  have HB := Lib.hid (bstep (below3 w _ _ _) hb1)
  clear hb1 R0
  go_wp2_with fail
  refine bodyPost_ret (v := .tuple #[.agg #[.int .i64 0, .int .i64 0], .int .i64 1]) (by simp [results, Tryd.results23, go_sem, s0, s1]) rfl ⟨rfl, ?_⟩
  exact below_set2 HB.out (by omega) _ _
theorem rMul_b2 (n d n' d' : Int) (w : World) (hk : rok n d = true) (hk' : rok n' d' = false) :
    Calls Tryd.prog 23 #[.agg #[.int .i64 n, .int .i64 d], .agg #[.int .i64 n', .int .i64 d']] w fun e w' => e = .returned (.tuple #[.agg #[.int .i64 0, .int .i64 0], .int .i64 1]) ∧ Below w.heap.size w w' := by
  have C1 := Lib.hid (fun wx => rvalid_is n d true hk wx)
  have C2 := Lib.hid (fun wx => rvalid_is n' d' false hk' wx)
  clear hk hk'
  go_enter Tryd.func23, Tryd.ntmps23
  go_wp2_with fail
  refine (C1.out _).mono ?_
  rintro e w1 ⟨rfl, hb1⟩
  obtain ⟨-, B0, R0⟩ := At2.three w (.int .i64 n) (.int .i64 d) (.int .i64 n') (.int .i64 d') (.int .i64 0) (.int .i64 0) 24 24 24
  obtain ⟨p0, p1, _, _, _⟩ := B0.keep hb1
  have R1 := R0.keep hb1
  have HB := Lib.hid (bstep (below3 w _ _ _) hb1)
  clear hb1 R0 B0
  go_wp2_with fail
  refine (C2.out _).mono ?_
  rintro e w2 ⟨rfl, hb2⟩
  clear p0 p1
  obtain ⟨c0, c1, f0, f1, hz⟩ := R1.keep hb2
  obtain ⟨s0, s1⟩ := set2 c0 c1 (.int .i64 0) (.int .i64 0)
  have HB2 := Lib.hid (bstep HB.out hb2)
  clear hb2 R1
  go_wp2_with fail
  refine bodyPost_ret (v := .tuple #[.agg #[.int .i64 0, .int .i64 0], .int .i64 1]) (by simp [results, Tryd.results23, go_sem, s0, s1]) rfl ⟨rfl, ?_⟩
  exact below_set2 HB2.out (by omega) _ _

set_option maxRecDepth 100000 in
set_option maxHeartbeats 1000000 in
theorem rDiv (a b : Rat) (w : World) (ha : rfit a = true) (hb : rfit b = true) (hz : b.num ≠ 0) :
    Calls Tryd.prog 24 #[.agg #[.int .i64 a.num, .int .i64 (a.den : Int)], .agg #[.int .i64 b.num, .int .i64 (b.den : Int)]] w fun e w' => e = .returned (.tuple #[.agg #[.int .i64 (rN (a / b)), .int .i64 (rD (a / b))], .int .i64 (rE (a / b))]) ∧ Below w.heap.size w w' := by
  have C1 := Lib.hid (fun wx => rvalid_is a.num (a.den : Int) true (rok_of ha) wx)
  have C2 := Lib.hid (fun wx => rvalid_is b.num (b.den : Int) true (rok_of hb) wx)
  have fa := (rfit_iff a).1 ha
  have fb := (rfit_iff b).1 hb
  have da := rden_pos a
  have db := rden_pos b
  have m1 := mul_bd a.num (b.den : Int) 1073741824 1073741824 (by omega) (by omega) (by omega) (by omega)
  have m2 := mul_bd b.num (a.den : Int) 1073741824 1073741824 (by omega) (by omega) (by omega) (by omega)
  have m3 := mul_bd (a.den : Int) (b.den : Int) 1073741824 1073741824 (by omega) (by omega) (by omega) (by omega)
  have m4 := mul_bd a.num b.num 1073741824 1073741824 (by omega) (by omega) (by omega) (by omega)
  have m5 := mul_bd (a.den : Int) b.num 1073741824 1073741824 (by omega) (by omega) (by omega) (by omega)
  have nz : (a.den : Int) * b.num ≠ 0 := by exact Int.mul_ne_zero (den_ne a) hz
  have CM := Lib.hid (fun wx => rMake_any (a.num * (b.den : Int)) ((a.den : Int) * b.num) wx nz (by omega) (by omega) (by omega) (by omega))
  rw [div_parts] at CM
  obtain ⟨x, hx⟩ : ∃ x, x = rN (a / b) := ⟨_, rfl⟩
  obtain ⟨y, hy⟩ : ∃ y, y = rD (a / b) := ⟨_, rfl⟩
  obtain ⟨z, hz9⟩ : ∃ z, z = rE (a / b) := ⟨_, rfl⟩
  rw [← hx, ← hy, ← hz9] at CM ⊢
  obtain ⟨an, han⟩ : ∃ t, t = a.num := ⟨_, rfl⟩
  obtain ⟨ad, had⟩ : ∃ t, t = (a.den : Int) := ⟨_, rfl⟩
  obtain ⟨bn, hbn⟩ : ∃ t, t = b.num := ⟨_, rfl⟩
  obtain ⟨bd, hbd⟩ : ∃ t, t = (b.den : Int) := ⟨_, rfl⟩
  rw [← han, ← had] at C1 fa
  rw [← hbn, ← hbd] at C2 fb
  simp only [← han, ← had, ← hbn, ← hbd] at CM m1 m2 m3 m4 m5 ⊢
  obtain ⟨m11, m12⟩ := m1
  obtain ⟨m21, m22⟩ := m2
  obtain ⟨m31, m32⟩ := m3
  obtain ⟨m41, m42⟩ := m4
  obtain ⟨m51, m52⟩ := m5
  simp only [Int.reduceMul] at m11 m12 m21 m22 m31 m32 m41 m42 m51 m52
  clear ha hb da db nz hx hy hz9 han had hbn hbd fa fb hz
  go_enter Tryd.func24, Tryd.ntmps24
  go_wp2_with fail
  refine (C1.out _).mono ?_
  rintro e w1 ⟨rfl, hb1⟩
  obtain ⟨A0, B0, R0⟩ := At2.three w (.int .i64 an) (.int .i64 ad) (.int .i64 bn) (.int .i64 bd) (.int .i64 0) (.int .i64 0) 24 24 24
  have A1 := A0.keep hb1
  have B1 := B0.keep hb1
  have R1 := R0.keep hb1
  have HB := Lib.hid (bstep (below3 w _ _ _) hb1)
  clear hb1 A0 B0 R0
  obtain ⟨p0, p1, _, _, _⟩ := id B1
  go_wp2_with fail
  refine (C2.out _).mono ?_
  rintro e w2 ⟨rfl, hb2⟩
  clear p0 p1
  have A2 := A1.keep hb2
  have B2 := B1.keep hb2
  have R2 := R1.keep hb2
  have HB2 := Lib.hid (bstep HB.out hb2)
  clear hb2 A1 B1 R1 HB
  obtain ⟨p0, p1, _, _, _⟩ := id A2
  obtain ⟨q0, q1, _, _, _⟩ := id B2
  go_wp2_with fail
  refine (CM.out _).mono ?_
  rintro e w3 ⟨rfl, hb3⟩
  clear p0 p1 q0 q1
  have R3 := R2.keep hb3
  have HB3 := Lib.hid (bstep HB2.out hb3)
  clear hb3 R2 HB2
  obtain ⟨c0, c1, f0, f1, hz⟩ := R3
  obtain ⟨s0, s1⟩ := set2 c0 c1 (.int .i64 x) (.int .i64 y)
  go_wp2_with fail
  refine bodyPost_ret (v := .tuple #[.agg #[.int .i64 x, .int .i64 y], .int .i64 z]) (by simp [results, Tryd.results24, go_sem, s0, s1]) rfl ⟨rfl, ?_⟩
  exact below_set2 HB3.out (by omega) _ _

theorem rDiv_b1 (n d n' d' : Int) (w : World) (hk : rok n d = false) :
    Calls Tryd.prog 24 #[.agg #[.int .i64 n, .int .i64 d], .agg #[.int .i64 n', .int .i64 d']] w fun e w' => e = .returned (.tuple #[.agg #[.int .i64 0, .int .i64 0], .int .i64 1]) ∧ Below w.heap.size w w' := by
  have C1 := Lib.hid (fun wx => rvalid_is n d false hk wx)
  clear hk
  go_enter Tryd.func24, Tryd.ntmps24
  go_wp2_with fail
  refine (C1.out _).mono ?_
  rintro e w1 ⟨rfl, hb1⟩
  obtain ⟨-, -, R0⟩ := At2.three w (.int .i64 n) (.int .i64 d) (.int .i64 n') (.int .i64 d') (.int .i64 0) (.int .i64 0) 24 24 24
  obtain ⟨c0, c1, f0, f1, hz⟩ := R0.keep hb1
  obtain ⟨s0, s1⟩ := set2 c0 c1 (.int .i64 0) (.int .i64 0)
  have HB := Lib.hid (bstep (below3 w _ _ _) hb1)
  clear hb1 R0
  go_wp2_with fail
  refine bodyPost_ret (v := .tuple #[.agg #[.int .i64 0, .int .i64 0], .int .i64 1]) (by simp [results, Tryd.results24, go_sem, s0, s1]) rfl ⟨rfl, ?_⟩
  exact below_set2 HB.out (by omega) _ _
theorem rDiv_b2 (n d n' d' : Int) (w : World) (hk : rok n d = true) (hk' : rok n' d' = false) :
    Calls Tryd.prog 24 #[.agg #[.int .i64 n, .int .i64 d], .agg #[.int .i64 n', .int .i64 d']] w fun e w' => e = .returned (.tuple #[.agg #[.int .i64 0, .int .i64 0], .int .i64 1]) ∧ Below w.heap.size w w' := by
  have C1 := Lib.hid (fun wx => rvalid_is n d true hk wx)
  have C2 := Lib.hid (fun wx => rvalid_is n' d' false hk' wx)
  clear hk hk'
  go_enter Tryd.func24, Tryd.ntmps24
  go_wp2_with fail
  refine (C1.out _).mono ?_
  rintro e w1 ⟨rfl, hb1⟩
  obtain ⟨-, B0, R0⟩ := At2.three w (.int .i64 n) (.int .i64 d) (.int .i64 n') (.int .i64 d') (.int .i64 0) (.int .i64 0) 24 24 24
  obtain ⟨p0, p1, _, _, _⟩ := B0.keep hb1
  have R1 := R0.keep hb1
  have HB := Lib.hid (bstep (below3 w _ _ _) hb1)
  clear hb1 R0 B0
  go_wp2_with fail
  refine (C2.out _).mono ?_
  rintro e w2 ⟨rfl, hb2⟩
  clear p0 p1
  obtain ⟨c0, c1, f0, f1, hz⟩ := R1.keep hb2
  obtain ⟨s0, s1⟩ := set2 c0 c1 (.int .i64 0) (.int .i64 0)
  have HB2 := Lib.hid (bstep HB.out hb2)
  clear hb2 R1
  go_wp2_with fail
  refine bodyPost_ret (v := .tuple #[.agg #[.int .i64 0, .int .i64 0], .int .i64 1]) (by simp [results, Tryd.results24, go_sem, s0, s1]) rfl ⟨rfl, ?_⟩
  exact below_set2 HB2.out (by omega) _ _

theorem rDiv_zero (n d d' : Int) (w : World) (hk : rok n d = true) (hk' : rok 0 d' = true) :
    Calls Tryd.prog 24 #[.agg #[.int .i64 n, .int .i64 d], .agg #[.int .i64 0, .int .i64 d']] w fun e w' => e = .returned (.tuple #[.agg #[.int .i64 0, .int .i64 0], .int .i64 16]) ∧ Below w.heap.size w w' := by
  have C1 := Lib.hid (fun wx => rvalid_is n d true hk wx)
  have C2 := Lib.hid (fun wx => rvalid_is 0 d' true hk' wx)
  have m1 := mul_bd n d' 1073741824 1073741824 (by have := (rok_iff _ _).1 hk; omega) (by have := (rok_iff _ _).1 hk; omega) (by have := (rok_iff _ _).1 hk'; omega) (by have := (rok_iff _ _).1 hk'; omega)
  obtain ⟨m11, m12⟩ := m1
  simp only [Int.reduceMul] at m11 m12
  have CM := Lib.hid (fun wx => rMake_zero (n * d') wx)
  clear hk hk'
  go_enter Tryd.func24, Tryd.ntmps24
  go_wp2_with fail
  refine (C1.out _).mono ?_
  rintro e w1 ⟨rfl, hb1⟩
  obtain ⟨A0, B0, R0⟩ := At2.three w (.int .i64 n) (.int .i64 d) (.int .i64 0) (.int .i64 d') (.int .i64 0) (.int .i64 0) 24 24 24
  have A1 := A0.keep hb1
  have B1 := B0.keep hb1
  have R1 := R0.keep hb1
  have HB := Lib.hid (bstep (below3 w _ _ _) hb1)
  clear hb1 A0 B0 R0
  obtain ⟨p0, p1, _, _, _⟩ := id B1
  go_wp2_with fail
  refine (C2.out _).mono ?_
  rintro e w2 ⟨rfl, hb2⟩
  clear p0 p1
  have A2 := A1.keep hb2
  have B2 := B1.keep hb2
  have R2 := R1.keep hb2
  have HB2 := Lib.hid (bstep HB.out hb2)
  clear hb2 A1 B1 R1 HB
  obtain ⟨p0, p1, _, _, _⟩ := id A2
  obtain ⟨q0, q1, _, _, _⟩ := id B2
  go_wp2_with fail
  refine (CM.out _).mono ?_
  rintro e w3 ⟨rfl, hb3⟩
  clear p0 p1 q0 q1
  have R3 := R2.keep hb3
  have HB3 := Lib.hid (bstep HB2.out hb3)
  clear hb3 R2 HB2
  obtain ⟨c0, c1, f0, f1, hz⟩ := R3
  obtain ⟨s0, s1⟩ := set2 c0 c1 (.int .i64 0) (.int .i64 0)
  go_wp2_with fail
  refine bodyPost_ret (v := .tuple #[.agg #[.int .i64 0, .int .i64 0], .int .i64 16]) (by simp [results, Tryd.results24, go_sem, s0, s1]) rfl ⟨rfl, ?_⟩
  exact below_set2 HB3.out (by omega) _ _

theorem rSub_b1 (n d n' d' : Int) (w : World) (hk : rok n d = false) :
    Calls Tryd.prog 22 #[.agg #[.int .i64 n, .int .i64 d], .agg #[.int .i64 n', .int .i64 d']] w fun e w' => e = .returned (.tuple #[.agg #[.int .i64 0, .int .i64 0], .int .i64 1]) ∧ Below w.heap.size w w' := by
  have C1 := Lib.hid (fun wx => rvalid_is n d false hk wx)
  clear hk
  go_enter Tryd.func22, Tryd.ntmps22
  go_wp2_with fail
  refine (C1.out _).mono ?_
  rintro e w1 ⟨rfl, hb1⟩
  obtain ⟨-, -, R0⟩ := At2.three w (.int .i64 n) (.int .i64 d) (.int .i64 n') (.int .i64 d') (.int .i64 0) (.int .i64 0) 24 24 24
  obtain ⟨c0, c1, f0, f1, hz⟩ := R0.keep hb1
  obtain ⟨s0, s1⟩ := set2 c0 c1 (.int .i64 0) (.int .i64 0)
  have HB := Lib.hid (bstep (below3 w _ _ _) hb1)
  clear hb1 R0
  go_wp2_with fail
  refine bodyPost_ret (v := .tuple #[.agg #[.int .i64 0, .int .i64 0], .int .i64 1]) (by simp [results, Tryd.results22, go_sem, s0, s1]) rfl ⟨rfl, ?_⟩
  exact below_set2 HB.out (by omega) _ _
theorem rSub_b2 (n d n' d' : Int) (w : World) (hk : rok n d = true) (hk' : rok n' d' = false) :
    Calls Tryd.prog 22 #[.agg #[.int .i64 n, .int .i64 d], .agg #[.int .i64 n', .int .i64 d']] w fun e w' => e = .returned (.tuple #[.agg #[.int .i64 0, .int .i64 0], .int .i64 1]) ∧ Below w.heap.size w w' := by
  have C1 := Lib.hid (fun wx => rvalid_is n d true hk wx)
  have C2 := Lib.hid (fun wx => rvalid_is n' d' false hk' wx)
  clear hk hk'
  go_enter Tryd.func22, Tryd.ntmps22
  go_wp2_with fail
  refine (C1.out _).mono ?_
  rintro e w1 ⟨rfl, hb1⟩
  obtain ⟨-, B0, R0⟩ := At2.three w (.int .i64 n) (.int .i64 d) (.int .i64 n') (.int .i64 d') (.int .i64 0) (.int .i64 0) 24 24 24
  obtain ⟨p0, p1, _, _, _⟩ := B0.keep hb1
  have R1 := R0.keep hb1
  have HB := Lib.hid (bstep (below3 w _ _ _) hb1)
  clear hb1 R0 B0
  go_wp2_with fail
  refine (C2.out _).mono ?_
  rintro e w2 ⟨rfl, hb2⟩
  clear p0 p1
  obtain ⟨c0, c1, f0, f1, hz⟩ := R1.keep hb2
  obtain ⟨s0, s1⟩ := set2 c0 c1 (.int .i64 0) (.int .i64 0)
  have HB2 := Lib.hid (bstep HB.out hb2)
  clear hb2 R1
  go_wp2_with fail
  refine bodyPost_ret (v := .tuple #[.agg #[.int .i64 0, .int .i64 0], .int .i64 1]) (by simp [results, Tryd.results22, go_sem, s0, s1]) rfl ⟨rfl, ?_⟩
  exact below_set2 HB2.out (by omega) _ _
end Go.Proofs.YtlcmnfhkicjclaaDoor
