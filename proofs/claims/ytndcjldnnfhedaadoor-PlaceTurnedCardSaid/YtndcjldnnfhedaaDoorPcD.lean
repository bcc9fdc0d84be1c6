/- Place: contracts of the program's Valid, ValidPoint, Of. -/
import Derived.Test.YtndcjldnnfhedaaDoorPcC
import Derived.Test.YtndcjldnnfhedaaDoorAnR
namespace Go.Proofs.YtndcjldnnfhedaaDoor
open Go.RowKit
set_option linter.unusedVariables false
set_option maxRecDepth 100000

theorem ainR_lat (a b : Int) : ainR a b (-5400000) 5400000 = latOk a b := by
  unfold ainR aok latOk
  rw [Bool.eq_iff_iff]
  simp only [Bool.and_eq_true, decide_eq_true_iff]
  omega
theorem lon_cases (c d : Int) : lonOk c d = (allB c d || narB c d) := by
  unfold lonOk allB narB
  rw [Bool.eq_iff_iff]
  simp only [Bool.or_eq_true, decide_eq_true_iff]
set_option maxHeartbeats 1000000 in
theorem pPlValid (a b c d : Int) (w : World) (H : HasAll w) :
    Calls Tryd.prog 9 #[.agg #[.int .i64 a, .int .i64 b, .int .i64 c, .int .i64 d]] w fun e w' => e = .returned (.bool (plOk a b c d)) ∧ Below w.heap.size w w' := by
  have A := (At4.new w (.int .i64 a) (.int .i64 b) (.int .i64 c) (.int .i64 d) 33).alloc (.cells #[.int .i64 (-5400000), .int .i64 5400000] 25)
  have L := At2.new (w.alloc (.cells #[.int .i64 a, .int .i64 b, .int .i64 c, .int .i64 d] 33)) (.int .i64 (-5400000)) (.int .i64 5400000) 25
  have HB := Lib.hid (below2 w (.cells #[.int .i64 a, .int .i64 b, .int .i64 c, .int .i64 d] 33) (.cells #[.int .i64 (-5400000), .int .i64 5400000] 25))
  simp at L
  have G := H.below HB.out
  have CI := Lib.hid (fun wx => pInside a b (-5400000) 5400000 wx)
  have CN := Lib.hid (fun wx => pIsNarrow c d wx)
  rw [ainR_lat] at CI
  obtain ⟨A0, A1, A2, A3, -, -, -, -, -⟩ := id A
  obtain ⟨L0, L1, -, -, -⟩ := id L
  obtain ⟨g0, g1⟩ := id G
  unfold plOk
  rw [lon_cases]
  generalize narB c d = nb at *
  cases hl : latOk a b
  · rw [hl] at CI
    go_enter Tryd.func9, Tryd.ntmps9
    go_wp2_with fail
    refine (CI.out _).mono ?_
    rintro e w1 ⟨rfl, hb⟩
    have A := A.keep hb
    have G := G.below hb
    have HB := Lib.hid (bstep HB.out hb)
    clear hb A0 A1 A2 A3 L0 L1 g0 g1 L
    obtain ⟨A0, A1, A2, A3, -, -, -, -, -⟩ := id A
    obtain ⟨g0, g1⟩ := id G
    go_wp2_with fail
    go_ret
    exact ⟨by first | rfl | exact ret_bool (by simp), HB.out⟩
  · rw [hl] at CI
    by_cases hc : c = -10800000
    · by_cases hd : d = 10800000
      · subst hc hd
        go_enter Tryd.func9, Tryd.ntmps9
        go_wp2_with fail
        refine (CI.out _).mono ?_
        rintro e w1 ⟨rfl, hb⟩
        have A := A.keep hb
        have G := G.below hb
        have HB := Lib.hid (bstep HB.out hb)
        clear hb A0 A1 A2 A3 L0 L1 g0 g1 L
        obtain ⟨A0, A1, A2, A3, -, -, -, -, -⟩ := id A
        obtain ⟨g0, g1⟩ := id G
        go_wp2_with fail
        go_ret
        exact ⟨rfl, HB.out⟩
      · have z : allB c d = false := decide_eq_false (by omega)
        have hk : (d == 10800000) = false := beq_eq_false_iff_ne.2 hd
        rw [z]
        subst hc
        go_enter Tryd.func9, Tryd.ntmps9
        go_wp2_with fail
        refine (CI.out _).mono ?_
        rintro e w1 ⟨rfl, hb⟩
        have A := A.keep hb
        have G := G.below hb
        have HB := Lib.hid (bstep HB.out hb)
        clear hb A0 A1 A2 A3 L0 L1 g0 g1 L
        obtain ⟨A0, A1, A2, A3, -, -, -, -, -⟩ := id A
        obtain ⟨g0, g1⟩ := id G
        go_wp2_with fail
        refine (CN.out _).mono ?_
        rintro e w2 ⟨rfl, hb⟩
        have HB := Lib.hid (bstep HB.out hb)
        clear hb
        go_wp2_with fail
        go_ret
        exact ⟨by first | rfl | exact ret_bool (by simp), HB.out⟩
    · have z : allB c d = false := decide_eq_false (by omega)
      have hk : (c == -10800000) = false := beq_eq_false_iff_ne.2 hc
      rw [z]
      go_enter Tryd.func9, Tryd.ntmps9
      go_wp2_with fail
      refine (CI.out _).mono ?_
      rintro e w1 ⟨rfl, hb⟩
      have A := A.keep hb
      have G := G.below hb
      have HB := Lib.hid (bstep HB.out hb)
      clear hb A0 A1 A2 A3 L0 L1 g0 g1 L
      obtain ⟨A0, A1, A2, A3, -, -, -, -, -⟩ := id A
      obtain ⟨g0, g1⟩ := id G
      go_wp2_with fail
      refine (CN.out _).mono ?_
      rintro e w2 ⟨rfl, hb⟩
      have HB := Lib.hid (bstep HB.out hb)
      clear hb
      go_wp2_with fail
      go_ret
      exact ⟨by first | rfl | exact ret_bool (by simp), HB.out⟩
theorem pPtValid (x y : Int) (w : World) :
    Calls Tryd.prog 10 #[.agg #[.int .i64 x, .int .i64 y]] w fun e w' => e = .returned (.bool (ptOk x y)) ∧ Below w.heap.size w w' := by
  obtain ⟨a0, a1, af0, af1, alt⟩ := At2.new w (.int .i64 x) (.int .i64 y) 35
  have CL := Lib.hid (fun wx => pIsLon y wx)
  have key : ptOk x y = (decide (-5400000 ≤ x ∧ x ≤ 5400000) && lngB y) := by
    unfold ptOk lngB
    rw [Bool.eq_iff_iff]
    simp only [Bool.and_eq_true, decide_eq_true_iff]
    omega
  rw [key]
  clear key
  generalize lngB y = r at *
  by_cases c1 : -5400000 ≤ x
  · by_cases c2 : x ≤ 5400000
    · rw [decide_eq_true (show -5400000 ≤ x ∧ x ≤ 5400000 from ⟨c1, c2⟩)]
      go_enter Tryd.func10, Tryd.ntmps10
      go_wp2_with fail
      refine (CL.out _).mono ?_
      rintro e w1 ⟨rfl, rfl⟩
      go_wp2_with fail
      go_ret
      exact ⟨by first | rfl | exact ret_bool (by simp), below1 _ _⟩
    · rw [decide_eq_false (show ¬ (-5400000 ≤ x ∧ x ≤ 5400000) by omega)]
      go_enter Tryd.func10, Tryd.ntmps10
      go_wp2_with fail
      go_ret
      exact ⟨by first | rfl | exact ret_bool (by simp), below1 _ _⟩
  · rw [decide_eq_false (show ¬ (-5400000 ≤ x ∧ x ≤ 5400000) by omega)]
    go_enter Tryd.func10, Tryd.ntmps10
    go_wp2_with fail
    go_ret
    exact ⟨by first | rfl | exact ret_bool (by simp), below1 _ _⟩
def vP4 (x y z t : Int) : Value := .agg #[.int .i64 x, .int .i64 y, .int .i64 z, .int .i64 t]
/-- a place and an error -/
def vPE (x y z t e : Int) : Value := .tuple #[.agg #[.int .i64 x, .int .i64 y, .int .i64 z, .int .i64 t], .int .i64 e]
set_option maxHeartbeats 4000000 in
theorem pOf (x y : Int) (w : World) :
    Calls Tryd.prog 27 #[.agg #[.int .i64 x, .int .i64 y]] w fun e w' => e = .returned (if ptOk x y = true then vPE x x y y 0 else vPE 0 0 0 0 1) ∧ Below w.heap.size w w' := by
  have A := (At2.new w (.int .i64 x) (.int .i64 y) 35).alloc (.cells #[.int .i64 0, .int .i64 0, .int .i64 0, .int .i64 0] 33)
  have R := At4.new (w.alloc (.cells #[.int .i64 x, .int .i64 y] 35)) (.int .i64 0) (.int .i64 0) (.int .i64 0) (.int .i64 0) 33
  have HB := Lib.hid (below2 w (.cells #[.int .i64 x, .int .i64 y] 35) (.cells #[.int .i64 0, .int .i64 0, .int .i64 0, .int .i64 0] 33))
  simp at R
  have CV := Lib.hid (fun wx => pPtValid x y wx)
  obtain ⟨A0, A1, -, -, -⟩ := id A
  obtain ⟨R0, R1, R2, R3, R4, R5, R6, R7, -⟩ := id R
  cases hp : ptOk x y
  · rw [hp] at CV
    go_enter Tryd.func27, Tryd.ntmps27
    go_wp2_with fail
    refine (CV.out _).mono ?_
    rintro e w1 ⟨rfl, hb⟩
    have A := A.keep hb
    have R := R.keep hb
    have HB := Lib.hid (bstep HB.out hb)
    clear hb A0 A1 R0 R1 R2 R3 R4 R5 R6 R7
    obtain ⟨A0, A1, -, -, -⟩ := id A
    obtain ⟨R0, R1, R2, R3, R4, R5, R6, R7, -⟩ := id R
    obtain ⟨z0, z1, z2, z3, -, -, -, -, -⟩ := R.put (.int .i64 0) (.int .i64 0) (.int .i64 0) (.int .i64 0)
    go_wp2_with fail
    refine bodyPost_ret (v := .tuple #[.agg #[.int .i64 0, .int .i64 0, .int .i64 0, .int .i64 0], .int .i64 1]) (by simp [results, Tryd.results27, go_sem, z0, z1, z2, z3]) rfl ⟨rfl, ?_⟩
    exact below_set4 HB.out (by omega) _ _ _ _
  · rw [hp] at CV
    go_enter Tryd.func27, Tryd.ntmps27
    go_wp2_with fail
    refine (CV.out _).mono ?_
    rintro e w1 ⟨rfl, hb⟩
    have A := A.keep hb
    have R := R.keep hb
    have HB := Lib.hid (bstep HB.out hb)
    clear hb A0 A1 R0 R1 R2 R3 R4 R5 R6 R7
    obtain ⟨A0, A1, -, -, -⟩ := id A
    obtain ⟨R0, R1, R2, R3, R4, R5, R6, R7, -⟩ := id R
    obtain ⟨z0, z1, z2, z3, -, -, -, -, -⟩ := R.put (.int .i64 x) (.int .i64 x) (.int .i64 y) (.int .i64 y)
    go_wp2_with fail
    refine bodyPost_ret (v := .tuple #[.agg #[.int .i64 x, .int .i64 x, .int .i64 y, .int .i64 y], .int .i64 0]) (by simp [results, Tryd.results27, go_sem, z0, z1, z2, z3]) rfl ⟨rfl, ?_⟩
    exact below_set4 HB.out (by omega) _ _ _ _
end Go.Proofs.YtndcjldnnfhedaaDoor
