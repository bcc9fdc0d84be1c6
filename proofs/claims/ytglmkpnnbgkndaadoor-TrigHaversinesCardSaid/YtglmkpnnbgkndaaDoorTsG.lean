/- Trig: the contracts of Sin, Cos, Haversine, Below. -/
import Derived.Test.YtglmkpnnbgkndaaDoorTsF
namespace Go.Proofs.YtglmkpnnbgkndaaDoor
open Go.RowKit
set_option linter.unusedVariables false
set_option maxRecDepth 100000

theorem pSin (a b : Int) (w : World) (H : Held w) (a1 : I64 a) (b1 : I64 b) :
    Calls Tryd.prog 13 #[.agg #[.int .i64 a, .int .i64 b]] w fun e w' => e = .returned (vTr (aok a b) (L6.sL a b) (L6.sH a b)) ∧ Below w.heap.size w w' := by
  obtain ⟨A, R⟩ := At2.two w (.int .i64 a) (.int .i64 b) (.int .i64 0) (.int .i64 0) 23 25
  have HB := Lib.hid (below2 w (.cells #[.int .i64 a, .int .i64 b] 23) (.cells #[.int .i64 0, .int .i64 0] 25))
  obtain ⟨A0, A1, -, -, -⟩ := id A
  rcases Bool.eq_false_or_eq_true (aok a b) with h | h
  · rw [vTr_yes _ _ h]
    have C0 := Lib.hid (fun (wx : World) => pValid_is a b true h wx)
    obtain ⟨q1, q2, q3⟩ := (aok_iff a b).1 h
    have C1 := Lib.hid (fun (wx : World) (hb : Below w.heap.size w wx) => pOver a b (by omega) (by omega) q3 wx (H.keep hb))
    generalize L6.sL a b = u at *
    generalize L6.sH a b = v at *
    clear h H q1 q2 q3
    go_enter Tryd.func13, Tryd.ntmps13
    go_wp2_with fail
    refine (C0.out _).mono ?_
    rintro e w1 ⟨rfl, hb⟩
    have A := A.keep hb
    have R := R.keep hb
    have HB := Lib.hid (bstep HB.out hb)
    clear hb A0 A1
    obtain ⟨A0, A1, -, -, -⟩ := id A
    go_wp2_with fail
    refine (C1.out _ HB.out).mono ?_
    rintro e w2 ⟨rfl, hb⟩
    have R := R.keep hb
    have HB := Lib.hid (bstep HB.out hb)
    clear hb A0 A1 A
    obtain ⟨R0, R1, R2, R3, -⟩ := id R
    obtain ⟨z0, z1⟩ := set2 R0 R1 (.int .i64 u) (.int .i64 v)
    go_wp2_with fail
    refine bodyPost_ret (v := .tuple #[.agg #[.int .i64 u, .int .i64 v], .int .i64 0]) (by simp [results, Tryd.results13, go_sem, z0, z1]) rfl ⟨rfl, ?_⟩
    exact below_set2 HB.out (by omega) _ _
  · rw [vTr_no _ _ h]
    have C0 := Lib.hid (fun (wx : World) => pValid_is a b false h wx)
    clear h H
    go_enter Tryd.func13, Tryd.ntmps13
    go_wp2_with fail
    refine (C0.out _).mono ?_
    rintro e w1 ⟨rfl, hb⟩
    have R := R.keep hb
    have HB := Lib.hid (bstep HB.out hb)
    clear hb A0 A1 A
    obtain ⟨R0, R1, R2, R3, -⟩ := id R
    obtain ⟨z0, z1⟩ := set2 R0 R1 (.int .i64 0) (.int .i64 0)
    go_wp2_with fail
    refine bodyPost_ret (v := .tuple #[.agg #[.int .i64 0, .int .i64 0], .int .i64 1]) (by simp [results, Tryd.results13, go_sem, z0, z1]) rfl ⟨rfl, ?_⟩
    exact below_set2 HB.out (by omega) _ _
theorem pCos (a b : Int) (w : World) (H : Held w) (a1 : I64 a) (b1 : I64 b) :
    Calls Tryd.prog 14 #[.agg #[.int .i64 a, .int .i64 b]] w fun e w' => e = .returned (vTr (aok a b) (L6.sL (a + 5400000) (b + 5400000)) (L6.sH (a + 5400000) (b + 5400000))) ∧ Below w.heap.size w w' := by
  obtain ⟨A, R⟩ := At2.two w (.int .i64 a) (.int .i64 b) (.int .i64 0) (.int .i64 0) 23 25
  have HB := Lib.hid (below2 w (.cells #[.int .i64 a, .int .i64 b] 23) (.cells #[.int .i64 0, .int .i64 0] 25))
  obtain ⟨A0, A1, -, -, -⟩ := id A
  rcases Bool.eq_false_or_eq_true (aok a b) with h | h
  · rw [vTr_yes _ _ h]
    have C0 := Lib.hid (fun (wx : World) => pValid_is a b true h wx)
    obtain ⟨q1, q2, q3⟩ := (aok_iff a b).1 h
    have C1 := Lib.hid (fun (wx : World) (hb : Below w.heap.size w wx) => pOver (a + 5400000) (b + 5400000) (by omega) (by omega) (by omega) wx (H.keep hb))
    generalize L6.sL (a + 5400000) (b + 5400000) = u at *
    generalize L6.sH (a + 5400000) (b + 5400000) = v at *
    obtain ⟨x, hx⟩ : ∃ x, a + 5400000 = x := ⟨_, rfl⟩
    obtain ⟨y, hy⟩ : ∃ y, b + 5400000 = y := ⟨_, rfl⟩
    have g3 : -9223372036854775808 ≤ x := by omega
    have g4 : x ≤ 9223372036854775807 := by omega
    have g5 : -9223372036854775808 ≤ y := by omega
    have g6 : y ≤ 9223372036854775807 := by omega
    rw [hx, hy] at C1
    clear h H q1 q2 q3
    go_enter Tryd.func14, Tryd.ntmps14
    go_wp2_with fail
    refine (C0.out _).mono ?_
    rintro e w1 ⟨rfl, hb⟩
    have A := A.keep hb
    have R := R.keep hb
    have HB := Lib.hid (bstep HB.out hb)
    clear hb A0 A1
    obtain ⟨A0, A1, -, -, -⟩ := id A
    go_wp2_with fail
    refine (C1.out _ HB.out).mono ?_
    rintro e w2 ⟨rfl, hb⟩
    have R := R.keep hb
    have HB := Lib.hid (bstep HB.out hb)
    clear hb A0 A1 A
    obtain ⟨R0, R1, R2, R3, -⟩ := id R
    obtain ⟨z0, z1⟩ := set2 R0 R1 (.int .i64 u) (.int .i64 v)
    go_wp2_with fail
    refine bodyPost_ret (v := .tuple #[.agg #[.int .i64 u, .int .i64 v], .int .i64 0]) (by simp [results, Tryd.results14, go_sem, z0, z1]) rfl ⟨rfl, ?_⟩
    exact below_set2 HB.out (by omega) _ _
  · rw [vTr_no _ _ h]
    have C0 := Lib.hid (fun (wx : World) => pValid_is a b false h wx)
    clear h H
    go_enter Tryd.func14, Tryd.ntmps14
    go_wp2_with fail
    refine (C0.out _).mono ?_
    rintro e w1 ⟨rfl, hb⟩
    have R := R.keep hb
    have HB := Lib.hid (bstep HB.out hb)
    clear hb A0 A1 A
    obtain ⟨R0, R1, R2, R3, -⟩ := id R
    obtain ⟨z0, z1⟩ := set2 R0 R1 (.int .i64 0) (.int .i64 0)
    go_wp2_with fail
    refine bodyPost_ret (v := .tuple #[.agg #[.int .i64 0, .int .i64 0], .int .i64 1]) (by simp [results, Tryd.results14, go_sem, z0, z1]) rfl ⟨rfl, ?_⟩
    exact below_set2 HB.out (by omega) _ _
end Go.Proofs.YtglmkpnnbgkndaaDoor
