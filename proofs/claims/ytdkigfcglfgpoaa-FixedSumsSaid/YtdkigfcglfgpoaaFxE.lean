/- Fixed: contract of the reference's Div. -/
import Derived.Test.YtdkigfcglfgpoaaFxD
namespace Go.Proofs.Ytdkigfcglfgpoaa
open Go.RowKit
set_option linter.unusedVariables false

theorem loQ_two {a b c d n : Int} (hn : 0 ≤ n) (hc : 0 < c) (hd : 0 < d) (h : a ≤ b) : loQ a b c d n = min (a * n / c) (a * n / d) := by
  have h1 := fl_mono hc (mul_le_r h hn)
  have h2 := fl_mono hd (mul_le_r h hn)
  unfold loQ min4; omega
theorem hiQ_two {a b c d n : Int} (hn : 0 ≤ n) (hc : 0 < c) (hd : 0 < d) (h : a ≤ b) : hiQ a b c d n = max (cdiv (b * n) c) (cdiv (b * n) d) := by
  have h1 := ce_mono hc (mul_le_r h hn)
  have h2 := ce_mono hd (mul_le_r h hn)
  unfold hiQ max4; omega
theorem turn_ok {a b c d : Int} (h : fok a b = true) (k : fok c d = true) (hz : ¬ (c ≤ 0 ∧ 0 ≤ d)) :
    fok (tA a b c) (tB a b c) = true ∧ fok (tC c d) (tD c d) = true ∧ 0 < tC c d := by
  have p := (fok_iff _ _).1 h
  have q := (fok_iff _ _).1 k
  unfold tA tB tC tD
  by_cases hc : c < 0
  · simp only [if_pos hc]; exact ⟨fok_mk (by omega) (by omega) (by omega), fok_mk (by omega) (by omega) (by omega), by omega⟩
  · simp only [if_neg hc]; exact ⟨fok_mk (by omega) (by omega) (by omega), fok_mk (by omega) (by omega) (by omega), by omega⟩
theorem zin_iff (a b : Int) : zin a b = true ↔ (a ≤ 0 ∧ 0 ≤ b) := by unfold zin; simp
theorem zin_not (a b : Int) : zin a b = false ↔ ¬ (a ≤ 0 ∧ 0 ≤ b) := by unfold zin; rw [decide_eq_false_iff_not]
theorem rZero_is (a b : Int) (r : Bool) (h : zin a b = r) (w : World) :
    Calls Try.prog 56 #[.agg #[.int .i64 a, .int .i64 b]] w fun e w' => e = .returned (.bool r) ∧ Below w.heap.size w w' := h ▸ rZero a b w

theorem rDiv_zero (a b c d : Int) (w : World) (hz : zin c d = true) :
    Calls Try.prog 34 #[.agg #[.int .i64 a, .int .i64 b], .agg #[.int .i64 c, .int .i64 d]] w fun e w' => e = .returned (vR (divR a b c d)) ∧ Below w.heap.size w w' := by
  obtain ⟨A, B, R⟩ := At2.three w (.int .i64 a) (.int .i64 b) (.int .i64 c) (.int .i64 d) (.int .i64 0) (.int .i64 0) 23 23 23
  have C := Lib.hid (fun wx => rZero_is c d true hz wx)
  rw [show divR a b c d = ⟨0, 0, 16⟩ from if_pos ((zin_iff _ _).1 hz)]
  unfold vR
  obtain ⟨b0, b1, bf0, bf1, blt⟩ := id B
  clear hz
  go_enter Try.func34, Try.ntmps34
  go_wp2_with fail
  refine (C.out _).mono ?_
  rintro e w1 ⟨rfl, hb⟩
  obtain ⟨r0, r1, rf0, rf1, rlt⟩ := R.keep hb
  obtain ⟨s0, s1⟩ := set2 r0 r1 (.int .i64 0) (.int .i64 0)
  have HW := Lib.hid (bel3 hb)
  clear hb
  go_wp2_with fail
  refine bodyPost_ret (v := .tuple #[.agg #[.int .i64 0, .int .i64 0], .int .i64 16]) (by simp [results, Try.results34, go_sem, s0, s1]) rfl ⟨rfl, ?_⟩
  exact below_set2 HW.out (by omega) _ _

set_option maxHeartbeats 2000000 in
theorem rDiv_some (a b c d : Int) (w : World) (h : fok a b = true) (k : fok c d = true) (hz : zin c d = false) :
    Calls Try.prog 34 #[.agg #[.int .i64 a, .int .i64 b], .agg #[.int .i64 c, .int .i64 d]] w fun e w' => e = .returned (vR (divR a b c d)) ∧ Below w.heap.size w w' := by
  obtain ⟨A, B, R⟩ := At2.three w (.int .i64 a) (.int .i64 b) (.int .i64 c) (.int .i64 d) (.int .i64 0) (.int .i64 0) 23 23 23
  have C := Lib.hid (fun wx => rZero_is c d false hz wx)
  have CT := Lib.hid (fun wx => rTurned a b c d wx h k)
  have hz' := (zin_not _ _).1 hz
  obtain ⟨t1, t2, t3⟩ := turn_ok h k hz'
  rw [show divR a b c d = _ from if_neg hz']
  unfold vI at CT
  generalize tA a b c = p at *
  generalize tB a b c = q at *
  generalize tC c d = u at *
  generalize tD c d = v at *
  have p1 := (fok_iff _ _).1 t1
  have p2 := (fok_iff _ _).1 t2
  rw [loQ_two (by omega) t3 (by omega) p1.2.2, hiQ_two (by omega) t3 (by omega) p1.2.2]
  clear h k hz hz'
  have F1 := Lib.hid (fun wx => rFl (p * 1073741824) u wx t3 (by omega) (by omega))
  have F2 := Lib.hid (fun wx => rFl (p * 1073741824) v wx (by omega) (by omega) (by omega))
  have G1 := Lib.hid (fun wx => rCe (q * 1073741824) u wx t3 (by omega) (by omega))
  have G2 := Lib.hid (fun wx => rCe (q * 1073741824) v wx (by omega) (by omega) (by omega))
  obtain ⟨P, hP⟩ : ∃ P, p * 1073741824 = P := ⟨_, rfl⟩
  obtain ⟨Q, hQ⟩ : ∃ Q, q * 1073741824 = Q := ⟨_, rfl⟩
  rw [hP] at F1 F2 ⊢
  rw [hQ] at G1 G2 ⊢
  have e1 := w64_is hP (by omega) (by omega)
  have e2 := w64_is hQ (by omega) (by omega)
  clear hP hQ p1 p2 t1 t2 t3
  generalize P / u = f1 at *
  generalize P / v = f2 at *
  generalize cdiv Q u = g1 at *
  generalize cdiv Q v = g2 at *
  have L := Lib.hid (fun wx => rLe f1 f2 wx)
  have M := Lib.hid (fun wx => rMo g1 g2 wx)
  generalize min f1 f2 = f at *
  generalize max g1 g2 = g at *
  have FF := Lib.hid (fun wx => rFit f g wx)
  generalize fit f g = F at *
  unfold vR at *
  obtain ⟨b0, b1, bf0, bf1, blt⟩ := id B
  go_enter Try.func34, Try.ntmps34
  go_wp2_with fail
  refine (C.out _).mono ?_
  rintro e w1 ⟨rfl, hb⟩
  have A := A.keep hb
  have B := B.keep hb
  have R := R.keep hb
  have HW := Lib.hid (bel3 hb)
  clear hb b0 b1 bf0 bf1 blt
  obtain ⟨a0, a1, af0, af1, alt⟩ := id A
  obtain ⟨b0, b1, bf0, bf1, blt⟩ := id B
  go_wp2_with fail
  refine (CT.out _).mono ?_
  rintro e w2 ⟨rfl, hb⟩
  have A := A.keep hb
  have B := B.keep hb
  have R := R.keep hb
  have HW := Lib.hid (bstep HW.out hb)
  clear hb a0 a1 af0 af1 alt b0 b1 bf0 bf1 blt
  obtain ⟨a0, a1, af0, af1, alt⟩ := id A
  obtain ⟨b0, b1, bf0, bf1, blt⟩ := id B
  have HW := Lib.hid (below_set2 (below_set2 HW.out (Nat.le_refl _) (.int .i64 p) (.int .i64 q)) (show w.heap.size ≤ w.heap.size + 1 by omega) (.int .i64 u) (.int .i64 v))
  have A := (A.put (.int .i64 p) (.int .i64 q)).far (c := w.heap.size + 1) (by omega) (.int .i64 u) (.int .i64 v)
  have B := (B.far (c := w.heap.size) (by omega) (.int .i64 p) (.int .i64 q)).put (.int .i64 u) (.int .i64 v)
  have R := (R.far (c := w.heap.size) (by omega) (.int .i64 p) (.int .i64 q)).far (c := w.heap.size + 1) (by omega) (.int .i64 u) (.int .i64 v)
  go_wp2_with fail
  clear a0 a1 af0 af1 alt b0 b1 bf0 bf1 blt
  generalize (((w2.setCell ⟨w.heap.size, 0, none⟩ (.int .i64 p)).setCell ⟨w.heap.size, 1, none⟩ (.int .i64 q)).setCell ⟨w.heap.size + 1, 0, none⟩ (.int .i64 u)).setCell ⟨w.heap.size + 1, 1, none⟩ (.int .i64 v) = W at *
  obtain ⟨a0, a1, af0, af1, alt⟩ := id A
  obtain ⟨b0, b1, bf0, bf1, blt⟩ := id B
  go_quiet (first
    | (go_at_call 54; first | (with_reducible refine Calls.quiet_of_same (F1.out _)) | (with_reducible refine Calls.quiet_of_same (F2.out _)))
    | (go_at_call 50; with_reducible refine Calls.quiet_of_same (L.out _)))
  have A := A.keep (below_drewN W.heap.size W nq)
  have B := B.keep (below_drewN W.heap.size W nq)
  have R := R.keep (below_drewN W.heap.size W nq)
  have HW := Lib.hid (HW.out.trans (below_drewN w.heap.size W nq))
  clear a0 a1 af0 af1 alt b0 b1 bf0 bf1 blt
  generalize W.drewN nq = V at *
  obtain ⟨a0, a1, af0, af1, alt⟩ := id A
  obtain ⟨b0, b1, bf0, bf1, blt⟩ := id B
  go_wp2_with fail
  go_quiet (first
    | (go_at_call 55; first | (with_reducible refine Calls.quiet_of_same (G1.out _)) | (with_reducible refine Calls.quiet_of_same (G2.out _)))
    | (go_at_call 49; with_reducible refine Calls.quiet_of_same (M.out _)))
  have R := R.keep (below_drewN V.heap.size V nq)
  have HW := Lib.hid (HW.out.trans (below_drewN w.heap.size V nq))
  go_wp2_with fail
  refine (FF.out _).mono ?_
  rintro e w3 ⟨rfl, hb⟩
  have HV := Lib.hid (bstep HW.out hb)
  obtain ⟨r0, r1, rf0, rf1, rlt⟩ := R.keep hb
  obtain ⟨s0, s1⟩ := set2 r0 r1 (.int .i64 F.l) (.int .i64 F.h)
  clear hb
  go_wp2_with fail
  refine bodyPost_ret (v := .tuple #[.agg #[.int .i64 F.l, .int .i64 F.h], .int .i64 F.e]) (by simp [results, Try.results34, go_sem, s0, s1]) rfl ⟨rfl, ?_⟩
  exact below_set2 HV.out (by omega) _ _
theorem rDiv (a b c d : Int) (w : World) (h : fok a b = true) (k : fok c d = true) :
    Calls Try.prog 34 #[.agg #[.int .i64 a, .int .i64 b], .agg #[.int .i64 c, .int .i64 d]] w fun e w' => e = .returned (vR (divR a b c d)) ∧ Below w.heap.size w w' := by
  cases hz : zin c d
  · exact rDiv_some a b c d w h k hz
  · exact rDiv_zero a b c d w hz
end Go.Proofs.Ytdkigfcglfgpoaa
