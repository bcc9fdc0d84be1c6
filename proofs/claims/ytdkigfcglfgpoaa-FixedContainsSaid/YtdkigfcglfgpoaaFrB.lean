/- fixed: contracts of the program's Neg, Add, Sub, Hull, Meet, Inside. -/
import Derived.Test.YtdkigfcglfgpoaaFrA
import Derived.Test.YtdkigfcglfgpoaaFxK
namespace Go.Proofs.Ytdkigfcglfgpoaa
open Go.RowKit
set_option linter.unusedVariables false


theorem pNeg (a b : Int) (w : World) : Calls Try.prog 25 #[.agg #[.int .i64 a, .int .i64 b]] w fun e w' => e = .returned (vR (vF (fok a b) (negR a b))) ∧ Below w.heap.size w w' := by
  obtain ⟨A, R⟩ := At2.two w (.int .i64 a) (.int .i64 b) (.int .i64 0) (.int .i64 0) 23 23
  obtain ⟨a0, a1, af0, af1, alt⟩ := id A
  cases h : fok a b
  · rw [vF_no _ rfl]
    have C1 := Lib.hid (fun wx => pValid_is a b false h wx)
    clear h
    unfold vR
    go_enter Try.func25, Try.ntmps25
    go_wp2_with fail
    refine (C1.out _).mono ?_
    rintro e w1 ⟨rfl, hb⟩
    clear a0 a1 af0 af1 alt
    obtain ⟨r0, r1, rf0, rf1, rlt⟩ := R.keep hb
    obtain ⟨s0, s1⟩ := set2 r0 r1 (.int .i64 0) (.int .i64 0)
    go_wp2_with fail
    refine bodyPost_ret (v := .tuple #[.agg #[.int .i64 (0), .int .i64 (0)], .int .i64 (1)]) (by simp [results, Try.results25, go_sem, s0, s1]) rfl ⟨rfl, ?_⟩
    exact below_set2 (bel2 hb) (by omega) _ _
  · rw [vF_yes _ rfl]
    have C1 := Lib.hid (fun wx => pValid_is a b true h wx)
    obtain ⟨h1, h2, h3⟩ := (fok_iff _ _).1 h
    have C := Lib.hid (fun wx => pFit (-b) (-a) wx (by omega))
    rw [fit_yes (by omega)] at C
    clear h
    unfold vR negR at *
    go_enter Try.func25, Try.ntmps25
    go_wp2_with fail
    refine (C1.out _).mono ?_
    rintro e w1 ⟨rfl, hb⟩
    clear a0 a1 af0 af1 alt
    have R := R.keep hb
    obtain ⟨a0, a1, af0, af1, alt⟩ := A.keep hb
    have HB := Lib.hid (bel2 hb)
    clear hb
    go_wp2_with fail
    refine (C.out _).mono ?_
    rintro e w2 ⟨rfl, hb⟩
    clear a0 a1 af0 af1 alt
    obtain ⟨r0, r1, rf0, rf1, rlt⟩ := R.keep hb
    have HB := Lib.hid (bstep HB.out hb)
    clear hb
    obtain ⟨s0, s1⟩ := set2 r0 r1 (.int .i64 (-b)) (.int .i64 (-a))
    go_wp2_with fail
    refine bodyPost_ret (v := .tuple #[.agg #[.int .i64 (-b), .int .i64 (-a)], .int .i64 (0)]) (by simp [results, Try.results25, go_sem, s0, s1]) rfl ⟨rfl, ?_⟩
    exact below_set2 HB.out (by omega) _ _

theorem pAdd_bad1 (a b c d : Int) (w : World) (h : fok a b = false) :
    Calls Try.prog 23 #[.agg #[.int .i64 a, .int .i64 b], .agg #[.int .i64 c, .int .i64 d]] w fun e w' => e = .returned (vR ⟨0, 0, 1⟩) ∧ Below w.heap.size w w' := by
  obtain ⟨A, B, R⟩ := At2.three w (.int .i64 a) (.int .i64 b) (.int .i64 c) (.int .i64 d) (.int .i64 0) (.int .i64 0) 23 23 23
  have C1 := Lib.hid (fun wx => pValid_is a b false h wx)
  obtain ⟨a0, a1, af0, af1, alt⟩ := id A
  clear h
  unfold vR
  go_enter Try.func23, Try.ntmps23
  go_wp2_with fail
  refine (C1.out _).mono ?_
  rintro e w1 ⟨rfl, hb⟩
  clear a0 a1 af0 af1 alt
  obtain ⟨r0, r1, rf0, rf1, rlt⟩ := R.keep hb
  obtain ⟨s0, s1⟩ := set2 r0 r1 (.int .i64 0) (.int .i64 0)
  go_wp2_with fail
  refine bodyPost_ret (v := .tuple #[.agg #[.int .i64 (0), .int .i64 (0)], .int .i64 (1)]) (by simp [results, Try.results23, go_sem, s0, s1]) rfl ⟨rfl, ?_⟩
  exact below_set2 (bel3 hb) (by omega) _ _
theorem pAdd_bad2 (a b c d : Int) (w : World) (h : fok a b = true) (k : fok c d = false) :
    Calls Try.prog 23 #[.agg #[.int .i64 a, .int .i64 b], .agg #[.int .i64 c, .int .i64 d]] w fun e w' => e = .returned (vR ⟨0, 0, 1⟩) ∧ Below w.heap.size w w' := by
  obtain ⟨A, B, R⟩ := At2.three w (.int .i64 a) (.int .i64 b) (.int .i64 c) (.int .i64 d) (.int .i64 0) (.int .i64 0) 23 23 23
  have C1 := Lib.hid (fun wx => pValid_is a b true h wx)
  have C2 := Lib.hid (fun wx => pValid_is c d false k wx)
  obtain ⟨a0, a1, af0, af1, alt⟩ := id A
  clear h k
  unfold vR
  go_enter Try.func23, Try.ntmps23
  go_wp2_with fail
  refine (C1.out _).mono ?_
  rintro e w1 ⟨rfl, hb⟩
  have B := B.keep hb
  have R := R.keep hb
  have HB := Lib.hid (bel3 hb)
  clear hb a0 a1 af0 af1 alt
  obtain ⟨b0, b1, bf0, bf1, blt⟩ := id B
  go_wp2_with fail
  refine (C2.out _).mono ?_
  rintro e w2 ⟨rfl, hb⟩
  clear b0 b1 bf0 bf1 blt
  have R := R.keep hb
  have HB := Lib.hid (bstep HB.out hb)
  clear hb
  obtain ⟨r0, r1, rf0, rf1, rlt⟩ := id R
  obtain ⟨s0, s1⟩ := set2 r0 r1 (.int .i64 0) (.int .i64 0)
  go_wp2_with fail
  refine bodyPost_ret (v := .tuple #[.agg #[.int .i64 (0), .int .i64 (0)], .int .i64 (1)]) (by simp [results, Try.results23, go_sem, s0, s1]) rfl ⟨rfl, ?_⟩
  exact below_set2 HB.out (by omega) _ _

theorem pAdd_ok (a b c d : Int) (w : World) (h : fok a b = true) (k : fok c d = true) :
    Calls Try.prog 23 #[.agg #[.int .i64 a, .int .i64 b], .agg #[.int .i64 c, .int .i64 d]] w fun e w' => e = .returned (vR (addR a b c d)) ∧ Below w.heap.size w w' := by
  obtain ⟨A, B, R⟩ := At2.three w (.int .i64 a) (.int .i64 b) (.int .i64 c) (.int .i64 d) (.int .i64 0) (.int .i64 0) 23 23 23
  have C1 := Lib.hid (fun wx => pValid_is a b true h wx)
  have C2 := Lib.hid (fun wx => pValid_is c d true k wx)
  obtain ⟨h1, h2, h3⟩ := (fok_iff _ _).1 h
  obtain ⟨k1, k2, k3⟩ := (fok_iff _ _).1 k
  obtain ⟨a0, a1, af0, af1, alt⟩ := id A
  have C := Lib.hid (fun wx => pFit (a + c) (b + d) wx (by omega))
  have hF : addR a b c d = fit (a + c) (b + d) := rfl
  obtain ⟨F, hG⟩ : ∃ F, fit (a + c) (b + d) = F := ⟨_, rfl⟩
  rw [hF, hG]
  rw [hG] at C
  clear h k hF hG
  unfold vR at *
  go_enter Try.func23, Try.ntmps23
  go_wp2_with fail
  refine (C1.out _).mono ?_
  rintro e w1 ⟨rfl, hb⟩
  have A := A.keep hb
  have B := B.keep hb
  have R := R.keep hb
  have HB := Lib.hid (bel3 hb)
  clear hb a0 a1 af0 af1 alt
  obtain ⟨b0, b1, bf0, bf1, blt⟩ := id B
  go_wp2_with fail
  refine (C2.out _).mono ?_
  rintro e w2 ⟨rfl, hb⟩
  clear b0 b1 bf0 bf1 blt
  have R := R.keep hb
  obtain ⟨a0, a1, af0, af1, alt⟩ := A.keep hb
  obtain ⟨b0, b1, bf0, bf1, blt⟩ := B.keep hb
  have HB := Lib.hid (bstep HB.out hb)
  clear hb A B
  go_wp2_with fail
  refine (C.out _).mono ?_
  rintro e w3 ⟨rfl, hb⟩
  clear a0 a1 af0 af1 alt b0 b1 bf0 bf1 blt
  have R := R.keep hb
  have HB := Lib.hid (bstep HB.out hb)
  clear hb
  obtain ⟨r0, r1, rf0, rf1, rlt⟩ := id R
  obtain ⟨s0, s1⟩ := set2 r0 r1 (.int .i64 F.l) (.int .i64 F.h)
  go_wp2_with fail
  refine bodyPost_ret (v := .tuple #[.agg #[.int .i64 (F.l), .int .i64 (F.h)], .int .i64 (F.e)]) (by simp [results, Try.results23, go_sem, s0, s1]) rfl ⟨rfl, ?_⟩
  exact below_set2 HB.out (by omega) _ _

theorem pAdd (a b c d : Int) (w : World) : Calls Try.prog 23 #[.agg #[.int .i64 a, .int .i64 b], .agg #[.int .i64 c, .int .i64 d]] w fun e w' => e = .returned (vR (vF (fok a b && fok c d) (addR a b c d))) ∧ Below w.heap.size w w' := by
  cases h : fok a b
  · rw [Bool.false_and, vF_no _ rfl]; exact pAdd_bad1 a b c d w h
  · cases k : fok c d
    · rw [Bool.true_and, vF_no _ rfl]; exact pAdd_bad2 a b c d w h k
    · rw [Bool.true_and, vF_yes _ rfl]; exact pAdd_ok a b c d w h k

theorem pSub_bad1 (a b c d : Int) (w : World) (h : fok a b = false) :
    Calls Try.prog 24 #[.agg #[.int .i64 a, .int .i64 b], .agg #[.int .i64 c, .int .i64 d]] w fun e w' => e = .returned (vR ⟨0, 0, 1⟩) ∧ Below w.heap.size w w' := by
  obtain ⟨A, B, R⟩ := At2.three w (.int .i64 a) (.int .i64 b) (.int .i64 c) (.int .i64 d) (.int .i64 0) (.int .i64 0) 23 23 23
  have C1 := Lib.hid (fun wx => pValid_is a b false h wx)
  obtain ⟨a0, a1, af0, af1, alt⟩ := id A
  clear h
  unfold vR
  go_enter Try.func24, Try.ntmps24
  go_wp2_with fail
  refine (C1.out _).mono ?_
  rintro e w1 ⟨rfl, hb⟩
  clear a0 a1 af0 af1 alt
  obtain ⟨r0, r1, rf0, rf1, rlt⟩ := R.keep hb
  obtain ⟨s0, s1⟩ := set2 r0 r1 (.int .i64 0) (.int .i64 0)
  go_wp2_with fail
  refine bodyPost_ret (v := .tuple #[.agg #[.int .i64 (0), .int .i64 (0)], .int .i64 (1)]) (by simp [results, Try.results24, go_sem, s0, s1]) rfl ⟨rfl, ?_⟩
  exact below_set2 (bel3 hb) (by omega) _ _
theorem pSub_bad2 (a b c d : Int) (w : World) (h : fok a b = true) (k : fok c d = false) :
    Calls Try.prog 24 #[.agg #[.int .i64 a, .int .i64 b], .agg #[.int .i64 c, .int .i64 d]] w fun e w' => e = .returned (vR ⟨0, 0, 1⟩) ∧ Below w.heap.size w w' := by
  obtain ⟨A, B, R⟩ := At2.three w (.int .i64 a) (.int .i64 b) (.int .i64 c) (.int .i64 d) (.int .i64 0) (.int .i64 0) 23 23 23
  have C1 := Lib.hid (fun wx => pValid_is a b true h wx)
  have C2 := Lib.hid (fun wx => pValid_is c d false k wx)
  obtain ⟨a0, a1, af0, af1, alt⟩ := id A
  clear h k
  unfold vR
  go_enter Try.func24, Try.ntmps24
  go_wp2_with fail
  refine (C1.out _).mono ?_
  rintro e w1 ⟨rfl, hb⟩
  have B := B.keep hb
  have R := R.keep hb
  have HB := Lib.hid (bel3 hb)
  clear hb a0 a1 af0 af1 alt
  obtain ⟨b0, b1, bf0, bf1, blt⟩ := id B
  go_wp2_with fail
  refine (C2.out _).mono ?_
  rintro e w2 ⟨rfl, hb⟩
  clear b0 b1 bf0 bf1 blt
  have R := R.keep hb
  have HB := Lib.hid (bstep HB.out hb)
  clear hb
  obtain ⟨r0, r1, rf0, rf1, rlt⟩ := id R
  obtain ⟨s0, s1⟩ := set2 r0 r1 (.int .i64 0) (.int .i64 0)
  go_wp2_with fail
  refine bodyPost_ret (v := .tuple #[.agg #[.int .i64 (0), .int .i64 (0)], .int .i64 (1)]) (by simp [results, Try.results24, go_sem, s0, s1]) rfl ⟨rfl, ?_⟩
  exact below_set2 HB.out (by omega) _ _

theorem pSub_ok (a b c d : Int) (w : World) (h : fok a b = true) (k : fok c d = true) :
    Calls Try.prog 24 #[.agg #[.int .i64 a, .int .i64 b], .agg #[.int .i64 c, .int .i64 d]] w fun e w' => e = .returned (vR (subR a b c d)) ∧ Below w.heap.size w w' := by
  obtain ⟨A, B, R⟩ := At2.three w (.int .i64 a) (.int .i64 b) (.int .i64 c) (.int .i64 d) (.int .i64 0) (.int .i64 0) 23 23 23
  have C1 := Lib.hid (fun wx => pValid_is a b true h wx)
  have C2 := Lib.hid (fun wx => pValid_is c d true k wx)
  obtain ⟨h1, h2, h3⟩ := (fok_iff _ _).1 h
  obtain ⟨k1, k2, k3⟩ := (fok_iff _ _).1 k
  obtain ⟨a0, a1, af0, af1, alt⟩ := id A
  have C := Lib.hid (fun wx => pFit (a - d) (b - c) wx (by omega))
  have hF : subR a b c d = fit (a - d) (b - c) := rfl
  obtain ⟨F, hG⟩ : ∃ F, fit (a - d) (b - c) = F := ⟨_, rfl⟩
  rw [hF, hG]
  rw [hG] at C
  clear h k hF hG
  unfold vR at *
  go_enter Try.func24, Try.ntmps24
  go_wp2_with fail
  refine (C1.out _).mono ?_
  rintro e w1 ⟨rfl, hb⟩
  have A := A.keep hb
  have B := B.keep hb
  have R := R.keep hb
  have HB := Lib.hid (bel3 hb)
  clear hb a0 a1 af0 af1 alt
  obtain ⟨b0, b1, bf0, bf1, blt⟩ := id B
  go_wp2_with fail
  refine (C2.out _).mono ?_
  rintro e w2 ⟨rfl, hb⟩
  clear b0 b1 bf0 bf1 blt
  have R := R.keep hb
  obtain ⟨a0, a1, af0, af1, alt⟩ := A.keep hb
  obtain ⟨b0, b1, bf0, bf1, blt⟩ := B.keep hb
  have HB := Lib.hid (bstep HB.out hb)
  clear hb A B
  go_wp2_with fail
  refine (C.out _).mono ?_
  rintro e w3 ⟨rfl, hb⟩
  clear a0 a1 af0 af1 alt b0 b1 bf0 bf1 blt
  have R := R.keep hb
  have HB := Lib.hid (bstep HB.out hb)
  clear hb
  obtain ⟨r0, r1, rf0, rf1, rlt⟩ := id R
  obtain ⟨s0, s1⟩ := set2 r0 r1 (.int .i64 F.l) (.int .i64 F.h)
  go_wp2_with fail
  refine bodyPost_ret (v := .tuple #[.agg #[.int .i64 (F.l), .int .i64 (F.h)], .int .i64 (F.e)]) (by simp [results, Try.results24, go_sem, s0, s1]) rfl ⟨rfl, ?_⟩
  exact below_set2 HB.out (by omega) _ _

theorem pSub (a b c d : Int) (w : World) : Calls Try.prog 24 #[.agg #[.int .i64 a, .int .i64 b], .agg #[.int .i64 c, .int .i64 d]] w fun e w' => e = .returned (vR (vF (fok a b && fok c d) (subR a b c d))) ∧ Below w.heap.size w w' := by
  cases h : fok a b
  · rw [Bool.false_and, vF_no _ rfl]; exact pSub_bad1 a b c d w h
  · cases k : fok c d
    · rw [Bool.true_and, vF_no _ rfl]; exact pSub_bad2 a b c d w h k
    · rw [Bool.true_and, vF_yes _ rfl]; exact pSub_ok a b c d w h k

theorem pHull_bad1 (a b c d : Int) (w : World) (h : fok a b = false) :
    Calls Try.prog 19 #[.agg #[.int .i64 a, .int .i64 b], .agg #[.int .i64 c, .int .i64 d]] w fun e w' => e = .returned (vR ⟨0, 0, 1⟩) ∧ Below w.heap.size w w' := by
  obtain ⟨A, B, R⟩ := At2.three w (.int .i64 a) (.int .i64 b) (.int .i64 c) (.int .i64 d) (.int .i64 0) (.int .i64 0) 23 23 23
  have C1 := Lib.hid (fun wx => pValid_is a b false h wx)
  obtain ⟨a0, a1, af0, af1, alt⟩ := id A
  clear h
  unfold vR
  go_enter Try.func19, Try.ntmps19
  go_wp2_with fail
  refine (C1.out _).mono ?_
  rintro e w1 ⟨rfl, hb⟩
  clear a0 a1 af0 af1 alt
  obtain ⟨r0, r1, rf0, rf1, rlt⟩ := R.keep hb
  obtain ⟨s0, s1⟩ := set2 r0 r1 (.int .i64 0) (.int .i64 0)
  go_wp2_with fail
  refine bodyPost_ret (v := .tuple #[.agg #[.int .i64 (0), .int .i64 (0)], .int .i64 (1)]) (by simp [results, Try.results19, go_sem, s0, s1]) rfl ⟨rfl, ?_⟩
  exact below_set2 (bel3 hb) (by omega) _ _
theorem pHull_bad2 (a b c d : Int) (w : World) (h : fok a b = true) (k : fok c d = false) :
    Calls Try.prog 19 #[.agg #[.int .i64 a, .int .i64 b], .agg #[.int .i64 c, .int .i64 d]] w fun e w' => e = .returned (vR ⟨0, 0, 1⟩) ∧ Below w.heap.size w w' := by
  obtain ⟨A, B, R⟩ := At2.three w (.int .i64 a) (.int .i64 b) (.int .i64 c) (.int .i64 d) (.int .i64 0) (.int .i64 0) 23 23 23
  have C1 := Lib.hid (fun wx => pValid_is a b true h wx)
  have C2 := Lib.hid (fun wx => pValid_is c d false k wx)
  obtain ⟨a0, a1, af0, af1, alt⟩ := id A
  clear h k
  unfold vR
  go_enter Try.func19, Try.ntmps19
  go_wp2_with fail
  refine (C1.out _).mono ?_
  rintro e w1 ⟨rfl, hb⟩
  have B := B.keep hb
  have R := R.keep hb
  have HB := Lib.hid (bel3 hb)
  clear hb a0 a1 af0 af1 alt
  obtain ⟨b0, b1, bf0, bf1, blt⟩ := id B
  go_wp2_with fail
  refine (C2.out _).mono ?_
  rintro e w2 ⟨rfl, hb⟩
  clear b0 b1 bf0 bf1 blt
  have R := R.keep hb
  have HB := Lib.hid (bstep HB.out hb)
  clear hb
  obtain ⟨r0, r1, rf0, rf1, rlt⟩ := id R
  obtain ⟨s0, s1⟩ := set2 r0 r1 (.int .i64 0) (.int .i64 0)
  go_wp2_with fail
  refine bodyPost_ret (v := .tuple #[.agg #[.int .i64 (0), .int .i64 (0)], .int .i64 (1)]) (by simp [results, Try.results19, go_sem, s0, s1]) rfl ⟨rfl, ?_⟩
  exact below_set2 HB.out (by omega) _ _

theorem pHull_ok (a b c d : Int) (w : World) (h : fok a b = true) (k : fok c d = true) :
    Calls Try.prog 19 #[.agg #[.int .i64 a, .int .i64 b], .agg #[.int .i64 c, .int .i64 d]] w fun e w' => e = .returned (vR (hullR a b c d)) ∧ Below w.heap.size w w' := by
  obtain ⟨A, B, R⟩ := At2.three w (.int .i64 a) (.int .i64 b) (.int .i64 c) (.int .i64 d) (.int .i64 0) (.int .i64 0) 23 23 23
  have C1 := Lib.hid (fun wx => pValid_is a b true h wx)
  have C2 := Lib.hid (fun wx => pValid_is c d true k wx)
  obtain ⟨h1, h2, h3⟩ := (fok_iff _ _).1 h
  obtain ⟨k1, k2, k3⟩ := (fok_iff _ _).1 k
  obtain ⟨a0, a1, af0, af1, alt⟩ := id A
  have C := Lib.hid (fun wx => pFit (min a c) (max b d) wx (by omega))
  have hF : hullR a b c d = fit (min a c) (max b d) := (fit_yes (by omega)).symm
  obtain ⟨F, hG⟩ : ∃ F, fit (min a c) (max b d) = F := ⟨_, rfl⟩
  rw [hF, hG]
  rw [hG] at C
  clear h k hF hG
  unfold vR at *
  go_enter Try.func19, Try.ntmps19
  go_wp2_with fail
  refine (C1.out _).mono ?_
  rintro e w1 ⟨rfl, hb⟩
  have A := A.keep hb
  have B := B.keep hb
  have R := R.keep hb
  have HB := Lib.hid (bel3 hb)
  clear hb a0 a1 af0 af1 alt
  obtain ⟨b0, b1, bf0, bf1, blt⟩ := id B
  go_wp2_with fail
  refine (C2.out _).mono ?_
  rintro e w2 ⟨rfl, hb⟩
  clear b0 b1 bf0 bf1 blt
  have R := R.keep hb
  obtain ⟨a0, a1, af0, af1, alt⟩ := A.keep hb
  obtain ⟨b0, b1, bf0, bf1, blt⟩ := B.keep hb
  have HB := Lib.hid (bstep HB.out hb)
  clear hb A B
  go_wp2_with fail
  refine (C.out _).mono ?_
  rintro e w3 ⟨rfl, hb⟩
  clear a0 a1 af0 af1 alt b0 b1 bf0 bf1 blt
  have R := R.keep hb
  have HB := Lib.hid (bstep HB.out hb)
  clear hb
  obtain ⟨r0, r1, rf0, rf1, rlt⟩ := id R
  obtain ⟨s0, s1⟩ := set2 r0 r1 (.int .i64 F.l) (.int .i64 F.h)
  go_wp2_with fail
  refine bodyPost_ret (v := .tuple #[.agg #[.int .i64 (F.l), .int .i64 (F.h)], .int .i64 (F.e)]) (by simp [results, Try.results19, go_sem, s0, s1]) rfl ⟨rfl, ?_⟩
  exact below_set2 HB.out (by omega) _ _

theorem pHull (a b c d : Int) (w : World) : Calls Try.prog 19 #[.agg #[.int .i64 a, .int .i64 b], .agg #[.int .i64 c, .int .i64 d]] w fun e w' => e = .returned (vR (vF (fok a b && fok c d) (hullR a b c d))) ∧ Below w.heap.size w w' := by
  cases h : fok a b
  · rw [Bool.false_and, vF_no _ rfl]; exact pHull_bad1 a b c d w h
  · cases k : fok c d
    · rw [Bool.true_and, vF_no _ rfl]; exact pHull_bad2 a b c d w h k
    · rw [Bool.true_and, vF_yes _ rfl]; exact pHull_ok a b c d w h k

theorem pMeet_bad1 (a b c d : Int) (w : World) (h : fok a b = false) :
    Calls Try.prog 20 #[.agg #[.int .i64 a, .int .i64 b], .agg #[.int .i64 c, .int .i64 d]] w fun e w' => e = .returned (vR ⟨0, 0, 1⟩) ∧ Below w.heap.size w w' := by
  obtain ⟨A, B, R⟩ := At2.three w (.int .i64 a) (.int .i64 b) (.int .i64 c) (.int .i64 d) (.int .i64 0) (.int .i64 0) 23 23 23
  have C1 := Lib.hid (fun wx => pValid_is a b false h wx)
  obtain ⟨a0, a1, af0, af1, alt⟩ := id A
  clear h
  unfold vR
  go_enter Try.func20, Try.ntmps20
  go_wp2_with fail
  refine (C1.out _).mono ?_
  rintro e w1 ⟨rfl, hb⟩
  clear a0 a1 af0 af1 alt
  obtain ⟨r0, r1, rf0, rf1, rlt⟩ := R.keep hb
  obtain ⟨s0, s1⟩ := set2 r0 r1 (.int .i64 0) (.int .i64 0)
  go_wp2_with fail
  refine bodyPost_ret (v := .tuple #[.agg #[.int .i64 (0), .int .i64 (0)], .int .i64 (1)]) (by simp [results, Try.results20, go_sem, s0, s1]) rfl ⟨rfl, ?_⟩
  exact below_set2 (bel3 hb) (by omega) _ _
theorem pMeet_bad2 (a b c d : Int) (w : World) (h : fok a b = true) (k : fok c d = false) :
    Calls Try.prog 20 #[.agg #[.int .i64 a, .int .i64 b], .agg #[.int .i64 c, .int .i64 d]] w fun e w' => e = .returned (vR ⟨0, 0, 1⟩) ∧ Below w.heap.size w w' := by
  obtain ⟨A, B, R⟩ := At2.three w (.int .i64 a) (.int .i64 b) (.int .i64 c) (.int .i64 d) (.int .i64 0) (.int .i64 0) 23 23 23
  have C1 := Lib.hid (fun wx => pValid_is a b true h wx)
  have C2 := Lib.hid (fun wx => pValid_is c d false k wx)
  obtain ⟨a0, a1, af0, af1, alt⟩ := id A
  clear h k
  unfold vR
  go_enter Try.func20, Try.ntmps20
  go_wp2_with fail
  refine (C1.out _).mono ?_
  rintro e w1 ⟨rfl, hb⟩
  have B := B.keep hb
  have R := R.keep hb
  have HB := Lib.hid (bel3 hb)
  clear hb a0 a1 af0 af1 alt
  obtain ⟨b0, b1, bf0, bf1, blt⟩ := id B
  go_wp2_with fail
  refine (C2.out _).mono ?_
  rintro e w2 ⟨rfl, hb⟩
  clear b0 b1 bf0 bf1 blt
  have R := R.keep hb
  have HB := Lib.hid (bstep HB.out hb)
  clear hb
  obtain ⟨r0, r1, rf0, rf1, rlt⟩ := id R
  obtain ⟨s0, s1⟩ := set2 r0 r1 (.int .i64 0) (.int .i64 0)
  go_wp2_with fail
  refine bodyPost_ret (v := .tuple #[.agg #[.int .i64 (0), .int .i64 (0)], .int .i64 (1)]) (by simp [results, Try.results20, go_sem, s0, s1]) rfl ⟨rfl, ?_⟩
  exact below_set2 HB.out (by omega) _ _

set_option maxHeartbeats 1000000 in
theorem pMeet_ok (a b c d : Int) (w : World) (h : fok a b = true) (k : fok c d = true) :
    Calls Try.prog 20 #[.agg #[.int .i64 a, .int .i64 b], .agg #[.int .i64 c, .int .i64 d]] w fun e w' => e = .returned (vR (meetR a b c d)) ∧ Below w.heap.size w w' := by
  obtain ⟨A, B, R⟩ := At2.three w (.int .i64 a) (.int .i64 b) (.int .i64 c) (.int .i64 d) (.int .i64 0) (.int .i64 0) 23 23 23
  have C1 := Lib.hid (fun wx => pValid_is a b true h wx)
  have C2 := Lib.hid (fun wx => pValid_is c d true k wx)
  obtain ⟨h1, h2, h3⟩ := (fok_iff _ _).1 h
  obtain ⟨k1, k2, k3⟩ := (fok_iff _ _).1 k
  obtain ⟨a0, a1, af0, af1, alt⟩ := id A
  clear h k
  by_cases hc : max a c > min b d
  · rw [show meetR a b c d = ⟨0, 0, 23⟩ from if_pos hc]
    unfold vR
    clear h1 h2 h3 k1 k2 k3
    go_enter Try.func20, Try.ntmps20
    go_wp2_with fail
    refine (C1.out _).mono ?_
    rintro e w1 ⟨rfl, hb⟩
    have A := A.keep hb
    have B := B.keep hb
    have R := R.keep hb
    have HB := Lib.hid (bel3 hb)
    clear hb a0 a1 af0 af1 alt
    obtain ⟨b0, b1, bf0, bf1, blt⟩ := id B
    go_wp2_with fail
    refine (C2.out _).mono ?_
    rintro e w2 ⟨rfl, hb⟩
    clear b0 b1 bf0 bf1 blt
    have R := R.keep hb
    obtain ⟨a0, a1, af0, af1, alt⟩ := A.keep hb
    obtain ⟨b0, b1, bf0, bf1, blt⟩ := B.keep hb
    have HB := Lib.hid (bstep HB.out hb)
    clear hb A B
    go_upto_region 3 with fail
    go_region
    clear a0 a1 af0 af1 alt b0 b1 bf0 bf1 blt
    obtain ⟨r0, r1, rf0, rf1, rlt⟩ := id R
    obtain ⟨s0, s1⟩ := set2 r0 r1 (.int .i64 0) (.int .i64 0)
    go_wp2_with fail
    refine bodyPost_ret (v := .tuple #[.agg #[.int .i64 (0), .int .i64 (0)], .int .i64 (23)]) (by simp [results, Try.results20, go_sem, s0, s1]) rfl ⟨rfl, ?_⟩
    exact below_set2 HB.out.drew (by omega) _ _
  · rw [show meetR a b c d = ⟨max a c, min b d, 0⟩ from if_neg hc]
    have C := Lib.hid (fun wx => pFit (max a c) (min b d) wx (by omega))
    rw [fit_yes (by omega)] at C
    unfold vR at *
    clear h1 h2 h3 k1 k2 k3
    go_enter Try.func20, Try.ntmps20
    go_wp2_with fail
    refine (C1.out _).mono ?_
    rintro e w1 ⟨rfl, hb⟩
    have A := A.keep hb
    have B := B.keep hb
    have R := R.keep hb
    have HB := Lib.hid (bel3 hb)
    clear hb a0 a1 af0 af1 alt
    obtain ⟨b0, b1, bf0, bf1, blt⟩ := id B
    go_wp2_with fail
    refine (C2.out _).mono ?_
    rintro e w2 ⟨rfl, hb⟩
    clear b0 b1 bf0 bf1 blt
    have R := R.keep hb
    obtain ⟨a0, a1, af0, af1, alt⟩ := A.keep hb
    obtain ⟨b0, b1, bf0, bf1, blt⟩ := B.keep hb
    have HB := Lib.hid (bstep HB.out hb)
    clear hb A B
    go_upto_region 3 with fail
    go_region
    clear a0 a1 af0 af1 alt b0 b1 bf0 bf1 blt
    go_wp2_with fail
    refine (C.out _).mono ?_
    rintro e w3 ⟨rfl, hb⟩
    have HB := Lib.hid (bstep HB.out.drew hb)
    obtain ⟨r0, r1, rf0, rf1, rlt⟩ := (R.keep (Below.refl _ _).drew).keep hb
    clear hb
    obtain ⟨s0, s1⟩ := set2 r0 r1 (.int .i64 (max a c)) (.int .i64 (min b d))
    go_wp2_with fail
    refine bodyPost_ret (v := .tuple #[.agg #[.int .i64 (max a c), .int .i64 (min b d)], .int .i64 (0)]) (by simp [results, Try.results20, go_sem, s0, s1]) rfl ⟨rfl, ?_⟩
    exact below_set2 HB.out (by omega) _ _

theorem pMeet (a b c d : Int) (w : World) : Calls Try.prog 20 #[.agg #[.int .i64 a, .int .i64 b], .agg #[.int .i64 c, .int .i64 d]] w fun e w' => e = .returned (vR (vF (fok a b && fok c d) (meetR a b c d))) ∧ Below w.heap.size w w' := by
  cases h : fok a b
  · rw [Bool.false_and, vF_no _ rfl]; exact pMeet_bad1 a b c d w h
  · cases k : fok c d
    · rw [Bool.true_and, vF_no _ rfl]; exact pMeet_bad2 a b c d w h k
    · rw [Bool.true_and, vF_yes _ rfl]; exact pMeet_ok a b c d w h k
set_option maxHeartbeats 1000000 in
theorem pInside (a b c d : Int) (w : World) :
    Calls Try.prog 17 #[.agg #[.int .i64 a, .int .i64 b], .agg #[.int .i64 c, .int .i64 d]] w fun e w' => e = .returned (.bool (insideR a b c d)) ∧ Below w.heap.size w w' := by
  obtain ⟨A, B⟩ := At2.two w (.int .i64 a) (.int .i64 b) (.int .i64 c) (.int .i64 d) 23 23
  have C1 := Lib.hid (fun wx => pValid a b wx)
  have C2 := Lib.hid (fun wx => pValid c d wx)
  obtain ⟨r, hr⟩ : ∃ r, r = insideR a b c d := ⟨_, rfl⟩
  rw [← hr]
  unfold insideR at hr
  generalize fok a b = va at *
  generalize fok c d = vc at *
  obtain ⟨a0, a1, af0, af1, alt⟩ := id A
  cases va
  · obtain rfl : r = false := by rw [hr]; rfl
    clear hr
    go_enter Try.func17, Try.ntmps17
    go_wp2_with fail
    refine (C1.out _).mono ?_
    rintro e w1 ⟨rfl, hb⟩
    have HB := Lib.hid (bel2 hb)
    clear hb
    go_wp2_with fail
    go_ret
    exact ⟨rfl, HB.out⟩
  · cases vc
    · obtain rfl : r = false := by rw [hr]; rfl
      clear hr
      go_enter Try.func17, Try.ntmps17
      go_wp2_with fail
      refine (C1.out _).mono ?_
      rintro e w1 ⟨rfl, hb⟩
      obtain ⟨b0, b1, bf0, bf1, blt⟩ := B.keep hb
      have HB := Lib.hid (bel2 hb)
      clear hb
      go_wp2_with fail
      refine (C2.out _).mono ?_
      rintro e w2 ⟨rfl, hb⟩
      have HB := Lib.hid (bstep HB.out hb)
      clear hb
      go_wp2_with fail
      go_ret
      exact ⟨rfl, HB.out⟩
    · by_cases k1 : c ≤ a
      · by_cases k2 : b ≤ d
        · obtain rfl : r = true := by rw [hr]; simp [k1, k2]
          clear hr
          go_enter Try.func17, Try.ntmps17
          go_wp2_with fail
          refine (C1.out _).mono ?_
          rintro e w1 ⟨rfl, hb⟩
          have A := A.keep hb
          have B := B.keep hb
          obtain ⟨b0, b1, bf0, bf1, blt⟩ := id B
          have HB := Lib.hid (bel2 hb)
          clear hb a0 a1 af0 af1 alt
          go_wp2_with fail
          refine (C2.out _).mono ?_
          rintro e w2 ⟨rfl, hb⟩
          obtain ⟨a0, a1, af0, af1, alt⟩ := A.keep hb
          clear b0 b1 bf0 bf1 blt
          obtain ⟨b0, b1, bf0, bf1, blt⟩ := B.keep hb
          have HB := Lib.hid (bstep HB.out hb)
          clear hb
          go_wp2_with fail
          go_ret
          exact ⟨rfl, HB.out⟩
        · obtain rfl : r = false := by rw [hr]; simp [k1, k2]
          have t2 : decide (b ≤ d) = false := decide_eq_false k2
          clear hr
          go_enter Try.func17, Try.ntmps17
          go_wp2_with fail
          refine (C1.out _).mono ?_
          rintro e w1 ⟨rfl, hb⟩
          have A := A.keep hb
          have B := B.keep hb
          obtain ⟨b0, b1, bf0, bf1, blt⟩ := id B
          have HB := Lib.hid (bel2 hb)
          clear hb a0 a1 af0 af1 alt
          go_wp2_with fail
          refine (C2.out _).mono ?_
          rintro e w2 ⟨rfl, hb⟩
          obtain ⟨a0, a1, af0, af1, alt⟩ := A.keep hb
          clear b0 b1 bf0 bf1 blt
          obtain ⟨b0, b1, bf0, bf1, blt⟩ := B.keep hb
          have HB := Lib.hid (bstep HB.out hb)
          clear hb
          go_wp2_with fail
          go_ret
          exact ⟨rfl, HB.out⟩
      · obtain rfl : r = false := by rw [hr]; simp [k1]
        clear hr
        go_enter Try.func17, Try.ntmps17
        go_wp2_with fail
        refine (C1.out _).mono ?_
        rintro e w1 ⟨rfl, hb⟩
        have A := A.keep hb
        have B := B.keep hb
        obtain ⟨b0, b1, bf0, bf1, blt⟩ := id B
        have HB := Lib.hid (bel2 hb)
        clear hb a0 a1 af0 af1 alt
        go_wp2_with fail
        refine (C2.out _).mono ?_
        rintro e w2 ⟨rfl, hb⟩
        obtain ⟨a0, a1, af0, af1, alt⟩ := A.keep hb
        clear b0 b1 bf0 bf1 blt
        obtain ⟨b0, b1, bf0, bf1, blt⟩ := B.keep hb
        have HB := Lib.hid (bstep HB.out hb)
        clear hb
        go_wp2_with fail
        go_ret
        exact ⟨rfl, HB.out⟩

end Go.Proofs.Ytdkigfcglfgpoaa
