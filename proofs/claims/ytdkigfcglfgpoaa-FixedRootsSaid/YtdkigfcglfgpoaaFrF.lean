/- fixed: contracts of the program's Make, Div, Scale, Quotient. -/
import Derived.Test.YtdkigfcglfgpoaaFrE
import Derived.Test.YtdkigfcglfgpoaaFrB
namespace Go.Proofs.Ytdkigfcglfgpoaa
open Go.RowKit
set_option linter.unusedVariables false


theorem pDiv_bad1 (a b c d : Int) (w : World) (h : fok a b = false) :
    Calls Try.prog 31 #[.agg #[.int .i64 a, .int .i64 b], .agg #[.int .i64 c, .int .i64 d]] w fun e w' => e = .returned (vR ⟨0, 0, 1⟩) ∧ Below w.heap.size w w' := by
  obtain ⟨A, B, R⟩ := At2.three w (.int .i64 a) (.int .i64 b) (.int .i64 c) (.int .i64 d) (.int .i64 0) (.int .i64 0) 23 23 23
  have C1 := Lib.hid (fun wx => pValid_is a b false h wx)
  obtain ⟨a0, a1, af0, af1, alt⟩ := id A
  clear h
  unfold vR
  go_enter Try.func31, Try.ntmps31
  go_wp2_with fail
  refine (C1.out _).mono ?_
  rintro e w1 ⟨rfl, hb⟩
  clear a0 a1 af0 af1 alt
  obtain ⟨r0, r1, rf0, rf1, rlt⟩ := R.keep hb
  obtain ⟨s0, s1⟩ := set2 r0 r1 (.int .i64 0) (.int .i64 0)
  go_wp2_with fail
  refine bodyPost_ret (v := .tuple #[.agg #[.int .i64 (0), .int .i64 (0)], .int .i64 (1)]) (by simp [results, Try.results31, go_sem, s0, s1]) rfl ⟨rfl, ?_⟩
  exact below_set2 (bel3 hb) (by omega) _ _
theorem pDiv_bad2 (a b c d : Int) (w : World) (h : fok a b = true) (k : fok c d = false) :
    Calls Try.prog 31 #[.agg #[.int .i64 a, .int .i64 b], .agg #[.int .i64 c, .int .i64 d]] w fun e w' => e = .returned (vR ⟨0, 0, 1⟩) ∧ Below w.heap.size w w' := by
  obtain ⟨A, B, R⟩ := At2.three w (.int .i64 a) (.int .i64 b) (.int .i64 c) (.int .i64 d) (.int .i64 0) (.int .i64 0) 23 23 23
  have C1 := Lib.hid (fun wx => pValid_is a b true h wx)
  have C2 := Lib.hid (fun wx => pValid_is c d false k wx)
  obtain ⟨a0, a1, af0, af1, alt⟩ := id A
  clear h k
  unfold vR
  go_enter Try.func31, Try.ntmps31
  go_wp2_with fail
  refine (C1.out _).mono ?_
  rintro e w1 ⟨rfl, hb⟩
  have B := B.keep hb
  have R := R.keep hb
  have HB := Lib.hid (bel3 hb)
  clear hb a0 a1 af0 af1 alt
  obtain ⟨b0, b1, bf0, bf1, blt⟩ := id B
  go_wp2_with fail
  refine (C2.out _).mono ?_
  rintro e w2 ⟨rfl, hb⟩
  clear b0 b1 bf0 bf1 blt
  have R := R.keep hb
  have HB := Lib.hid (bstep HB.out hb)
  clear hb
  obtain ⟨r0, r1, rf0, rf1, rlt⟩ := id R
  obtain ⟨s0, s1⟩ := set2 r0 r1 (.int .i64 0) (.int .i64 0)
  go_wp2_with fail
  refine bodyPost_ret (v := .tuple #[.agg #[.int .i64 (0), .int .i64 (0)], .int .i64 (1)]) (by simp [results, Try.results31, go_sem, s0, s1]) rfl ⟨rfl, ?_⟩
  exact below_set2 HB.out (by omega) _ _

theorem pDiv_ok (a b c d : Int) (w : World) (h : fok a b = true) (k : fok c d = true) :
    Calls Try.prog 31 #[.agg #[.int .i64 a, .int .i64 b], .agg #[.int .i64 c, .int .i64 d]] w fun e w' => e = .returned (vR (divR a b c d)) ∧ Below w.heap.size w w' := by
  obtain ⟨A, B, R⟩ := At2.three w (.int .i64 a) (.int .i64 b) (.int .i64 c) (.int .i64 d) (.int .i64 0) (.int .i64 0) 23 23 23
  have C1 := Lib.hid (fun wx => pValid_is a b true h wx)
  have C2 := Lib.hid (fun wx => pValid_is c d true k wx)
  have p := (fok_iff _ _).1 h
  have q := (fok_iff _ _).1 k
  obtain ⟨a0, a1, af0, af1, alt⟩ := id A
  by_cases hz : c ≤ 0 ∧ 0 ≤ d
  · have CZ := Lib.hid (fun wx => pZero_is c d true (decide_eq_true hz) wx)
    have e0 : divR a b c d = ⟨0, 0, 16⟩ := if_pos hz
    rw [e0]
    clear h k p q hz e0
    unfold vR
    go_enter Try.func31, Try.ntmps31
    go_wp2_with fail
    refine (C1.out _).mono ?_
    rintro e w1 ⟨rfl, hb⟩
    have A := A.keep hb
    have B := B.keep hb
    have R := R.keep hb
    have HB := Lib.hid (bel3 hb)
    clear hb a0 a1 af0 af1 alt
    obtain ⟨b0, b1, bf0, bf1, blt⟩ := id B
    go_wp2_with fail
    refine (C2.out _).mono ?_
    rintro e w2 ⟨rfl, hb⟩
    clear b0 b1 bf0 bf1 blt
    have A := A.keep hb
    have B := B.keep hb
    have R := R.keep hb
    have HB := Lib.hid (bstep HB.out hb)
    clear hb
    clear A
    obtain ⟨b0, b1, bf0, bf1, blt⟩ := id B
    go_wp2_with fail
    refine (CZ.out _).mono ?_
    rintro e w3 ⟨rfl, hb⟩
    clear b0 b1 bf0 bf1 blt B
    have R := R.keep hb
    have HB := Lib.hid (bstep HB.out hb)
    clear hb
    obtain ⟨r0, r1, rf0, rf1, rlt⟩ := id R
    obtain ⟨s0, s1⟩ := set2 r0 r1 (.int .i64 0) (.int .i64 0)
    go_wp2_with fail
    refine bodyPost_ret (v := .tuple #[.agg #[.int .i64 (0), .int .i64 (0)], .int .i64 (16)]) (by simp [results, Try.results31, go_sem, s0, s1]) rfl ⟨rfl, ?_⟩
    exact below_set2 HB.out (by omega) _ _
  · have CZ := Lib.hid (fun wx => pZero_is c d false (decide_eq_false hz) wx)
    obtain ⟨qe, ql⟩ := quR_div a b c d h k hz
    have CQ := Lib.hid (fun wx => pQuo a b c d 1073741824 wx h ⟨by omega, by omega, by omega⟩ ⟨by omega, by omega, by omega⟩ (by omega))
    have CF := Lib.hid (fun wx => pFit _ _ wx ql)
    have e0 : divR a b c d = fit (loQ (tA a b c) (tB a b c) (tC c d) (tD c d) 1073741824) (hiQ (tA a b c) (tB a b c) (tC c d) (tD c d) 1073741824) := if_neg hz
    rw [qe] at CQ
    rw [e0]
    clear ql qe e0
    generalize loQ (tA a b c) (tB a b c) (tC c d) (tD c d) 1073741824 = lo at *
    generalize hiQ (tA a b c) (tB a b c) (tC c d) (tD c d) 1073741824 = hi at *
    generalize fit lo hi = F at *
    clear h k p q hz
    unfold vR vS at *
    go_enter Try.func31, Try.ntmps31
    go_wp2_with fail
    refine (C1.out _).mono ?_
    rintro e w1 ⟨rfl, hb⟩
    have A := A.keep hb
    have B := B.keep hb
    have R := R.keep hb
    have HB := Lib.hid (bel3 hb)
    clear hb a0 a1 af0 af1 alt
    obtain ⟨b0, b1, bf0, bf1, blt⟩ := id B
    go_wp2_with fail
    refine (C2.out _).mono ?_
    rintro e w2 ⟨rfl, hb⟩
    clear b0 b1 bf0 bf1 blt
    have A := A.keep hb
    have B := B.keep hb
    have R := R.keep hb
    have HB := Lib.hid (bstep HB.out hb)
    clear hb
    obtain ⟨b0, b1, bf0, bf1, blt⟩ := id B
    go_wp2_with fail
    refine (CZ.out _).mono ?_
    rintro e w3 ⟨rfl, hb⟩
    clear b0 b1 bf0 bf1 blt
    have R := R.keep hb
    obtain ⟨a0, a1, af0, af1, alt⟩ := A.keep hb
    obtain ⟨b0, b1, bf0, bf1, blt⟩ := B.keep hb
    have HB := Lib.hid (bstep HB.out hb)
    clear hb A B
    go_wp2_with fail
    refine (CQ.out _).mono ?_
    rintro e w4 ⟨rfl, hb⟩
    clear a0 a1 af0 af1 alt b0 b1 bf0 bf1 blt
    have R := R.keep hb
    have HB := Lib.hid (bstep HB.out hb)
    clear hb
    go_wp2_with fail
    refine (CF.out _).mono ?_
    rintro e w5 ⟨rfl, hb⟩
    have R := R.keep hb
    have HB := Lib.hid (bstep HB.out hb)
    clear hb
    obtain ⟨r0, r1, rf0, rf1, rlt⟩ := id R
    obtain ⟨s0, s1⟩ := set2 r0 r1 (.int .i64 F.l) (.int .i64 F.h)
    go_wp2_with fail
    refine bodyPost_ret (v := .tuple #[.agg #[.int .i64 (F.l), .int .i64 (F.h)], .int .i64 (F.e)]) (by simp [results, Try.results31, go_sem, s0, s1]) rfl ⟨rfl, ?_⟩
    exact below_set2 HB.out (by omega) _ _

theorem pDiv (a b c d : Int) (w : World) : Calls Try.prog 31 #[.agg #[.int .i64 a, .int .i64 b], .agg #[.int .i64 c, .int .i64 d]] w fun e w' => e = .returned (vR (vF (fok a b && fok c d) (divR a b c d))) ∧ Below w.heap.size w w' := by
  cases h : fok a b
  · rw [Bool.false_and, vF_no _ rfl]; exact pDiv_bad1 a b c d w h
  · cases k : fok c d
    · rw [Bool.true_and, vF_no _ rfl]; exact pDiv_bad2 a b c d w h k
    · rw [Bool.true_and, vF_yes _ rfl]; exact pDiv_ok a b c d w h k

theorem pMake (n d : Int) (w : World) (n1 : -9223372036854775808 ≤ n) (n2 : n ≤ 9223372036854775807) (d1 : -9223372036854775808 ≤ d) (d2 : d ≤ 9223372036854775807) :
    Calls Try.prog 12 #[.int .i64 n, .int .i64 d] w fun e w' => e = .returned (vR (makeR n d)) ∧ Below w.heap.size w w' := by
  have R := At2.new w (.int .i64 0) (.int .i64 0) 23
  by_cases h0 : d = 0
  · rw [show makeR n d = ⟨0, 0, 16⟩ from if_pos h0]
    subst h0
    obtain ⟨r0, r1, rf0, rf1, rlt⟩ := id R
    obtain ⟨s0, s1⟩ := set2 r0 r1 (.int .i64 0) (.int .i64 0)
    clear n1 n2 d1 d2
    unfold vR
    go_enter Try.func12, Try.ntmps12
    go_wp2_with fail
    refine bodyPost_ret (v := .tuple #[.agg #[.int .i64 (0), .int .i64 (0)], .int .i64 (16)]) (by simp [results, Try.results12, go_sem]) rfl ⟨rfl, ?_⟩
    exact below1 _ _
  · have t0 : (d == 0) = false := by simp [h0]
    have CD := Lib.hid (fun wx => pDvd n 1073741824 d wx n1 n2 (by omega) (by omega) d1 d2 h0)
    by_cases k : dvO (n * 1073741824) d
    · obtain ⟨e1, hl⟩ := make_yes h0 k
      have CF := Lib.hid (fun wx => pFit _ _ wx hl)
      rw [dvE_of k] at CD
      rw [e1]
      clear e1 k hl h0
      generalize dvL (n * 1073741824) d = lo at *
      generalize dvH (n * 1073741824) d = hi at *
      generalize fit lo hi = F at *
      clear n1 n2 d1 d2
      unfold vR at *
      go_enter Try.func12, Try.ntmps12
      go_wp2_with fail
      refine (CD.out _).mono ?_
      rintro e w1 ⟨rfl, hb⟩
      have R := R.keep hb
      have HB := Lib.hid (bel1 hb)
      clear hb
      go_wp2_with fail
      refine (CF.out _).mono ?_
      rintro e w2 ⟨rfl, hb⟩
      have R := R.keep hb
      have HB := Lib.hid (bstep HB.out hb)
      clear hb
      obtain ⟨r0, r1, rf0, rf1, rlt⟩ := id R
      obtain ⟨s0, s1⟩ := set2 r0 r1 (.int .i64 F.l) (.int .i64 F.h)
      go_wp2_with fail
      refine bodyPost_ret (v := .tuple #[.agg #[.int .i64 (F.l), .int .i64 (F.h)], .int .i64 (F.e)]) (by simp [results, Try.results12, go_sem, s0, s1]) rfl ⟨rfl, ?_⟩
      exact below_set2 HB.out (by omega) _ _
    · rw [make_no h0 k]
      rw [dvE_not k] at CD
      clear k h0
      generalize dvL (n * 1073741824) d = lo at *
      generalize dvH (n * 1073741824) d = hi at *
      clear n1 n2 d1 d2
      unfold vR
      go_enter Try.func12, Try.ntmps12
      go_wp2_with fail
      refine (CD.out _).mono ?_
      rintro e w1 ⟨rfl, hb⟩
      have R := R.keep hb
      have HB := Lib.hid (bel1 hb)
      clear hb
      obtain ⟨r0, r1, rf0, rf1, rlt⟩ := id R
      obtain ⟨s0, s1⟩ := set2 r0 r1 (.int .i64 0) (.int .i64 0)
      go_wp2_with fail
      refine bodyPost_ret (v := .tuple #[.agg #[.int .i64 (0), .int .i64 (0)], .int .i64 (5)]) (by simp [results, Try.results12, go_sem, s0, s1]) rfl ⟨rfl, ?_⟩
      exact below_set2 HB.out (by omega) _ _
theorem pScale (a b n : Int) (w : World) (n1 : -9223372036854775808 ≤ n) (n2 : n ≤ 9223372036854775807) :
    Calls Try.prog 37 #[.agg #[.int .i64 a, .int .i64 b], .int .i64 n] w fun e w' => e = .returned (vS (vF (fok a b) (scaleR a b n))) ∧ Below w.heap.size w w' := by
  have A := At2.new w (.int .i64 a) (.int .i64 b) 23
  obtain ⟨a0, a1, af0, af1, alt⟩ := id A
  cases h : fok a b
  · rw [vF_no _ rfl]
    have C1 := Lib.hid (fun wx => pValid_is a b false h wx)
    clear h n1 n2
    unfold vS
    go_enter Try.func37, Try.ntmps37
    go_wp2_with fail
    refine (C1.out _).mono ?_
    rintro e w1 ⟨rfl, hb⟩
    have HB := Lib.hid (bel1 hb)
    clear hb
    go_wp2_with fail
    refine bodyPost_ret (v := .tuple #[.int .i64 (0), .int .i64 (0), .int .i64 (1)]) (by simp [results, Try.results37, go_sem]) rfl ⟨rfl, HB.out⟩
  · rw [vF_yes _ rfl]
    have C1 := Lib.hid (fun wx => pValid_is a b true h wx)
    cases hn : reach n
    · rw [show scaleR a b n = ⟨0, 0, 2⟩ from if_neg (by rw [hn]; simp)]
      have C2 := Lib.hid (fun wx => pArc_is n false hn wx)
      clear h hn n1 n2
      unfold vS
      go_enter Try.func37, Try.ntmps37
      go_wp2_with fail
      refine (C1.out _).mono ?_
      rintro e w1 ⟨rfl, hb⟩
      have HB := Lib.hid (bel1 hb)
      clear hb a0 a1 af0 af1 alt
      go_wp2_with fail
      refine (C2.out _).mono ?_
      rintro e w2 ⟨rfl, rfl⟩
      go_wp2_with fail
      refine bodyPost_ret (v := .tuple #[.int .i64 (0), .int .i64 (0), .int .i64 (2)]) (by simp [results, Try.results37, go_sem]) rfl ⟨rfl, HB.out⟩
    · have C2 := Lib.hid (fun wx => pArc_is n true hn wx)
      have CQ := Lib.hid (fun wx => pQuo a b 1073741824 1073741824 n wx h ⟨by omega, by omega, by omega⟩ ⟨by omega, by omega, by omega⟩ ((reach_iff _).1 hn))
      rw [quR_scale a b n h hn] at CQ
      generalize scaleR a b n = F at *
      clear h hn n1 n2
      unfold vS at *
      go_enter Try.func37, Try.ntmps37
      go_wp2_with fail
      refine (C1.out _).mono ?_
      rintro e w1 ⟨rfl, hb⟩
      have HB := Lib.hid (bel1 hb)
      clear a0 a1 af0 af1 alt
      obtain ⟨a0, a1, af0, af1, alt⟩ := A.keep hb
      clear hb
      go_wp2_with fail
      refine (C2.out _).mono ?_
      rintro e w2 ⟨rfl, rfl⟩
      go_wp2_with fail
      refine (CQ.out _).mono ?_
      rintro e w3 ⟨rfl, hb⟩
      have HB := Lib.hid (bstep HB.out hb)
      clear hb
      go_wp2_with fail
      refine bodyPost_ret (v := .tuple #[.int .i64 (F.l), .int .i64 (F.h), .int .i64 (F.e)]) (by simp [results, Try.results37, go_sem]) rfl ⟨rfl, HB.out⟩

theorem pQuotient_bad1 (a b c d n : Int) (w : World) (h : fok a b = false) :
    Calls Try.prog 38 #[.agg #[.int .i64 a, .int .i64 b], .agg #[.int .i64 c, .int .i64 d], .int .i64 n] w fun e w' => e = .returned (vS ⟨0, 0, 1⟩) ∧ Below w.heap.size w w' := by
  obtain ⟨A, B⟩ := At2.two w (.int .i64 a) (.int .i64 b) (.int .i64 c) (.int .i64 d) 23 23
  obtain ⟨a0, a1, af0, af1, alt⟩ := id A
  have C1 := Lib.hid (fun wx => pValid_is a b false h wx)
  clear h
  unfold vS
  go_enter Try.func38, Try.ntmps38
  go_wp2_with fail
  refine (C1.out _).mono ?_
  rintro e w1 ⟨rfl, hb⟩
  have HB := Lib.hid (bel2 hb)
  clear hb a0 a1 af0 af1 alt
  go_wp2_with fail
  refine bodyPost_ret (v := .tuple #[.int .i64 (0), .int .i64 (0), .int .i64 (1)]) (by simp [results, Try.results38, go_sem]) rfl ⟨rfl, HB.out⟩
theorem pQuotient_bad2 (a b c d n : Int) (w : World) (h : fok a b = true) (k : fok c d = false) :
    Calls Try.prog 38 #[.agg #[.int .i64 a, .int .i64 b], .agg #[.int .i64 c, .int .i64 d], .int .i64 n] w fun e w' => e = .returned (vS ⟨0, 0, 1⟩) ∧ Below w.heap.size w w' := by
  obtain ⟨A, B⟩ := At2.two w (.int .i64 a) (.int .i64 b) (.int .i64 c) (.int .i64 d) 23 23
  obtain ⟨a0, a1, af0, af1, alt⟩ := id A
  have C1 := Lib.hid (fun wx => pValid_is a b true h wx)
  have C2 := Lib.hid (fun wx => pValid_is c d false k wx)
  clear h k
  unfold vS
  go_enter Try.func38, Try.ntmps38
  go_wp2_with fail
  refine (C1.out _).mono ?_
  rintro e w1 ⟨rfl, hb⟩
  have A := A.keep hb
  have B := B.keep hb
  have HB := Lib.hid (bel2 hb)
  clear hb a0 a1 af0 af1 alt
  obtain ⟨b0, b1, bf0, bf1, blt⟩ := id B
  go_wp2_with fail
  refine (C2.out _).mono ?_
  rintro e w2 ⟨rfl, hb⟩
  clear b0 b1 bf0 bf1 blt
  have A := A.keep hb
  have B := B.keep hb
  have HB := Lib.hid (bstep HB.out hb)
  clear hb
  go_wp2_with fail
  refine bodyPost_ret (v := .tuple #[.int .i64 (0), .int .i64 (0), .int .i64 (1)]) (by simp [results, Try.results38, go_sem]) rfl ⟨rfl, HB.out⟩
theorem pQuotient_arc (a b c d n : Int) (w : World) (h : fok a b = true) (k : fok c d = true) (hn : reach n = false) :
    Calls Try.prog 38 #[.agg #[.int .i64 a, .int .i64 b], .agg #[.int .i64 c, .int .i64 d], .int .i64 n] w fun e w' => e = .returned (vS ⟨0, 0, 2⟩) ∧ Below w.heap.size w w' := by
  obtain ⟨A, B⟩ := At2.two w (.int .i64 a) (.int .i64 b) (.int .i64 c) (.int .i64 d) 23 23
  obtain ⟨a0, a1, af0, af1, alt⟩ := id A
  have C1 := Lib.hid (fun wx => pValid_is a b true h wx)
  have C2 := Lib.hid (fun wx => pValid_is c d true k wx)
  have C3 := Lib.hid (fun wx => pArc_is n false hn wx)
  clear h k hn
  unfold vS
  go_enter Try.func38, Try.ntmps38
  go_wp2_with fail
  refine (C1.out _).mono ?_
  rintro e w1 ⟨rfl, hb⟩
  have A := A.keep hb
  have B := B.keep hb
  have HB := Lib.hid (bel2 hb)
  clear hb a0 a1 af0 af1 alt
  obtain ⟨b0, b1, bf0, bf1, blt⟩ := id B
  go_wp2_with fail
  refine (C2.out _).mono ?_
  rintro e w2 ⟨rfl, hb⟩
  clear b0 b1 bf0 bf1 blt
  have A := A.keep hb
  have B := B.keep hb
  have HB := Lib.hid (bstep HB.out hb)
  clear hb
  go_wp2_with fail
  refine (C3.out _).mono ?_
  rintro e w3 ⟨rfl, rfl⟩
  go_wp2_with fail
  refine bodyPost_ret (v := .tuple #[.int .i64 (0), .int .i64 (0), .int .i64 (2)]) (by simp [results, Try.results38, go_sem]) rfl ⟨rfl, HB.out⟩
theorem pQuotient_zero (a b c d n : Int) (w : World) (h : fok a b = true) (k : fok c d = true) (hn : reach n = true) (hz : zin c d = true) :
    Calls Try.prog 38 #[.agg #[.int .i64 a, .int .i64 b], .agg #[.int .i64 c, .int .i64 d], .int .i64 n] w fun e w' => e = .returned (vS ⟨0, 0, 16⟩) ∧ Below w.heap.size w w' := by
  obtain ⟨A, B⟩ := At2.two w (.int .i64 a) (.int .i64 b) (.int .i64 c) (.int .i64 d) 23 23
  obtain ⟨a0, a1, af0, af1, alt⟩ := id A
  have C1 := Lib.hid (fun wx => pValid_is a b true h wx)
  have C2 := Lib.hid (fun wx => pValid_is c d true k wx)
  have C3 := Lib.hid (fun wx => pArc_is n true hn wx)
  have C4 := Lib.hid (fun wx => pZero_is c d true hz wx)
  clear h k hn hz
  unfold vS
  go_enter Try.func38, Try.ntmps38
  go_wp2_with fail
  refine (C1.out _).mono ?_
  rintro e w1 ⟨rfl, hb⟩
  have A := A.keep hb
  have B := B.keep hb
  have HB := Lib.hid (bel2 hb)
  clear hb a0 a1 af0 af1 alt
  obtain ⟨b0, b1, bf0, bf1, blt⟩ := id B
  go_wp2_with fail
  refine (C2.out _).mono ?_
  rintro e w2 ⟨rfl, hb⟩
  clear b0 b1 bf0 bf1 blt
  have A := A.keep hb
  have B := B.keep hb
  have HB := Lib.hid (bstep HB.out hb)
  clear hb
  go_wp2_with fail
  refine (C3.out _).mono ?_
  rintro e w3 ⟨rfl, rfl⟩
  obtain ⟨b0, b1, bf0, bf1, blt⟩ := id B
  go_wp2_with fail
  refine (C4.out _).mono ?_
  rintro e w3 ⟨rfl, hb⟩
  have HB := Lib.hid (bstep HB.out hb)
  clear hb b0 b1 bf0 bf1 blt
  go_wp2_with fail
  refine bodyPost_ret (v := .tuple #[.int .i64 (0), .int .i64 (0), .int .i64 (16)]) (by simp [results, Try.results38, go_sem]) rfl ⟨rfl, HB.out⟩

theorem pQuotient_err (a b c d n : Int) (F : Fx) (w : World) (h : fok a b = true) (k : fok c d = true) (hn : reach n = true) (hz : zin c d = false)
    (CQ : ∀ wx, Calls Try.prog 53 #[.agg #[.int .i64 a, .int .i64 b], .agg #[.int .i64 c, .int .i64 d], .int .i64 n] wx fun ee w' => ee = .returned (vS F) ∧ Below wx.heap.size wx w') (he : F.e = 5) :
    Calls Try.prog 38 #[.agg #[.int .i64 a, .int .i64 b], .agg #[.int .i64 c, .int .i64 d], .int .i64 n] w fun e w' => e = .returned (vS ⟨0, 0, 5⟩) ∧ Below w.heap.size w w' := by
  obtain ⟨A, B⟩ := At2.two w (.int .i64 a) (.int .i64 b) (.int .i64 c) (.int .i64 d) 23 23
  obtain ⟨a0, a1, af0, af1, alt⟩ := id A
  have C1 := Lib.hid (fun wx => pValid_is a b true h wx)
  have C2 := Lib.hid (fun wx => pValid_is c d true k wx)
  have C3 := Lib.hid (fun wx => pArc_is n true hn wx)
  have C4 := Lib.hid (fun wx => pZero_is c d false hz wx)
  have CQ := Lib.hid CQ
  clear h k hn hz
  obtain ⟨lo, hi, er⟩ := F
  obtain rfl : er = 5 := he
  unfold vS at *
  go_enter Try.func38, Try.ntmps38
  go_wp2_with fail
  refine (C1.out _).mono ?_
  rintro e w1 ⟨rfl, hb⟩
  have A := A.keep hb
  have B := B.keep hb
  have HB := Lib.hid (bel2 hb)
  clear hb a0 a1 af0 af1 alt
  obtain ⟨b0, b1, bf0, bf1, blt⟩ := id B
  go_wp2_with fail
  refine (C2.out _).mono ?_
  rintro e w2 ⟨rfl, hb⟩
  clear b0 b1 bf0 bf1 blt
  have A := A.keep hb
  have B := B.keep hb
  have HB := Lib.hid (bstep HB.out hb)
  clear hb
  go_wp2_with fail
  refine (C3.out _).mono ?_
  rintro e w3 ⟨rfl, rfl⟩
  obtain ⟨b0, b1, bf0, bf1, blt⟩ := id B
  go_wp2_with fail
  refine (C4.out _).mono ?_
  rintro e w3 ⟨rfl, hb⟩
  have HB := Lib.hid (bstep HB.out hb)
  clear b0 b1 bf0 bf1 blt
  obtain ⟨a0, a1, af0, af1, alt⟩ := A.keep hb
  obtain ⟨b0, b1, bf0, bf1, blt⟩ := B.keep hb
  clear hb A B
  go_wp2_with fail
  refine (CQ.out _).mono ?_
  rintro e w4 ⟨rfl, hb⟩
  have HB := Lib.hid (bstep HB.out hb)
  clear hb a0 a1 af0 af1 alt b0 b1 bf0 bf1 blt
  go_wp2_with fail
  refine bodyPost_ret (v := .tuple #[.int .i64 (0), .int .i64 (0), .int .i64 (5)]) (by simp [results, Try.results38, go_sem]) rfl ⟨rfl, HB.out⟩

theorem pQuotient_lo (a b c d n : Int) (F : Fx) (w : World) (h : fok a b = true) (k : fok c d = true) (hn : reach n = true) (hz : zin c d = false)
    (CQ : ∀ wx, Calls Try.prog 53 #[.agg #[.int .i64 a, .int .i64 b], .agg #[.int .i64 c, .int .i64 d], .int .i64 n] wx fun ee w' => ee = .returned (vS F) ∧ Below wx.heap.size wx w') (he : F.e = 0) (hl : reach F.l = false) :
    Calls Try.prog 38 #[.agg #[.int .i64 a, .int .i64 b], .agg #[.int .i64 c, .int .i64 d], .int .i64 n] w fun e w' => e = .returned (vS ⟨0, 0, 5⟩) ∧ Below w.heap.size w w' := by
  obtain ⟨A, B⟩ := At2.two w (.int .i64 a) (.int .i64 b) (.int .i64 c) (.int .i64 d) 23 23
  obtain ⟨a0, a1, af0, af1, alt⟩ := id A
  have C1 := Lib.hid (fun wx => pValid_is a b true h wx)
  have C2 := Lib.hid (fun wx => pValid_is c d true k wx)
  have C3 := Lib.hid (fun wx => pArc_is n true hn wx)
  have C4 := Lib.hid (fun wx => pZero_is c d false hz wx)
  have CQ := Lib.hid CQ
  clear h k hn hz
  obtain ⟨lo, hi, er⟩ := F
  obtain rfl : er = 0 := he
  have CL := Lib.hid (fun wx => pArc_is lo false hl wx)
  clear hl
  unfold vS at *
  go_enter Try.func38, Try.ntmps38
  go_wp2_with fail
  refine (C1.out _).mono ?_
  rintro e w1 ⟨rfl, hb⟩
  have A := A.keep hb
  have B := B.keep hb
  have HB := Lib.hid (bel2 hb)
  clear hb a0 a1 af0 af1 alt
  obtain ⟨b0, b1, bf0, bf1, blt⟩ := id B
  go_wp2_with fail
  refine (C2.out _).mono ?_
  rintro e w2 ⟨rfl, hb⟩
  clear b0 b1 bf0 bf1 blt
  have A := A.keep hb
  have B := B.keep hb
  have HB := Lib.hid (bstep HB.out hb)
  clear hb
  go_wp2_with fail
  refine (C3.out _).mono ?_
  rintro e w3 ⟨rfl, rfl⟩
  obtain ⟨b0, b1, bf0, bf1, blt⟩ := id B
  go_wp2_with fail
  refine (C4.out _).mono ?_
  rintro e w3 ⟨rfl, hb⟩
  have HB := Lib.hid (bstep HB.out hb)
  clear b0 b1 bf0 bf1 blt
  obtain ⟨a0, a1, af0, af1, alt⟩ := A.keep hb
  obtain ⟨b0, b1, bf0, bf1, blt⟩ := B.keep hb
  clear hb A B
  go_wp2_with fail
  refine (CQ.out _).mono ?_
  rintro e w4 ⟨rfl, hb⟩
  have HB := Lib.hid (bstep HB.out hb)
  clear hb a0 a1 af0 af1 alt b0 b1 bf0 bf1 blt
  go_wp2_with fail
  refine (CL.out _).mono ?_
  rintro e w5 ⟨rfl, rfl⟩
  go_wp2_with fail
  refine bodyPost_ret (v := .tuple #[.int .i64 (0), .int .i64 (0), .int .i64 (5)]) (by simp [results, Try.results38, go_sem]) rfl ⟨rfl, HB.out⟩

theorem pQuotient_hi (a b c d n : Int) (F : Fx) (w : World) (h : fok a b = true) (k : fok c d = true) (hn : reach n = true) (hz : zin c d = false)
    (CQ : ∀ wx, Calls Try.prog 53 #[.agg #[.int .i64 a, .int .i64 b], .agg #[.int .i64 c, .int .i64 d], .int .i64 n] wx fun ee w' => ee = .returned (vS F) ∧ Below wx.heap.size wx w') (he : F.e = 0) (hl : reach F.l = true) (hh : reach F.h = false) :
    Calls Try.prog 38 #[.agg #[.int .i64 a, .int .i64 b], .agg #[.int .i64 c, .int .i64 d], .int .i64 n] w fun e w' => e = .returned (vS ⟨0, 0, 5⟩) ∧ Below w.heap.size w w' := by
  obtain ⟨A, B⟩ := At2.two w (.int .i64 a) (.int .i64 b) (.int .i64 c) (.int .i64 d) 23 23
  obtain ⟨a0, a1, af0, af1, alt⟩ := id A
  have C1 := Lib.hid (fun wx => pValid_is a b true h wx)
  have C2 := Lib.hid (fun wx => pValid_is c d true k wx)
  have C3 := Lib.hid (fun wx => pArc_is n true hn wx)
  have C4 := Lib.hid (fun wx => pZero_is c d false hz wx)
  have CQ := Lib.hid CQ
  clear h k hn hz
  obtain ⟨lo, hi, er⟩ := F
  obtain rfl : er = 0 := he
  have CL := Lib.hid (fun wx => pArc_is lo true hl wx)
  have CH := Lib.hid (fun wx => pArc_is hi false hh wx)
  clear hl hh
  unfold vS at *
  go_enter Try.func38, Try.ntmps38
  go_wp2_with fail
  refine (C1.out _).mono ?_
  rintro e w1 ⟨rfl, hb⟩
  have A := A.keep hb
  have B := B.keep hb
  have HB := Lib.hid (bel2 hb)
  clear hb a0 a1 af0 af1 alt
  obtain ⟨b0, b1, bf0, bf1, blt⟩ := id B
  go_wp2_with fail
  refine (C2.out _).mono ?_
  rintro e w2 ⟨rfl, hb⟩
  clear b0 b1 bf0 bf1 blt
  have A := A.keep hb
  have B := B.keep hb
  have HB := Lib.hid (bstep HB.out hb)
  clear hb
  go_wp2_with fail
  refine (C3.out _).mono ?_
  rintro e w3 ⟨rfl, rfl⟩
  obtain ⟨b0, b1, bf0, bf1, blt⟩ := id B
  go_wp2_with fail
  refine (C4.out _).mono ?_
  rintro e w3 ⟨rfl, hb⟩
  have HB := Lib.hid (bstep HB.out hb)
  clear b0 b1 bf0 bf1 blt
  obtain ⟨a0, a1, af0, af1, alt⟩ := A.keep hb
  obtain ⟨b0, b1, bf0, bf1, blt⟩ := B.keep hb
  clear hb A B
  go_wp2_with fail
  refine (CQ.out _).mono ?_
  rintro e w4 ⟨rfl, hb⟩
  have HB := Lib.hid (bstep HB.out hb)
  clear hb a0 a1 af0 af1 alt b0 b1 bf0 bf1 blt
  go_wp2_with fail
  refine (CL.out _).mono ?_
  rintro e w5 ⟨rfl, rfl⟩
  go_wp2_with fail
  refine (CH.out _).mono ?_
  rintro e w5 ⟨rfl, rfl⟩
  go_wp2_with fail
  refine bodyPost_ret (v := .tuple #[.int .i64 (0), .int .i64 (0), .int .i64 (5)]) (by simp [results, Try.results38, go_sem]) rfl ⟨rfl, HB.out⟩

theorem pQuotient_ok (a b c d n : Int) (F : Fx) (w : World) (h : fok a b = true) (k : fok c d = true) (hn : reach n = true) (hz : zin c d = false)
    (CQ : ∀ wx, Calls Try.prog 53 #[.agg #[.int .i64 a, .int .i64 b], .agg #[.int .i64 c, .int .i64 d], .int .i64 n] wx fun ee w' => ee = .returned (vS F) ∧ Below wx.heap.size wx w') (he : F.e = 0) (hl : reach F.l = true) (hh : reach F.h = true) :
    Calls Try.prog 38 #[.agg #[.int .i64 a, .int .i64 b], .agg #[.int .i64 c, .int .i64 d], .int .i64 n] w fun e w' => e = .returned (vS ⟨F.l, F.h, 0⟩) ∧ Below w.heap.size w w' := by
  obtain ⟨A, B⟩ := At2.two w (.int .i64 a) (.int .i64 b) (.int .i64 c) (.int .i64 d) 23 23
  obtain ⟨a0, a1, af0, af1, alt⟩ := id A
  have C1 := Lib.hid (fun wx => pValid_is a b true h wx)
  have C2 := Lib.hid (fun wx => pValid_is c d true k wx)
  have C3 := Lib.hid (fun wx => pArc_is n true hn wx)
  have C4 := Lib.hid (fun wx => pZero_is c d false hz wx)
  have CQ := Lib.hid CQ
  clear h k hn hz
  obtain ⟨lo, hi, er⟩ := F
  obtain rfl : er = 0 := he
  have CL := Lib.hid (fun wx => pArc_is lo true hl wx)
  have CH := Lib.hid (fun wx => pArc_is hi true hh wx)
  clear hl hh
  unfold vS at *
  go_enter Try.func38, Try.ntmps38
  go_wp2_with fail
  refine (C1.out _).mono ?_
  rintro e w1 ⟨rfl, hb⟩
  have A := A.keep hb
  have B := B.keep hb
  have HB := Lib.hid (bel2 hb)
  clear hb a0 a1 af0 af1 alt
  obtain ⟨b0, b1, bf0, bf1, blt⟩ := id B
  go_wp2_with fail
  refine (C2.out _).mono ?_
  rintro e w2 ⟨rfl, hb⟩
  clear b0 b1 bf0 bf1 blt
  have A := A.keep hb
  have B := B.keep hb
  have HB := Lib.hid (bstep HB.out hb)
  clear hb
  go_wp2_with fail
  refine (C3.out _).mono ?_
  rintro e w3 ⟨rfl, rfl⟩
  obtain ⟨b0, b1, bf0, bf1, blt⟩ := id B
  go_wp2_with fail
  refine (C4.out _).mono ?_
  rintro e w3 ⟨rfl, hb⟩
  have HB := Lib.hid (bstep HB.out hb)
  clear b0 b1 bf0 bf1 blt
  obtain ⟨a0, a1, af0, af1, alt⟩ := A.keep hb
  obtain ⟨b0, b1, bf0, bf1, blt⟩ := B.keep hb
  clear hb A B
  go_wp2_with fail
  refine (CQ.out _).mono ?_
  rintro e w4 ⟨rfl, hb⟩
  have HB := Lib.hid (bstep HB.out hb)
  clear hb a0 a1 af0 af1 alt b0 b1 bf0 bf1 blt
  go_wp2_with fail
  refine (CL.out _).mono ?_
  rintro e w5 ⟨rfl, rfl⟩
  go_wp2_with fail
  refine (CH.out _).mono ?_
  rintro e w5 ⟨rfl, rfl⟩
  go_wp2_with fail
  refine bodyPost_ret (v := .tuple #[.int .i64 (lo), .int .i64 (hi), .int .i64 (0)]) (by simp [results, Try.results38, go_sem]) rfl ⟨rfl, HB.out⟩

theorem pQuotient (a b c d n : Int) (w : World) (n1 : -9223372036854775808 ≤ n) (n2 : n ≤ 9223372036854775807) :
    Calls Try.prog 38 #[.agg #[.int .i64 a, .int .i64 b], .agg #[.int .i64 c, .int .i64 d], .int .i64 n] w fun e w' => e = .returned (vS (vF (fok a b && fok c d) (quotR a b c d n))) ∧ Below w.heap.size w w' := by
  cases h : fok a b
  · rw [Bool.false_and, vF_no _ rfl]; exact pQuotient_bad1 a b c d n w h
  · cases k : fok c d
    · rw [Bool.true_and, vF_no _ rfl]; exact pQuotient_bad2 a b c d n w h k
    · rw [Bool.true_and, vF_yes _ rfl]
      cases hn : reach n
      · rw [show quotR a b c d n = ⟨0, 0, 2⟩ from if_neg (by rw [hn]; simp)]; exact pQuotient_arc a b c d n w h k hn
      · by_cases hz : c ≤ 0 ∧ 0 ≤ d
        · rw [show quotR a b c d n = ⟨0, 0, 16⟩ from (if_pos hn).trans (if_pos hz)]; exact pQuotient_zero a b c d n w h k hn (decide_eq_true hz)
        · have q := (fok_iff _ _).1 k
          have CQ := fun wx => pQuo a b c d n wx h ⟨by omega, by omega, by omega⟩ ⟨by omega, by omega, by omega⟩ ((reach_iff _).1 hn)
          rw [quR_quot a b c d n k hz hn]
          by_cases ho : quO a b c d n
          · rw [if_pos ho]
            have he := quR_yes ho
            cases hl : reach (quR a b c d n).l
            · rw [if_neg (by simp)]; exact pQuotient_lo a b c d n _ w h k hn (decide_eq_false hz) CQ he hl
            · cases hh : reach (quR a b c d n).h
              · rw [if_neg (by simp)]; exact pQuotient_hi a b c d n _ w h k hn (decide_eq_false hz) CQ he hl hh
              · rw [if_pos ⟨rfl, rfl⟩]; exact pQuotient_ok a b c d n _ w h k hn (decide_eq_false hz) CQ he hl hh
          · rw [if_neg ho]; exact pQuotient_err a b c d n _ w h k hn (decide_eq_false hz) CQ (by rw [quR_no ho])
end Go.Proofs.Ytdkigfcglfgpoaa
