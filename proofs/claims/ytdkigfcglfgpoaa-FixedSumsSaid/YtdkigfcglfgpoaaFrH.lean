/- fixed: contracts of the program's Square, root, Sqrt. -/
import Derived.Test.YtdkigfcglfgpoaaFrB
namespace Go.Proofs.Ytdkigfcglfgpoaa
open Go.RowKit
set_option linter.unusedVariables false

set_option maxHeartbeats 1000000 in
theorem pSquare (a b : Int) (w : World) :
    Calls Try.prog 30 #[.agg #[.int .i64 a, .int .i64 b]] w fun e w' => e = .returned (vR (vF (fok a b) (squareR a b))) ∧ Below w.heap.size w w' := by
  obtain ⟨A, R⟩ := At2.two w (.int .i64 a) (.int .i64 b) (.int .i64 0) (.int .i64 0) 23 23
  obtain ⟨a0, a1, af0, af1, alt⟩ := id A
  cases h : fok a b
  · rw [vF_no _ rfl]
    have C1 := Lib.hid (fun wx => pValid_is a b false h wx)
    clear h
    unfold vR
    go_enter Try.func30, Try.ntmps30
    go_wp2_with fail
    refine (C1.out _).mono ?_
    rintro e w1 ⟨rfl, hb⟩
    clear a0 a1 af0 af1 alt
    obtain ⟨r0, r1, rf0, rf1, rlt⟩ := R.keep hb
    obtain ⟨s0, s1⟩ := set2 r0 r1 (.int .i64 0) (.int .i64 0)
    go_wp2_with fail
    refine bodyPost_ret (v := .tuple #[.agg #[.int .i64 0, .int .i64 0], .int .i64 1]) (by simp [results, Try.results30, go_sem, s0, s1]) rfl ⟨rfl, ?_⟩
    exact below_set2 (bel2 hb) (by omega) _ _
  · rw [vF_yes _ rfl]
    have C1 := Lib.hid (fun wx => pValid_is a b true h wx)
    have p := (fok_iff _ _).1 h
    have x1 := prod_fit h h (x := a) (y := a) (by omega) (by omega) (by omega) (by omega)
    have x2 := prod_fit h h (x := b) (y := b) (by omega) (by omega) (by omega) (by omega)
    have n1 := sq_nonneg' a
    have n2 := sq_nonneg' b
    unfold squareR
    obtain ⟨x, hx⟩ : ∃ x, a * a = x := ⟨_, rfl⟩
    obtain ⟨y, hy⟩ : ∃ y, b * b = y := ⟨_, rfl⟩
    rw [hx] at x1 n1 ⊢
    rw [hy] at x2 n2 ⊢
    have w1 := w64_is hx (by omega) (by omega)
    have w2 := w64_is hy (by omega) (by omega)
    have hl : min x y ≤ max x y := by omega
    have hg : max x y ≤ 4611686018427387904 := by omega
    have hm : 0 ≤ min x y := by omega
    clear hx hy x1 x2 n1 n2
    by_cases hz : a ≤ 0 ∧ 0 ≤ b
    · have CZ := Lib.hid (fun wx => pZero_is a b true (decide_eq_true hz) wx)
      rw [if_pos hz]
      have CS := Lib.hid (fun wx => pShift 0 (max x y) wx (by omega) (by omega) (by omega))
      generalize fit (0 / 1073741824) (cdiv (max x y) 1073741824) = F at *
      clear h p hz hl hg hm
      unfold vR at *
      go_enter Try.func30, Try.ntmps30
      go_wp2_with fail
      refine (C1.out _).mono ?_
      rintro e v1 ⟨rfl, hb⟩
      clear a0 a1 af0 af1 alt
      have R := R.keep hb
      have A := A.keep hb
      have HB := Lib.hid (bel2 hb)
      clear hb
      obtain ⟨a0, a1, af0, af1, alt⟩ := id A
      go_upto_region 3 with fail
      go_quiet (fail)
      have R := R.keep (below_drewN _ _ nq)
      have A := A.keep (below_drewN _ _ nq)
      have HB := Lib.hid (HB.out.trans (below_drewN w.heap.size v1 nq))
      clear a0 a1 af0 af1 alt
      generalize v1.drewN nq = v2 at *
      obtain ⟨a0, a1, af0, af1, alt⟩ := id A
      go_wp2_with fail
      refine (CZ.out _).mono ?_
      rintro e v3 ⟨rfl, hb⟩
      clear a0 a1 af0 af1 alt A
      have R := R.keep hb
      have HB := Lib.hid (bstep HB.out hb)
      clear hb
      go_upto_region 7 with fail
      go_wp2_with fail
      refine (CS.out _).mono ?_
      rintro e v4 ⟨rfl, hb⟩
      obtain ⟨r0, r1, rf0, rf1, rlt⟩ := R.keep hb
      have HB := Lib.hid (bstep HB.out hb)
      clear hb
      obtain ⟨s0, s1⟩ := set2 r0 r1 (.int .i64 F.l) (.int .i64 F.h)
      go_wp2_with fail
      refine bodyPost_ret (v := .tuple #[.agg #[.int .i64 F.l, .int .i64 F.h], .int .i64 F.e]) (by simp [results, Try.results30, go_sem, s0, s1]) rfl ⟨rfl, ?_⟩
      exact below_set2 HB.out (by omega) _ _
    · have CZ := Lib.hid (fun wx => pZero_is a b false (decide_eq_false hz) wx)
      rw [if_neg hz]
      have CS := Lib.hid (fun wx => pShift (min x y) (max x y) wx (by omega) (by omega) (by omega))
      generalize fit (min x y / 1073741824) (cdiv (max x y) 1073741824) = F at *
      clear h p hz hl hg hm
      unfold vR at *
      go_enter Try.func30, Try.ntmps30
      go_wp2_with fail
      refine (C1.out _).mono ?_
      rintro e v1 ⟨rfl, hb⟩
      clear a0 a1 af0 af1 alt
      have R := R.keep hb
      have A := A.keep hb
      have HB := Lib.hid (bel2 hb)
      clear hb
      obtain ⟨a0, a1, af0, af1, alt⟩ := id A
      go_upto_region 3 with fail
      go_quiet (fail)
      have R := R.keep (below_drewN _ _ nq)
      have A := A.keep (below_drewN _ _ nq)
      have HB := Lib.hid (HB.out.trans (below_drewN w.heap.size v1 nq))
      clear a0 a1 af0 af1 alt
      generalize v1.drewN nq = v2 at *
      obtain ⟨a0, a1, af0, af1, alt⟩ := id A
      go_wp2_with fail
      refine (CZ.out _).mono ?_
      rintro e v3 ⟨rfl, hb⟩
      clear a0 a1 af0 af1 alt A
      have R := R.keep hb
      have HB := Lib.hid (bstep HB.out hb)
      clear hb
      go_upto_region 7 with fail
      go_wp2_with fail
      refine (CS.out _).mono ?_
      rintro e v4 ⟨rfl, hb⟩
      obtain ⟨r0, r1, rf0, rf1, rlt⟩ := R.keep hb
      have HB := Lib.hid (bstep HB.out hb)
      clear hb
      obtain ⟨s0, s1⟩ := set2 r0 r1 (.int .i64 F.l) (.int .i64 F.h)
      go_wp2_with fail
      refine bodyPost_ret (v := .tuple #[.agg #[.int .i64 F.l, .int .i64 F.h], .int .i64 F.e]) (by simp [results, Try.results30, go_sem, s0, s1]) rfl ⟨rfl, ?_⟩
      exact below_set2 HB.out (by omega) _ _

/-- the root of n/One, as a multiple of 1/One, rounded down and up -/
theorem pRoot (n r : Int) (w : World) (h0 : 0 ≤ n) (h1 : n ≤ 2147483648) (hr : isRt (n * 1073741824) r) :
    Calls Try.prog 58 #[.int .i64 n] w fun e w' => e = .returned (.tuple #[.int .i64 r, .int .i64 (upR (n * 1073741824) r)]) ∧ Below w.heap.size w w' := by
  obtain ⟨r0, r1, r2⟩ := hr
  obtain ⟨N, hN⟩ : ∃ N, n * 1073741824 = N := ⟨_, rfl⟩
  rw [hN] at r1 r2 ⊢
  have rb : r ≤ 1518500250 := by
    have : ¬ 1518500251 ≤ r := fun hl => by have := sq_le (a := 1518500251) (b := r) (by omega) hl; omega
    omega
  have hw : wrap64 N = N := w64_is rfl (by omega) (by omega)
  have CO := Lib.hid (fun wx => wd.of_any N wx (by omega) (by omega))
  have hf : wd.wfit N = true := (wd.wfit_iff _).2 (by unfold wd.wh; omega)
  have hk : wd.wok (wd.wh N) (wd.wl N) = true := (wd.wok_parts N).trans hf
  have hv : wd.wv (wd.wh N) (wd.wl N) = N := wd.wv_parts N
  have CR := Lib.hid (fun wx => wd.Root_ok (wd.wh N) (wd.wl N) r.toNat wx hk (by unfold wd.wh; omega)
    (by rw [hv, Int.natCast_mul, Int.toNat_of_nonneg r0]; exact r1)
    (by rw [hv, Int.natCast_mul, Int.natCast_add, Int.toNat_of_nonneg r0]; exact r2))
  rw [Int.toNat_of_nonneg r0] at CR
  generalize wd.wh N = H at *
  generalize wd.wl N = L at *
  clear hf hk hv r2
  obtain ⟨q, hq⟩ : ∃ q, r * r = q := ⟨_, rfl⟩
  rw [hq] at r1
  have q0 := sq_nonneg' r
  rw [hq] at q0
  have hs := w64_is hq (by omega) (by omega)
  by_cases hc : q < N
  · have hu : upR N r = r + 1 := if_pos (by rw [hq]; exact hc)
    rw [hu]
    clear hu hq
    go_enter Try.func58, Try.ntmps58
    go_wp2_with fail
    refine (CO.out _).mono ?_
    rintro e w1 ⟨rfl, hb⟩
    have HB := Lib.hid hb
    clear hb
    go_wp2_with fail
    refine (CR.out _).mono ?_
    rintro e w2 ⟨rfl, hb⟩
    have HB := Lib.hid (bstep HB.out hb)
    clear hb
    go_wp2_with fail
    go_ret2
    exact ⟨rfl, HB.out⟩
  · have hu : upR N r = r := if_neg (by rw [hq]; exact hc)
    rw [hu]
    clear hu hq
    go_enter Try.func58, Try.ntmps58
    go_wp2_with fail
    refine (CO.out _).mono ?_
    rintro e w1 ⟨rfl, hb⟩
    have HB := Lib.hid hb
    clear hb
    go_wp2_with fail
    refine (CR.out _).mono ?_
    rintro e w2 ⟨rfl, hb⟩
    have HB := Lib.hid (bstep HB.out hb)
    clear hb
    go_wp2_with fail
    go_ret2
    exact ⟨rfl, HB.out⟩

theorem pSqrt (a b : Int) (w : World) :
    Calls Try.prog 35 #[.agg #[.int .i64 a, .int .i64 b]] w fun e w' => e = .returned (vR (vF (fok a b) (sqrtR a b))) ∧ Below w.heap.size w w' := by
  obtain ⟨A, R⟩ := At2.two w (.int .i64 a) (.int .i64 b) (.int .i64 0) (.int .i64 0) 23 23
  obtain ⟨a0, a1, af0, af1, alt⟩ := id A
  cases h : fok a b
  · rw [vF_no _ rfl]
    have C1 := Lib.hid (fun wx => pValid_is a b false h wx)
    clear h
    unfold vR
    go_enter Try.func35, Try.ntmps35
    go_wp2_with fail
    refine (C1.out _).mono ?_
    rintro e w1 ⟨rfl, hb⟩
    clear a0 a1 af0 af1 alt
    obtain ⟨r0, r1, rf0, rf1, rlt⟩ := R.keep hb
    obtain ⟨s0, s1⟩ := set2 r0 r1 (.int .i64 0) (.int .i64 0)
    go_wp2_with fail
    refine bodyPost_ret (v := .tuple #[.agg #[.int .i64 0, .int .i64 0], .int .i64 1]) (by simp [results, Try.results35, go_sem, s0, s1]) rfl ⟨rfl, ?_⟩
    exact below_set2 (bel2 hb) (by omega) _ _
  · rw [vF_yes _ rfl]
    have C1 := Lib.hid (fun wx => pValid_is a b true h wx)
    have p := (fok_iff _ _).1 h
    obtain ⟨hR⟩ := sqrtR_is a b p.2.2
    generalize sqrtR a b = F at *
    rcases hR with ⟨hb0, rfl⟩ | ⟨hb0, r, s, hr, hs, rfl⟩
    · clear h p
      unfold vR
      go_enter Try.func35, Try.ntmps35
      go_wp2_with fail
      refine (C1.out _).mono ?_
      rintro e w1 ⟨rfl, hb⟩
      clear a0 a1 af0 af1 alt
      have R := R.keep hb
      obtain ⟨r0, r1, rf0, rf1, rlt⟩ := id R
      obtain ⟨a0, a1, af0, af1, alt⟩ := A.keep hb
      obtain ⟨s0, s1⟩ := set2 r0 r1 (.int .i64 0) (.int .i64 0)
      have HB := Lib.hid (bel2 hb)
      clear hb
      go_wp2_with fail
      refine bodyPost_ret (v := .tuple #[.agg #[.int .i64 0, .int .i64 0], .int .i64 2]) (by simp [results, Try.results35, go_sem, s0, s1]) rfl ⟨rfl, ?_⟩
      exact below_set2 HB.out (by omega) _ _
    · have K1 := Lib.hid (fun wx => pRoot (max a 0) r wx (by omega) (by omega) hr)
      have K2 := Lib.hid (fun wx => pRoot b s wx hb0 (by omega) hs)
      have sb : s ≤ 1518500250 := by
        have : ¬ 1518500251 ≤ s := fun hl => by have := sq_le (a := 1518500251) (b := s) (by omega) hl; have := hs.2.1; omega
        omega
      have m1 := isRt_mono hr hs (by omega)
      have m2 : s ≤ upR (b * 1073741824) s ∧ upR (b * 1073741824) s ≤ s + 1 := by unfold upR; split <;> omega
      have m3 := hr.1
      have CF := Lib.hid (fun wx => pFit r (upR (b * 1073741824) s) wx (by omega))
      rw [fit_yes (by omega)] at CF
      generalize upR (b * 1073741824) s = u at *
      generalize upR (max a 0 * 1073741824) r = t at *
      have hc : ¬ b < 0 := by omega
      generalize hm : max a 0 = m at *
      have hm := Lib.hid hm
      clear h p hr hs sb m1 m2 m3 hb0
      unfold vR at *
      go_enter Try.func35, Try.ntmps35
      go_wp2_with fail
      refine (C1.out _).mono ?_
      rintro e w1 ⟨rfl, hb⟩
      clear a0 a1 af0 af1 alt
      have R := R.keep hb
      have A := A.keep hb
      obtain ⟨a0, a1, af0, af1, alt⟩ := id A
      have HB := Lib.hid (bel2 hb)
      clear hb
      go_wp2_with (rw [hm.out]; fail)
      first
        | (refine (K1.out _).mono ?_)
        | (rw [hm.out]; refine (K1.out _).mono ?_)
      rintro e w2 ⟨rfl, hb⟩
      clear a0 a1 af0 af1 alt
      have R := R.keep hb
      have A := A.keep hb
      obtain ⟨a0, a1, af0, af1, alt⟩ := id A
      have HB := Lib.hid (bstep HB.out hb)
      clear hb
      go_wp2_with fail
      refine (K2.out _).mono ?_
      rintro e w3 ⟨rfl, hb⟩
      clear a0 a1 af0 af1 alt
      have R := R.keep hb
      have HB := Lib.hid (bstep HB.out hb)
      clear hb A
      go_wp2_with fail
      refine (CF.out _).mono ?_
      rintro e w4 ⟨rfl, hb⟩
      obtain ⟨r0, r1, rf0, rf1, rlt⟩ := R.keep hb
      have HB := Lib.hid (bstep HB.out hb)
      clear hb
      obtain ⟨s0, s1⟩ := set2 r0 r1 (.int .i64 r) (.int .i64 u)
      go_wp2_with fail
      refine bodyPost_ret (v := .tuple #[.agg #[.int .i64 r, .int .i64 u], .int .i64 0]) (by simp [results, Try.results35, go_sem, s0, s1]) rfl ⟨rfl, ?_⟩
      exact below_set2 HB.out (by omega) _ _
end Go.Proofs.Ytdkigfcglfgpoaa
