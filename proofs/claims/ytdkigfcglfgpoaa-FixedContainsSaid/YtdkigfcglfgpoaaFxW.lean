/- Fixed: the small functions of FixedContains. -/
import Derived.Test.YtdkigfcglfgpoaaFxL
namespace Go.Proofs.Ytdkigfcglfgpoaa
open Go.RowKit
set_option linter.unusedVariables false

/-- a number of an interval -/
def wtn (a b k : Int) : Int := a + k % (b - a + 1)
theorem wtn_in {a b k : Int} (h : a ≤ b) : a ≤ wtn a b k ∧ wtn a b k ≤ b := by
  have h1 := Int.emod_nonneg k (show b - a + 1 ≠ 0 by omega)
  have h2 := Int.emod_lt_of_pos k (show 0 < b - a + 1 by omega)
  unfold wtn; omega
theorem within_any (a b k : Int) (w : World) (h : fok a b = true) (k1 : 0 ≤ k) (k2 : k ≤ 4294967295) :
    Calls Try.prog 41 #[.agg #[.int .i64 a, .int .i64 b], .int .u32 k] w fun e w' => e = .returned (.agg #[.int .i64 (wtn a b k), .int .i64 (wtn a b k)]) ∧ Below w.heap.size w w' := by
  obtain ⟨h1, h2, h3⟩ := (fok_iff _ _).1 h
  obtain ⟨A, R⟩ := At2.two w (.int .i64 a) (.int .i64 b) (.int .i64 0) (.int .i64 0) 23 23
  have HB := Lib.hid (below2 w (.cells #[.int .i64 a, .int .i64 b] 23) (.cells #[.int .i64 0, .int .i64 0] 23))
  have hw := wtn_in (k := k) h3
  unfold wtn at *
  obtain ⟨m, hm⟩ : ∃ m, b - a + 1 = m := ⟨_, rfl⟩
  rw [hm] at hw ⊢
  have em := Int.emod_lt_of_pos k (show 0 < m by omega)
  have em0 := Int.emod_nonneg k (show m ≠ 0 by omega)
  have e1 : k.tmod m = k % m := Int.tmod_eq_emod_of_nonneg k1
  obtain ⟨r, hr⟩ : ∃ r, k % m = r := ⟨_, rfl⟩
  rw [hr] at hw e1 em em0 ⊢
  obtain ⟨d, hd⟩ : ∃ d, b - a = d := ⟨_, rfl⟩
  obtain ⟨x, hx⟩ : ∃ x, a + r = x := ⟨_, rfl⟩
  rw [hx] at hw ⊢
  have u1 := w64_is hd (by omega) (by omega)
  have hd1 : d + 1 = m := by omega
  have u2 := w64_is hd1 (by omega) (by omega)
  have u3 := w64_is hx (by omega) (by omega)
  have u4 : wrap64 k = k := w64_is rfl (by omega) (by omega)
  have mz : ¬ m = 0 := by omega
  have u5 : wrap64 (a + k % (b - a + 1)) = x := w64_is (by rw [hd, hd1, hr, hx]) (by omega) (by omega)
  have kz : IntKind.i64.wrap k = k := i64_is (by omega) (by omega)
  obtain ⟨hw1, hw2⟩ := hw
  clear h hr hx hd hm hd1
  go_enter Try.func41, Try.ntmps41
  go_wp2_with fail
  generalize (w.alloc (.cells #[.int .i64 a, .int .i64 b] 23)).alloc (.cells #[.int .i64 0, .int .i64 0] 23) = W at *
  obtain ⟨a0, a1, -, -, -⟩ := id A
  go_quiet (fail)
  obtain ⟨r0, r1, rf0, rf1, -⟩ := R.keep (below_drewN _ _ nq)
  obtain ⟨s0, s1⟩ := set2 r0 r1 (.int .i64 x) (.int .i64 x)
  go_wp2_with fail
  refine bodyPost_ret (v := .agg #[.int .i64 x, .int .i64 x]) (by simp [results, Try.results41, go_sem, s0, s1]) rfl ⟨rfl, ?_⟩
  exact below_set2 (HB.out.trans (below_drewN _ _ _)) (by omega) _ _

theorem square_any (P : FxProg) (a b c d : Int) (w : World) :
    Calls Try.prog 42 #[.agg #[.int .i64 a, .int .i64 b], .agg #[.int .i64 c, .int .i64 d]] w fun e w' => e = .returned (vR (vF (fok a b) (squareR a b))) ∧ Below w.heap.size w w' := by
  obtain ⟨A, B, R⟩ := At2.three w (.int .i64 a) (.int .i64 b) (.int .i64 c) (.int .i64 d) (.int .i64 0) (.int .i64 0) 23 23 23
  have C := Lib.hid (fun wx => P.square a b wx)
  obtain ⟨F, hF⟩ : ∃ F, vF (fok a b) (squareR a b) = F := ⟨_, rfl⟩
  rw [hF] at C ⊢
  unfold vR at *
  clear hF
  obtain ⟨a0, a1, -, -, -⟩ := id A
  go_enter Try.func42, Try.ntmps42
  go_wp2_with fail
  refine (C.out _).mono ?_
  rintro e w1 ⟨rfl, hb⟩
  obtain ⟨r0, r1, rf0, rf1, rlt⟩ := R.keep hb
  obtain ⟨s0, s1⟩ := set2 r0 r1 (.int .i64 F.l) (.int .i64 F.h)
  have HW := Lib.hid (bel3 hb)
  clear hb
  go_wp2_with fail
  refine bodyPost_ret (v := .tuple #[.agg #[.int .i64 F.l, .int .i64 F.h], .int .i64 F.e]) (by simp [results, Try.results42, go_sem, s0, s1]) rfl ⟨rfl, ?_⟩
  exact below_set2 HW.out (by omega) _ _

theorem root_any (P : FxProg) (a b c d : Int) (w : World) :
    Calls Try.prog 43 #[.agg #[.int .i64 a, .int .i64 b], .agg #[.int .i64 c, .int .i64 d]] w fun e w' => e = .returned (vR (vF (fok a b) (sqrtR a b))) ∧ Below w.heap.size w w' := by
  obtain ⟨A, B, R⟩ := At2.three w (.int .i64 a) (.int .i64 b) (.int .i64 c) (.int .i64 d) (.int .i64 0) (.int .i64 0) 23 23 23
  have C := Lib.hid (fun wx => P.root a b wx)
  obtain ⟨F, hF⟩ : ∃ F, vF (fok a b) (sqrtR a b) = F := ⟨_, rfl⟩
  rw [hF] at C ⊢
  unfold vR at *
  clear hF
  obtain ⟨a0, a1, -, -, -⟩ := id A
  go_enter Try.func43, Try.ntmps43
  go_wp2_with fail
  refine (C.out _).mono ?_
  rintro e w1 ⟨rfl, hb⟩
  obtain ⟨r0, r1, rf0, rf1, rlt⟩ := R.keep hb
  obtain ⟨s0, s1⟩ := set2 r0 r1 (.int .i64 F.l) (.int .i64 F.h)
  have HW := Lib.hid (bel3 hb)
  clear hb
  go_wp2_with fail
  refine bodyPost_ret (v := .tuple #[.agg #[.int .i64 F.l, .int .i64 F.h], .int .i64 F.e]) (by simp [results, Try.results43, go_sem, s0, s1]) rfl ⟨rfl, ?_⟩
  exact below_set2 HW.out (by omega) _ _

theorem negative_any (P : FxProg) (a b c d : Int) (w : World) :
    Calls Try.prog 44 #[.agg #[.int .i64 a, .int .i64 b], .agg #[.int .i64 c, .int .i64 d]] w fun e w' => e = .returned (vR (vF (fok a b) (negR a b))) ∧ Below w.heap.size w w' := by
  obtain ⟨A, B, R⟩ := At2.three w (.int .i64 a) (.int .i64 b) (.int .i64 c) (.int .i64 d) (.int .i64 0) (.int .i64 0) 23 23 23
  have C := Lib.hid (fun wx => P.neg a b wx)
  obtain ⟨F, hF⟩ : ∃ F, vF (fok a b) (negR a b) = F := ⟨_, rfl⟩
  rw [hF] at C ⊢
  unfold vR at *
  clear hF
  obtain ⟨a0, a1, -, -, -⟩ := id A
  go_enter Try.func44, Try.ntmps44
  go_wp2_with fail
  refine (C.out _).mono ?_
  rintro e w1 ⟨rfl, hb⟩
  obtain ⟨r0, r1, rf0, rf1, rlt⟩ := R.keep hb
  obtain ⟨s0, s1⟩ := set2 r0 r1 (.int .i64 F.l) (.int .i64 F.h)
  have HW := Lib.hid (bel3 hb)
  clear hb
  go_wp2_with fail
  refine bodyPost_ret (v := .tuple #[.agg #[.int .i64 F.l, .int .i64 F.h], .int .i64 F.e]) (by simp [results, Try.results44, go_sem, s0, s1]) rfl ⟨rfl, ?_⟩
  exact below_set2 HW.out (by omega) _ _

end Go.Proofs.Ytdkigfcglfgpoaa
