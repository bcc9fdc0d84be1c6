/- Fixed: contracts of the reference's Neg, Add, Sub, Hull, Meet, Inside. -/
import Derived.Test.YtdkigfcglfgpoaaFxA
namespace Go.Proofs.Ytdkigfcglfgpoaa
open Go.RowKit
set_option linter.unusedVariables false

theorem rNeg (a b : Int) (w : World) (h : fok a b = true) :
    Calls Try.prog 26 #[.agg #[.int .i64 a, .int .i64 b]] w fun e w' => e = .returned (.agg #[.int .i64 (-b), .int .i64 (-a)]) ∧ Below w.heap.size w w' := by
  obtain ⟨h1, h2, h3⟩ := (fok_iff _ _).1 h
  obtain ⟨A, B⟩ := At2.two w (.int .i64 a) (.int .i64 b) (.int .i64 0) (.int .i64 0) 23 23
  obtain ⟨a0, a1, af0, af1, alt⟩ := A
  obtain ⟨b0, b1, bf0, bf1, blt⟩ := B
  obtain ⟨s0, s1⟩ := set2 b0 b1 (.int .i64 (-b)) (.int .i64 (-a))
  clear h
  go_enter Try.func26, Try.ntmps26
  go_wp2_with fail
  refine bodyPost_ret (v := .agg #[.int .i64 (-b), .int .i64 (-a)]) (by simp [results, Try.results26, go_sem]) rfl ⟨rfl, ?_⟩
  exact below2 _ _ _

theorem rAdd (a b c d : Int) (w : World) (h : fok a b = true) (k : fok c d = true) :
    Calls Try.prog 27 #[.agg #[.int .i64 a, .int .i64 b], .agg #[.int .i64 c, .int .i64 d]] w fun e w' => e = .returned (vR (addR a b c d)) ∧ Below w.heap.size w w' := by
  obtain ⟨h1, h2, h3⟩ := (fok_iff _ _).1 h
  obtain ⟨k1, k2, k3⟩ := (fok_iff _ _).1 k
  obtain ⟨A, B, R⟩ := At2.three w (.int .i64 a) (.int .i64 b) (.int .i64 c) (.int .i64 d) (.int .i64 0) (.int .i64 0) 23 23 23
  obtain ⟨a0, a1, af0, af1, alt⟩ := A
  obtain ⟨b0, b1, bf0, bf1, blt⟩ := B
  have C := Lib.hid (fun wx => rFit (a + c) (b + d) wx)
  unfold addR
  obtain ⟨F, hF⟩ : ∃ F, fit (a + c) (b + d) = F := ⟨_, rfl⟩
  rw [hF] at C ⊢
  clear h k hF
  unfold vR at *
  go_enter Try.func27, Try.ntmps27
  go_wp2_with fail
  refine (C.out _).mono ?_
  rintro e w1 ⟨rfl, hb⟩
  obtain ⟨r0, r1, rf0, rf1, rlt⟩ := R.keep hb
  obtain ⟨s0, s1⟩ := set2 r0 r1 (.int .i64 F.l) (.int .i64 F.h)
  go_wp2_with fail
  refine bodyPost_ret (v := .tuple #[.agg #[.int .i64 F.l, .int .i64 F.h], .int .i64 F.e]) (by simp [results, Try.results27, go_sem, s0, s1]) rfl ⟨rfl, ?_⟩
  exact below_set2 (bel3 hb) (by omega) _ _
theorem rSub (a b c d : Int) (w : World) (h : fok a b = true) (k : fok c d = true) :
    Calls Try.prog 28 #[.agg #[.int .i64 a, .int .i64 b], .agg #[.int .i64 c, .int .i64 d]] w fun e w' => e = .returned (vR (subR a b c d)) ∧ Below w.heap.size w w' := by
  obtain ⟨h1, h2, h3⟩ := (fok_iff _ _).1 h
  obtain ⟨k1, k2, k3⟩ := (fok_iff _ _).1 k
  obtain ⟨A, B, R⟩ := At2.three w (.int .i64 a) (.int .i64 b) (.int .i64 c) (.int .i64 d) (.int .i64 0) (.int .i64 0) 23 23 23
  obtain ⟨a0, a1, af0, af1, alt⟩ := A
  obtain ⟨b0, b1, bf0, bf1, blt⟩ := B
  have C := Lib.hid (fun wx => rFit (a - d) (b - c) wx)
  unfold subR
  obtain ⟨F, hF⟩ : ∃ F, fit (a - d) (b - c) = F := ⟨_, rfl⟩
  rw [hF] at C ⊢
  clear h k hF
  unfold vR at *
  go_enter Try.func28, Try.ntmps28
  go_wp2_with fail
  refine (C.out _).mono ?_
  rintro e w1 ⟨rfl, hb⟩
  obtain ⟨r0, r1, rf0, rf1, rlt⟩ := R.keep hb
  obtain ⟨s0, s1⟩ := set2 r0 r1 (.int .i64 F.l) (.int .i64 F.h)
  go_wp2_with fail
  refine bodyPost_ret (v := .tuple #[.agg #[.int .i64 F.l, .int .i64 F.h], .int .i64 F.e]) (by simp [results, Try.results28, go_sem, s0, s1]) rfl ⟨rfl, ?_⟩
  exact below_set2 (bel3 hb) (by omega) _ _

theorem rHull (a b c d : Int) (w : World) :
    Calls Try.prog 22 #[.agg #[.int .i64 a, .int .i64 b], .agg #[.int .i64 c, .int .i64 d]] w fun e w' => e = .returned (vI (min a c) (max b d)) ∧ Below w.heap.size w w' := by
  obtain ⟨A, B, R⟩ := At2.three w (.int .i64 a) (.int .i64 b) (.int .i64 c) (.int .i64 d) (.int .i64 0) (.int .i64 0) 23 23 23
  have C1 := Lib.hid (fun wx => rLe a c wx)
  have C2 := Lib.hid (fun wx => rMo b d wx)
  have HB := Lib.hid (below3 w (.cells #[.int .i64 a, .int .i64 b] 23) (.cells #[.int .i64 c, .int .i64 d] 23) (.cells #[.int .i64 0, .int .i64 0] 23))
  generalize min a c = l at *
  generalize max b d = h at *
  unfold vI
  go_enter Try.func22, Try.ntmps22
  go_wp2_with fail
  generalize ((w.alloc (.cells #[.int .i64 a, .int .i64 b] 23)).alloc (.cells #[.int .i64 c, .int .i64 d] 23)).alloc (.cells #[.int .i64 0, .int .i64 0] 23) = W at *
  obtain ⟨a0, a1, af0, af1, alt⟩ := A
  obtain ⟨b0, b1, bf0, bf1, blt⟩ := B
  obtain ⟨r0, r1, rf0, rf1, rlt⟩ := R
  go_still_tail 11, (by kernel_rfl)
  still_call (C1.out _)
  repeat still_step
  still_call (C2.out _)
  repeat still_step
  refine wpStill_nil ?_
  change wpList _ _ _ _ _ (World.drew _)
  go_wp2_with fail
  obtain ⟨s0, s1⟩ := set2 r0 r1 (.int .i64 l) (.int .i64 h)
  refine bodyPost_ret (v := .agg #[.int .i64 l, .int .i64 h]) (by simp [results, Try.results22, go_sem, s0, s1]) rfl ⟨rfl, ?_⟩
  exact below_set2 HB.out.drew (by omega) _ _

set_option maxHeartbeats 2000000 in
theorem rMeet (a b c d : Int) (w : World) :
    Calls Try.prog 21 #[.agg #[.int .i64 a, .int .i64 b], .agg #[.int .i64 c, .int .i64 d]] w fun e w' => e = .returned (vR (meetR a b c d)) ∧ Below w.heap.size w w' := by
  obtain ⟨A, B, R⟩ := At2.three w (.int .i64 a) (.int .i64 b) (.int .i64 c) (.int .i64 d) (.int .i64 0) (.int .i64 0) 23 23 23
  have C1 := Lib.hid (fun wx => rMo a c wx)
  have C2 := Lib.hid (fun wx => rLe b d wx)
  have HB := Lib.hid (below3 w (.cells #[.int .i64 a, .int .i64 b] 23) (.cells #[.int .i64 c, .int .i64 d] 23) (.cells #[.int .i64 0, .int .i64 0] 23))
  have HS : Hid ((((w.alloc (.cells #[.int .i64 a, .int .i64 b] 23)).alloc (.cells #[.int .i64 c, .int .i64 d] 23)).alloc (.cells #[.int .i64 0, .int .i64 0] 23)).heap.size = w.heap.size + 1 + 1 + 1) := by show _ = _; simp
  unfold meetR
  generalize max a c = l at *
  generalize min b d = h at *
  obtain ⟨F, hF⟩ : ∃ F, F = (if h < l then (⟨0, 0, 23⟩ : Fx) else ⟨l, h, 0⟩) := ⟨_, rfl⟩
  rw [← hF]
  have HF := Lib.hid hF
  clear hF
  unfold vR
  go_enter Try.func21, Try.ntmps21
  go_wp2_with fail
  generalize ((w.alloc (.cells #[.int .i64 a, .int .i64 b] 23)).alloc (.cells #[.int .i64 c, .int .i64 d] 23)).alloc (.cells #[.int .i64 0, .int .i64 0] 23) = W at *
  obtain ⟨a0, a1, af0, af1, alt⟩ := A
  obtain ⟨b0, b1, bf0, bf1, blt⟩ := B
  obtain ⟨r0, r1, rf0, rf1, rlt⟩ := id R
  go_region_held3 (fun w' => w'.cell? ⟨w.heap.size, 0, none⟩ = some (.int .i64 a) ∧ w'.cell? ⟨w.heap.size, 1, none⟩ = some (.int .i64 b) ∧ w'.cell? ⟨w.heap.size + 1, 0, none⟩ = some (.int .i64 c) ∧ w'.cell? ⟨w.heap.size + 1, 1, none⟩ = some (.int .i64 d)) (go_keep)
    (first
    | (go_at_call 49; refine (C1.out _).mono ?_; rintro e w3 ⟨rfl, rfl⟩)
    | (go_at_call 50; refine (C2.out _).mono ?_; rintro e w3 ⟨rfl, rfl⟩))
  all_goals
    obtain ⟨n0, n1, nf0, nf1, nlt⟩ := At2.new W (.int .i64 l) (.int .i64 h) 23
    have ne1 : ¬ w.heap.size + 1 + 1 = W.heap.size := by have := HS.out; omega
    have ne2 : ¬ W.heap.size = w.heap.size + 1 + 1 := by have := HS.out; omega
    have R' := R.alloc (.cells #[.int .i64 l, .int .i64 h] 23)
    obtain ⟨r0', r1', rf0', rf1', rlt'⟩ := id R'
    have HB' := Lib.hid (HB.out.alloc (by have := HS.out; omega) (.cells #[.int .i64 l, .int .i64 h] 23)).drew
    clear a0 a1 b0 b1 af0 af1 bf0 bf1 alt blt r0 r1 rf0 rf1 rlt
    by_cases hc : l > h
    · have HG := Lib.hid (HF.out.trans (if_pos (show h < l from hc)))
      obtain ⟨s0, s1⟩ := set2 r0' r1' (.int .i64 0) (.int .i64 0)
      go_wp2_with fail
      refine bodyPost_ret (v := .tuple #[.agg #[.int .i64 0, .int .i64 0], .int .i64 23]) (by simp [results, Try.results21, go_sem, s0, s1]) rfl ⟨by rw [HG.out], ?_⟩
      exact below_set2 HB'.out (by omega) _ _
    · have HG := Lib.hid (HF.out.trans (if_neg (show ¬ h < l from hc)))
      obtain ⟨s0, s1⟩ := set2 r0' r1' (.int .i64 l) (.int .i64 h)
      go_wp2_with fail
      refine bodyPost_ret (v := .tuple #[.agg #[.int .i64 l, .int .i64 h], .int .i64 0]) (by simp [results, Try.results21, go_sem, s0, s1]) rfl ⟨by rw [HG.out], ?_⟩
      exact below_set2 HB'.out (by omega) _ _
end Go.Proofs.Ytdkigfcglfgpoaa
