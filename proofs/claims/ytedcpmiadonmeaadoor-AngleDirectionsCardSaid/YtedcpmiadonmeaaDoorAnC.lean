/- Angle: contracts of the reference's Times, Agree. -/
import Derived.Test.YtedcpmiadonmeaaDoorAnB
namespace Go.Proofs.YtedcpmiadonmeaaDoor
open Go.RowKit
set_option linter.unusedVariables false
set_option maxRecDepth 100000

/-- a product of an arc's end and a numerator -/
theorem prod60 {a n : Int} (h1 : -1099511627776 ≤ a) (h2 : a ≤ 1099511627776) (k1 : -1048576 ≤ n) (k2 : n ≤ 1048576) : -1152921504606846976 ≤ a * n ∧ a * n ≤ 1152921504606846976 := by
  have := mul_abs (a := a) (b := n) (A := 1099511627776) (B := 1048576) h1 h2 k1 k2
  omega
theorem rTimesP (a b n d : Int) (w : World) (h : aok a b = true) (hn : 0 ≤ n) (hn2 : n ≤ 1048576) (hd : 1 ≤ d) (hd2 : d ≤ 1048576) :
    Calls Tryd.prog 25 #[.agg #[.int .i64 a, .int .i64 b], .int .i64 n, .int .i64 d] w fun e w' => e = .returned (vI (a * n / d) (cdiv (b * n) d)) ∧ Below w.heap.size w w' := by
  obtain ⟨h1, h2, h3⟩ := (aok_iff _ _).1 h
  obtain ⟨A, R⟩ := At2.two w (.int .i64 a) (.int .i64 b) (.int .i64 0) (.int .i64 0) 23 23
  have HB := Lib.hid (below2 w (.cells #[.int .i64 a, .int .i64 b] 23) (.cells #[.int .i64 0, .int .i64 0] 23))
  have pa := prod60 (a := a) (n := n) (by omega) (by omega) (by omega) (by omega)
  have pb := prod60 (a := b) (n := n) (by omega) (by omega) (by omega) (by omega)
  obtain ⟨x, hx⟩ : ∃ x, a * n = x := ⟨_, rfl⟩
  obtain ⟨y, hy⟩ : ∃ y, b * n = y := ⟨_, rfl⟩
  rw [hx] at pa ⊢
  rw [hy] at pb ⊢
  have w1 : IntKind.i64.wrap (a * n) = x := (i64_is (by omega) (by omega)).trans hx
  have w2 : IntKind.i64.wrap (b * n) = y := (i64_is (by omega) (by omega)).trans hy
  have C1 := Lib.hid (fun wx => rFloor x d wx (by omega) (by omega) (by omega))
  have C2 := Lib.hid (fun wx => rCeil y d wx (by omega) (by omega) (by omega))
  have k : ¬ n < 0 := by omega
  clear h hx hy pa pb h1 h2 h3 hd hd2 hn hn2
  generalize x / d = l at *
  generalize cdiv y d = u at *
  unfold vI
  go_enter Tryd.func25, Tryd.ntmps25
  go_wp2_with fail
  generalize (w.alloc (.cells #[.int .i64 a, .int .i64 b] 23)).alloc (.cells #[.int .i64 0, .int .i64 0] 23) = W at *
  obtain ⟨a0, a1, af0, af1, alt⟩ := A
  obtain ⟨r0, r1, rf0, rf1, rlt⟩ := R
  go_still_tail 13, (by kernel_rfl)
  still_call (C1.out _)
  repeat still_step
  still_call (C2.out _)
  repeat still_step
  refine wpStill_nil ?_
  change wpList _ _ _ _ _ (World.drew _)
  go_wp2_with fail
  obtain ⟨s0, s1⟩ := set2 r0 r1 (.int .i64 l) (.int .i64 u)
  refine bodyPost_ret (v := .agg #[.int .i64 l, .int .i64 u]) (by simp [results, Tryd.results25, go_sem, s0, s1]) rfl ⟨rfl, ?_⟩
  exact below_set2 HB.out.drew (by omega) _ _
theorem rTimes (a b n d : Int) (w : World) (h : aok a b = true) (hk : tmOk n d = true) :
    Calls Tryd.prog 25 #[.agg #[.int .i64 a, .int .i64 b], .int .i64 n, .int .i64 d] w fun e w' => e = .returned (vI (tmL a b n d) (tmH a b n d)) ∧ Below w.heap.size w w' := by
  obtain ⟨k1, k2, k3, k4⟩ := (tmOk_iff _ _).1 hk
  obtain ⟨h1, h2, h3⟩ := (aok_iff _ _).1 h
  by_cases hn : n < 0
  · have CN := Lib.hid (fun wx => rNeg a b wx h)
    have CT := Lib.hid (fun wx => rTimesP (-b) (-a) (-n) d wx ((aok_iff _ _).2 ⟨by omega, by omega, by omega⟩) (by omega) (by omega) k3 k4)
    obtain ⟨A, R⟩ := At2.two w (.int .i64 a) (.int .i64 b) (.int .i64 0) (.int .i64 0) 23 23
    obtain ⟨a0, a1, af0, af1, alt⟩ := id A
    rw [show tmL a b n d = -b * -n / d from if_pos hn, show tmH a b n d = cdiv (-a * -n) d from if_pos hn]
    generalize -b * -n / d = l at *
    generalize cdiv (-a * -n) d = u at *
    obtain ⟨m, hm⟩ : ∃ m, 0 - n = m := ⟨_, rfl⟩
    rw [show -n = m by omega] at CT
    have wm := i64_is (x := m) (by omega) (by omega)
    generalize -b = nb at *
    generalize -a = na at *
    unfold vI at *
    clear h h1 h2 h3 k1 k2 k3 k4 hk
    go_enter Tryd.func25, Tryd.ntmps25
    go_wp2_with fail
    refine (CN.out _).mono ?_
    rintro e w1 ⟨rfl, hb⟩
    have R := R.keep hb
    have HB := Lib.hid (bel2 hb)
    clear hb a0 a1 af0 af1 alt
    go_wp2_with fail
    refine (CT.out _).mono ?_
    rintro e w2 ⟨rfl, hb⟩
    obtain ⟨r0, r1, rf0, rf1, rlt⟩ := R.keep hb
    have HB := Lib.hid (bstep HB.out hb)
    clear hb
    obtain ⟨s0, s1⟩ := set2 r0 r1 (.int .i64 l) (.int .i64 u)
    go_wp2_with fail
    refine bodyPost_ret (v := .agg #[.int .i64 l, .int .i64 u]) (by simp [results, Tryd.results25, go_sem, s0, s1]) rfl ⟨rfl, ?_⟩
    exact below_set2 HB.out (by omega) _ _
  · rw [show tmL a b n d = a * n / d from if_neg hn, show tmH a b n d = cdiv (b * n) d from if_neg hn]
    exact rTimesP a b n d w h (by omega) k2 k3 k4
end Go.Proofs.YtedcpmiadonmeaaDoor
