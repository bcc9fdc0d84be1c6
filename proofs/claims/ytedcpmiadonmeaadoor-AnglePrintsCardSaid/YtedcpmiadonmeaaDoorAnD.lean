/- Angle: contract of the reference's Agree. -/
import Derived.Test.YtedcpmiadonmeaaDoorAnC
namespace Go.Proofs.YtedcpmiadonmeaaDoor
open Go.RowKit
set_option linter.unusedVariables false

/-- do two arcs meet, the second one moved by so many turns -/
theorem rAgree_step (x y u v k : Int) : ameets x y (u + k * 21600000) (v + k * 21600000) = decide (x ≤ v + k * 21600000 ∧ u + k * 21600000 ≤ y) := rfl
set_option maxHeartbeats 2000000 in
theorem rAgree (a b c d : Int) (w : World) (h : aok a b = true) (k : aok c d = true) :
    Calls Tryd.prog 37 #[.agg #[.int .i64 a, .int .i64 b], .agg #[.int .i64 c, .int .i64 d]] w fun e w' => e = .returned (.bool (agR a b c d)) ∧ Below w.heap.size w w' := by
  obtain ⟨A, B⟩ := At2.two w (.int .i64 a) (.int .i64 b) (.int .i64 c) (.int .i64 d) 23 23
  have HB := Lib.hid (below2 w (.cells #[.int .i64 a, .int .i64 b] 23) (.cells #[.int .i64 c, .int .i64 d] 23))
  have C1 := Lib.hid (fun wx => rTurn a b wx h)
  have C2 := Lib.hid (fun wx => rTurn c d wx k)
  have t1 := tr_in ((aok_iff _ _).1 h).2.2
  have t2 := tr_in ((aok_iff _ _).1 k).2.2
  obtain ⟨R, hR⟩ : ∃ R, agR a b c d = R := ⟨_, rfl⟩
  rw [hR]
  unfold agR agK at hR
  generalize trL a b = x at *
  generalize trH a b = y at *
  generalize trL c d = u at *
  generalize trH c d = v at *
  have HR := Lib.hid hR
  clear h k hR
  unfold vI at *
  obtain ⟨a0, a1, af0, af1, alt⟩ := id A
  obtain ⟨b0, b1, bf0, bf1, blt⟩ := id B
  go_enter Tryd.func37, Tryd.ntmps37
  go_upto_region 1 with fail
  generalize (w.alloc (.cells #[.int .i64 a, .int .i64 b] 23)).alloc (.cells #[.int .i64 c, .int .i64 d] 23) = W at *
  go_cut [] from 6 to 9 (fun wx => Hid (At2 wx w.heap.size (.int .i64 x) (.int .i64 y)) ∧ Hid (At2 wx (w.heap.size + 1) (.int .i64 u) (.int .i64 v)) ∧ Hid (Below w.heap.size w wx))
  case first =>
    have A := A.keep ((Below.refl _ _).drew)
    have B := B.keep ((Below.refl _ _).drew)
    have HB := Lib.hid (HB.out.drew)
    go_region_with
      (first
      | (go_at_call 36; (first | (with_reducible refine (C1.out _).mono ?_) | (with_reducible refine (C2.out _).mono ?_)); rintro e w9 ⟨rfl, hb⟩; have A := A.keep hb; have B := B.keep hb; have HB := Lib.hid (bstep HB.out hb); clear hb a0 a1 af0 af1 alt b0 b1 bf0 bf1 blt; obtain ⟨a0, a1, af0, af1, alt⟩ := id A; obtain ⟨b0, b1, bf0, bf1, blt⟩ := id B))
    all_goals
      go_wp2_with fail
      go_meet
      exact ⟨Lib.hid ((A.put _ _).far (by omega) _ _), Lib.hid ((B.far (by omega) _ _).put _ _), Lib.hid (below_set2 (below_set2 HB.out (by omega) _ _) (by omega) _ _)⟩
  case rest =>
    obtain ⟨A', B', HB'⟩ := hcut
    clear A B HB a0 a1 af0 af1 alt b0 b1 bf0 bf1 blt C1 C2
    have A := A'.out
    have B := B'.out
    have HB := HB'
    clear A' B' HB'
    have N0 := Lib.hid (fun wx => rAdd u v (-21600000) (-21600000) wx (by omega) (by omega) (by omega) (by omega))
    have N1 := Lib.hid (fun wx => rAdd u v 0 0 wx (by omega) (by omega) (by omega) (by omega))
    have N2 := Lib.hid (fun wx => rAdd u v 21600000 21600000 wx (by omega) (by omega) (by omega) (by omega))
    have M0 := Lib.hid (fun wx => rMeets x y (u + -21600000) (v + -21600000) wx)
    have M1 := Lib.hid (fun wx => rMeets x y (u + 0) (v + 0) wx)
    have M2 := Lib.hid (fun wx => rMeets x y (u + 21600000) (v + 21600000) wx)
    clear t1 t2
    generalize ameets x y (u + -21600000) (v + -21600000) = m0 at *
    generalize ameets x y (u + 0) (v + 0) = m1 at *
    generalize ameets x y (u + 21600000) (v + 21600000) = m2 at *
    generalize u + -21600000 = u0 at *
    generalize v + -21600000 = v0 at *
    generalize u + 0 = u1 at *
    generalize v + 0 = v1 at *
    generalize u + 21600000 = u2 at *
    generalize v + 21600000 = v2 at *
    unfold vI at *
    go_wp2_with fail
    go_loopg [5] 3 (fun m v5 wr => ∃ j : Nat, m = 3 - j ∧ v5 = .int .i64 ((j : Int) - 1) ∧ Hid (j ≤ 3) ∧ Hid ((1 ≤ j → m0 = false) ∧ (2 ≤ j → m1 = false) ∧ (3 ≤ j → m2 = false)) ∧ Hid (At2 wr w.heap.size (.int .i64 x) (.int .i64 y)) ∧ Hid (At2 wr (w.heap.size + 1) (.int .i64 u) (.int .i64 v)) ∧ Hid (Below w.heap.size w wr))
    case atStart => exact ⟨0, rfl, by go_num, Nat.zero_le _, ⟨fun h => absurd h (by omega), fun h => absurd h (by omega), fun h => absurd h (by omega)⟩, A, B, HB⟩
    case round =>
      obtain ⟨j, hm, rfl, HJ, HM, HA, HC, HB⟩ := hrel
      have HG := Lib.hid hm
      clear hm A B
      have A := HA.out
      have B := HC.out
      clear HA HC
      rcases (show j = 0 ∨ j = 1 ∨ j = 2 ∨ j = 3 by have := HJ.out; omega) with rfl | rfl | rfl | rfl
      · go_upto_region 5 with fail
        obtain ⟨A0, A1⟩ := A.bel
        obtain ⟨B0, B1⟩ := B.bel
        refine wp_region_bel (by kernel_rfl) (by kernel_rfl) ?_
        repeat (go_big_quiet_step (first | (go_at_call 27; with_reducible refine bel_of (N0.out _)) | (go_at_call 32; with_reducible refine bel_of (M0.out _))))
        refine wpQuiet_nil ?_
        intro _ hw'
        obtain ⟨pq, hw''⟩ := hw'
        subst hw''
        have HB := Lib.hid (bstep HB.out pq.h)
        have A := Lib.hid (A.keep pq.h)
        have B := Lib.hid (B.keep pq.h)
        clear A0 A1 B0 B1
        rcases Bool.eq_false_or_eq_true m0 with zm | zm
        · have HR : Hid (true = R) := by rw [zm] at HR; exact HR.out
          rw [zm]
          clear zm
          go_wp2_with fail
          go_ret
          exact ⟨ret_bool HR.out, HB.out⟩
        · have HM' := Lib.hid (show (1 ≥ 1 → m0 = false) ∧ (1 ≥ 2 → m1 = false) ∧ (1 ≥ 3 → m2 = false) from ⟨fun _ => zm, fun h => absurd h (by omega), fun h => absurd h (by omega)⟩)
          rw [zm]
          clear zm
          go_wp2_with fail
          go_roundg 2
          case measure => have := HG.out; omega
          case rel => exact ⟨1, rfl, by go_num, by show _ ≤ _; omega, HM', A, B, HB⟩
      · go_upto_region 5 with fail
        obtain ⟨A0, A1⟩ := A.bel
        obtain ⟨B0, B1⟩ := B.bel
        refine wp_region_bel (by kernel_rfl) (by kernel_rfl) ?_
        repeat (go_big_quiet_step (first | (go_at_call 27; with_reducible refine bel_of (N1.out _)) | (go_at_call 32; with_reducible refine bel_of (M1.out _))))
        refine wpQuiet_nil ?_
        intro _ hw'
        obtain ⟨pq, hw''⟩ := hw'
        subst hw''
        have HB := Lib.hid (bstep HB.out pq.h)
        have A := Lib.hid (A.keep pq.h)
        have B := Lib.hid (B.keep pq.h)
        clear A0 A1 B0 B1
        rcases Bool.eq_false_or_eq_true m1 with zm | zm
        · have HR : Hid (true = R) := by rw [HM.out.1 (by omega), zm] at HR; exact HR.out
          rw [zm]
          clear zm
          go_wp2_with fail
          go_ret
          exact ⟨ret_bool HR.out, HB.out⟩
        · have HM' := Lib.hid (show (2 ≥ 1 → m0 = false) ∧ (2 ≥ 2 → m1 = false) ∧ (2 ≥ 3 → m2 = false) from ⟨fun _ => HM.out.1 (by omega), fun _ => zm, fun h => absurd h (by omega)⟩)
          rw [zm]
          clear zm
          go_wp2_with fail
          go_roundg 1
          case measure => have := HG.out; omega
          case rel => exact ⟨2, rfl, by go_num, by show _ ≤ _; omega, HM', A, B, HB⟩
      · go_upto_region 5 with fail
        obtain ⟨A0, A1⟩ := A.bel
        obtain ⟨B0, B1⟩ := B.bel
        refine wp_region_bel (by kernel_rfl) (by kernel_rfl) ?_
        repeat (go_big_quiet_step (first | (go_at_call 27; with_reducible refine bel_of (N2.out _)) | (go_at_call 32; with_reducible refine bel_of (M2.out _))))
        refine wpQuiet_nil ?_
        intro _ hw'
        obtain ⟨pq, hw''⟩ := hw'
        subst hw''
        have HB := Lib.hid (bstep HB.out pq.h)
        have A := Lib.hid (A.keep pq.h)
        have B := Lib.hid (B.keep pq.h)
        clear A0 A1 B0 B1
        rcases Bool.eq_false_or_eq_true m2 with zm | zm
        · have HR : Hid (true = R) := by rw [HM.out.1 (by omega), HM.out.2.1 (by omega), zm] at HR; exact HR.out
          rw [zm]
          clear zm
          go_wp2_with fail
          go_ret
          exact ⟨ret_bool HR.out, HB.out⟩
        · have HM' := Lib.hid (show (3 ≥ 1 → m0 = false) ∧ (3 ≥ 2 → m1 = false) ∧ (3 ≥ 3 → m2 = false) from ⟨fun _ => HM.out.1 (by omega), fun _ => HM.out.2.1 (by omega), fun _ => zm⟩)
          rw [zm]
          clear zm
          go_wp2_with fail
          go_roundg 0
          case measure => have := HG.out; omega
          case rel => exact ⟨3, rfl, by go_num, by show _ ≤ _; omega, HM', A, B, HB⟩
      · have e0 := HM.out.1 (by omega)
        have e1 := HM.out.2.1 (by omega)
        have e2 := HM.out.2.2 (by omega)
        rw [e0, e1, e2] at HR
        have HR : Hid (false = R) := HR.out
        clear M0 M1 M2 e0 e1 e2
        go_wp2_with fail
        go_ret
        exact ⟨ret_bool HR.out, HB.out⟩
end Go.Proofs.YtedcpmiadonmeaaDoor
