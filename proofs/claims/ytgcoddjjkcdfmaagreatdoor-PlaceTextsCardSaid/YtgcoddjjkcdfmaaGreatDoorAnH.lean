/- The reference: Round and Print. -/
import Derived.Test.YtgcoddjjkcdfmaaGreatDoorAnG
namespace Go.Proofs.YtgcoddjjkcdfmaaGreatDoor
open Go.RowKit
set_option linter.unusedVariables false

theorem rRound (n : Int) (w : World) (h1 : -1099511627776 ≤ n) (h2 : n ≤ 1099511627776) :
    Calls Tryz.prog 41 #[.int .i64 n] w fun e w' => e = .returned (.int .i64 (rndT n)) ∧ Below w.heap.size w w' := by
  have C := Lib.hid (fun wx => rFloor (n + 50) 100 wx (by omega) (by omega) (by omega))
  unfold rndT
  obtain ⟨q, hq⟩ : ∃ q, (n + 50) / 100 = q := ⟨_, rfl⟩
  have b1 : -10995116278 ≤ q ∧ q ≤ 10995116278 := by omega
  obtain ⟨b1, b2⟩ := b1
  rw [hq] at C ⊢
  clear hq
  go_enter Tryz.func41, Tryz.ntmps41
  go_wp2_with fail
  refine (C.out _).mono ?_
  rintro e w1 ⟨rfl, rfl⟩
  go_wp2_with fail
  go_ret
  exact ⟨rfl, Below.refl _ _⟩
theorem rnd_mono {a b : Int} (h : a ≤ b) : rndT a ≤ rndT b := by unfold rndT; omega

set_option maxHeartbeats 2000000 in
theorem rPrint_lo (a b : Int) (w : World) (h : aok a b = true) (hl : rndT a < -1099511627776) :
    Calls Tryz.prog 25 #[.agg #[.int .i64 a, .int .i64 b]] w fun e w' => e = .returned (.tuple #[.string (ba []), .int .i64 5]) ∧ Below w.heap.size w w' := by
  have k := (aok_iff _ _).1 h
  have mo := rnd_mono k.2.2
  have C1 := Lib.hid (fun wx => rRound a wx (by omega) (by omega))
  have C2 := Lib.hid (fun wx => rRound b wx (by omega) (by omega))
  generalize rndT a = x at *
  generalize rndT b = y at *
  clear h k mo
  unfold ba
  have A := At2.new w (.int .i64 a) (.int .i64 b) 25
  have HB := Lib.hid (bstep (Below.refl w.heap.size w) (below1 w (.cells #[.int .i64 a, .int .i64 b] 25)))
  go_enter Tryz.func25, Tryz.ntmps25
  obtain ⟨A0, A1, -, -, -⟩ := id A
  go_wp2_with fail
  clear A0 A1
  obtain ⟨A0, A1⟩ := A.bel
  refine wp_region_bel (by kernel_rfl) (by kernel_rfl) ?_
  repeat (go_big_quiet_step (first | (go_at_call 41; first | (with_reducible refine bel_of (C1.out _)) | (with_reducible refine bel_of (C2.out _)))))
  refine wpQuiet_nil ?_
  intro _ hw'
  obtain ⟨pq, hw''⟩ := hw'
  subst hw''
  have A := A.keep pq.h
  have HB := Lib.hid (bstep HB.out pq.h)
  clear A0 A1
  obtain ⟨A0, A1, -, -, -⟩ := id A
  go_wp2_with fail
  go_ret2
  exact ⟨rfl, HB.out⟩

set_option maxHeartbeats 2000000 in
theorem rPrint_hi (a b : Int) (w : World) (h : aok a b = true) (hl : ¬ rndT a < -1099511627776) (hh : rndT b > 1099511627776) :
    Calls Tryz.prog 25 #[.agg #[.int .i64 a, .int .i64 b]] w fun e w' => e = .returned (.tuple #[.string (ba []), .int .i64 5]) ∧ Below w.heap.size w w' := by
  have k := (aok_iff _ _).1 h
  have mo := rnd_mono k.2.2
  have C1 := Lib.hid (fun wx => rRound a wx (by omega) (by omega))
  have C2 := Lib.hid (fun wx => rRound b wx (by omega) (by omega))
  generalize rndT a = x at *
  generalize rndT b = y at *
  clear h k mo
  unfold ba
  have A := At2.new w (.int .i64 a) (.int .i64 b) 25
  have HB := Lib.hid (bstep (Below.refl w.heap.size w) (below1 w (.cells #[.int .i64 a, .int .i64 b] 25)))
  go_enter Tryz.func25, Tryz.ntmps25
  obtain ⟨A0, A1, -, -, -⟩ := id A
  go_wp2_with fail
  clear A0 A1
  obtain ⟨A0, A1⟩ := A.bel
  refine wp_region_bel (by kernel_rfl) (by kernel_rfl) ?_
  repeat (go_big_quiet_step (first | (go_at_call 41; first | (with_reducible refine bel_of (C1.out _)) | (with_reducible refine bel_of (C2.out _)))))
  refine wpQuiet_nil ?_
  intro _ hw'
  obtain ⟨pq, hw''⟩ := hw'
  subst hw''
  have A := A.keep pq.h
  have HB := Lib.hid (bstep HB.out pq.h)
  clear A0 A1
  obtain ⟨A0, A1, -, -, -⟩ := id A
  go_wp2_with fail
  go_ret2
  exact ⟨rfl, HB.out⟩

set_option maxHeartbeats 2000000 in
theorem rPrint_eq (a b : Int) (w : World) (h : aok a b = true) (hl : ¬ rndT a < -1099511627776) (hh : ¬ rndT b > 1099511627776) (he : rndT a = rndT b) :
    Calls Tryz.prog 25 #[.agg #[.int .i64 a, .int .i64 b]] w fun e w' => e = .returned (.tuple #[.string (ba (prT a b)), .int .i64 0]) ∧ Below w.heap.size w w' := by
  have k := (aok_iff _ _).1 h
  have mo := rnd_mono k.2.2
  have C1 := Lib.hid (fun wx => rRound a wx (by omega) (by omega))
  have C2 := Lib.hid (fun wx => rRound b wx (by omega) (by omega))
  have CT := Lib.hid (fun wx => rText (rndT a) wx ((inA_iff _).2 (by omega)))
  rw [show prT a b = textT (rndT a) from if_pos he]
  rw [← he] at C2 hh
  generalize textT (rndT a) = T at *
  generalize rndT a = x at *
  clear h k mo he
  have A := At2.new w (.int .i64 a) (.int .i64 b) 25
  have HB := Lib.hid (bstep (Below.refl w.heap.size w) (below1 w (.cells #[.int .i64 a, .int .i64 b] 25)))
  go_enter Tryz.func25, Tryz.ntmps25
  obtain ⟨A0, A1, -, -, -⟩ := id A
  go_wp2_with fail
  clear A0 A1
  obtain ⟨A0, A1⟩ := A.bel
  refine wp_region_bel (by kernel_rfl) (by kernel_rfl) ?_
  repeat (go_big_quiet_step (first | (go_at_call 41; first | (with_reducible refine bel_of (C1.out _)) | (with_reducible refine bel_of (C2.out _)))))
  refine wpQuiet_nil ?_
  intro _ hw'
  obtain ⟨pq, hw''⟩ := hw'
  subst hw''
  have A := A.keep pq.h
  have HB := Lib.hid (bstep HB.out pq.h)
  clear A0 A1
  obtain ⟨A0, A1, -, -, -⟩ := id A
  go_wp2_with fail
  refine (CT.out _).mono ?_
  rintro e w1 ⟨rfl, hb⟩
  have A := (A.keep hb)
  have HB := Lib.hid (bstep HB.out hb)
  clear hb
  clear A0 A1
  obtain ⟨A0, A1, -, -, -⟩ := id A
  go_wp2_with fail
  go_ret2
  exact ⟨rfl, HB.out⟩

set_option maxHeartbeats 2000000 in
theorem rPrint_ne (a b : Int) (w : World) (h : aok a b = true) (hl : ¬ rndT a < -1099511627776) (hh : ¬ rndT b > 1099511627776) (he : ¬ rndT a = rndT b) :
    Calls Tryz.prog 25 #[.agg #[.int .i64 a, .int .i64 b]] w fun e w' => e = .returned (.tuple #[.string (ba (prT a b)), .int .i64 0]) ∧ Below w.heap.size w w' := by
  have k := (aok_iff _ _).1 h
  have mo := rnd_mono k.2.2
  have C1 := Lib.hid (fun wx => rRound a wx (by omega) (by omega))
  have C2 := Lib.hid (fun wx => rRound b wx (by omega) (by omega))
  have CT := Lib.hid (fun wx => rText (rndT a) wx ((inA_iff _).2 (by omega)))
  have CU := Lib.hid (fun wx => rText (rndT b) wx ((inA_iff _).2 (by omega)))
  rw [show prT a b = textT (rndT a) ++ [32, 46, 46, 32] ++ textT (rndT b) from if_neg he]
  have s1 := textT_len (rndT a)
  have s2 := textT_len (rndT b)
  have t0 : (rndT a == rndT b) = false := beq_eq_false_iff_ne.2 he
  generalize textT (rndT a) = T at *
  generalize textT (rndT b) = U at *
  generalize rndT a = x at *
  generalize rndT b = y at *
  unfold ba at *
  clear h k mo he
  have A := At2.new w (.int .i64 a) (.int .i64 b) 25
  have HB := Lib.hid (bstep (Below.refl w.heap.size w) (below1 w (.cells #[.int .i64 a, .int .i64 b] 25)))
  go_enter Tryz.func25, Tryz.ntmps25
  obtain ⟨A0, A1, -, -, -⟩ := id A
  go_wp2_with fail
  clear A0 A1
  obtain ⟨A0, A1⟩ := A.bel
  refine wp_region_bel (by kernel_rfl) (by kernel_rfl) ?_
  repeat (go_big_quiet_step (first | (go_at_call 41; first | (with_reducible refine bel_of (C1.out _)) | (with_reducible refine bel_of (C2.out _)))))
  refine wpQuiet_nil ?_
  intro _ hw'
  obtain ⟨pq, hw''⟩ := hw'
  subst hw''
  have A := A.keep pq.h
  have HB := Lib.hid (bstep HB.out pq.h)
  clear A0 A1
  obtain ⟨A0, A1, -, -, -⟩ := id A
  go_wp2_with fail
  refine (CT.out _).mono ?_
  rintro e w1 ⟨rfl, hb⟩
  have A := (A.keep hb)
  have HB := Lib.hid (bstep HB.out hb)
  clear hb
  clear A0 A1
  obtain ⟨A0, A1, -, -, -⟩ := id A
  go_wp2_with fail
  refine (CU.out _).mono ?_
  rintro e w2 ⟨rfl, hb⟩
  have A := (A.keep hb)
  have HB := Lib.hid (bstep HB.out hb)
  clear hb
  clear A0 A1
  obtain ⟨A0, A1, -, -, -⟩ := id A
  go_wp2_with fail
  go_ret2
  exact ⟨ret_se (by simp only [← ba_app']; try rfl), HB.out⟩

theorem rPrint (a b : Int) (w : World) (h : aok a b = true) :
    Calls Tryz.prog 25 #[.agg #[.int .i64 a, .int .i64 b]] w fun e w' => e = .returned (.tuple #[.string (prS a b), .int .i64 (prE a b)]) ∧ Below w.heap.size w w' := by
  by_cases hl : rndT a < -1099511627776
  · have hp : prO a b = false := decide_eq_false (by omega)
    rw [show prS a b = ba [] from if_neg (by rw [hp]; simp), show prE a b = 5 from (if_pos h).trans (if_neg (by rw [hp]; simp))]
    exact rPrint_lo a b w h hl
  · by_cases hh : rndT b > 1099511627776
    · have hp : prO a b = false := decide_eq_false (by omega)
      rw [show prS a b = ba [] from if_neg (by rw [hp]; simp), show prE a b = 5 from (if_pos h).trans (if_neg (by rw [hp]; simp))]
      exact rPrint_hi a b w h hl hh
    · have hp : prO a b = true := decide_eq_true (by omega)
      rw [show prS a b = ba (prT a b) from if_pos ⟨h, hp⟩, show prE a b = 0 from (if_pos h).trans (if_pos hp)]
      by_cases he : rndT a = rndT b
      · exact rPrint_eq a b w h hl hh he
      · exact rPrint_ne a b w h hl hh he
end Go.Proofs.YtgcoddjjkcdfmaaGreatDoor
