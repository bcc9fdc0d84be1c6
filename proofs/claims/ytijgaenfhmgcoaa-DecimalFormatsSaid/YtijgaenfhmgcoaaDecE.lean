/- Contracts of the reference's Format and Print. -/
import Derived.Test.YtijgaenfhmgcoaaDecD
namespace Go.Proofs.Ytijgaenfhmgcoaa
open Go.RowKit
set_option linter.unusedVariables false

theorem rdigits_int (n l : Int) (w : World) (h0 : 0 ≤ n) (h1 : n ≤ 1152921504606846976) (l0 : 0 ≤ l) (l1 : l ≤ 9) :
    Calls Try.prog 32 #[.int .i64 n, .int .i64 l] w fun e w' => e = .returned (.string ⟨(digs (rcnt n.toNat l.toNat) n.toNat).toArray⟩) ∧ Below w.heap.size w w' := by
  have a := rdigits_any n.toNat l.toNat w (by omega) (by omega)
  rw [Int.toNat_of_nonneg h0, Int.toNat_of_nonneg l0] at a
  exact a

theorem digs_len_le (n l : Nat) (hl : l ≤ 9) : (digs (rcnt n l) n).length ≤ 20 := by rw [digs_length]; exact rcnt_le n l hl

set_option maxRecDepth 100000 in
set_option maxHeartbeats 1000000 in
theorem rformat_any (n : Int) (d : Nat) (w : World) (h1 : -1152921504606846976 ≤ n) (h2 : n ≤ 1152921504606846976) (hd : d ≤ 9) :
    Calls Try.prog 12 #[.int .i64 n, .int .i64 (d : Int)] w fun e w' => e = .returned (.string ⟨(decT n d).toArray⟩) ∧ Below w.heap.size w w' := by
  obtain ⟨a, ha⟩ : ∃ a : Nat, a = n.natAbs := ⟨_, rfl⟩
  have hab : a ≤ 1152921504606846976 := by omega
  obtain ⟨q, hq⟩ : ∃ q : Nat, q = 10 ^ d := ⟨_, rfl⟩
  have hq0 : 1 ≤ q := by rw [hq]; exact Nat.pow_pos (by omega)
  have hq9 : q ≤ 1000000000 := by rw [hq]; exact pow10_le d hd
  have cP : ∀ wx, Calls Try.prog 33 #[.int .i64 (d : Int)] wx fun e w' => e = .returned (.int .i64 (q : Int)) ∧ wx = w' := fun wx => by rw [hq]; exact power_any d wx hd
  have CP := Lib.hid cP
  have hdv : a / q ≤ a := Nat.div_le_self _ _
  have hmd : a % q < q := Nat.mod_lt _ (by omega)
  have c1 : ((a / q : Nat) : Int) = (a : Int) / (q : Int) := Int.natCast_ediv a q
  have c2 : ((a % q : Nat) : Int) = (a : Int) % (q : Int) := Int.natCast_emod a q
  have t1 : ((a : Int) / (q : Int)).toNat = a / q := by rw [← c1]; exact Int.toNat_natCast _
  have t2 : ((a : Int) % (q : Int)).toNat = a % q := by rw [← c2]; exact Int.toNat_natCast _
  have T1 := Lib.hid t1
  have T2 := Lib.hid t2
  have dv : (a : Int) / (q : Int) ≤ 1152921504606846976 := by omega
  have dv0 : 0 ≤ (a : Int) / (q : Int) := by rw [← c1]; omega
  have md : (a : Int) % (q : Int) ≤ 1152921504606846976 := by omega
  have md0 : 0 ≤ (a : Int) % (q : Int) := by omega
  have l1 := digs_len_le (a / q) 1 (by omega)
  have l2 := digs_len_le (a % q) d hd
  clear c1 c2
  clear cP t1 t2 hdv hmd
  by_cases hn : n < 0
  · have hna : 0 - n = (a : Int) := by omega
    have hna' : -n = (a : Int) := by omega
    by_cases hd0 : 0 < d
    · have D : Hid (decT n d = [45] ++ digs (rcnt ((a : Int) / (q : Int)).toNat 1) ((a : Int) / (q : Int)).toNat ++ [46] ++ digs (rcnt ((a : Int) % (q : Int)).toNat d) ((a : Int) % (q : Int)).toNat) := by
        show decT n d = _
        rw [T1.out, T2.out, hq]; unfold decT; rw [if_pos hn, ← ha, refT_pos a d hd0 hab]; simp
      clear ha hq
      go_enter Try.func12, Try.ntmps12
      go_wp2_with (go_at_call 33; refine (CP.out _).mono ?_; rintro e w' ⟨rfl, rfl⟩)
      refine (rdigits_int _ 1 _ dv0 dv (by omega) (by omega)).mono ?_
      rintro e w1 ⟨rfl, hb1⟩
      go_wp2_with (first | (go_at_call 33; refine (CP.out _).mono ?_; rintro e w' ⟨rfl, rfl⟩))
      refine (rdigits_int _ d _ md0 md (by omega) (by omega)).mono ?_
      rintro e w2 ⟨rfl, hb2⟩
      go_wp2_with fail
      go_ret
      exact ⟨ret_s (by rw [D.out]; simp only [← ba_app]; try rfl), hb1.trans (hb2.mono hb1.size)⟩
    · obtain rfl : d = 0 := by omega
      have l3 := digs_len_le a 1 (by omega)
      have D : Hid (decT n 0 = [45] ++ digs (rcnt a 1) a) := by
        show decT n 0 = _
        unfold decT; rw [if_pos hn, ← ha, refT_zero a hab]
      clear ha hq T1 T2 CP dv dv0 md md0 l1 l2
      go_enter Try.func12, Try.ntmps12
      go_wp2_with (go_at_call 33; refine (power_any 0 _ (by omega)).mono ?_; rintro e w' ⟨rfl, rfl⟩)
      refine (rdigits_int _ 1 _ (by omega) (by omega) (by omega) (by omega)).mono ?_
      rintro e w1 ⟨rfl, hb1⟩
      go_wp2_with fail
      go_ret
      exact ⟨ret_s (by rw [D.out]; simp only [← ba_app]; try rfl), hb1⟩
  · obtain rfl : n = (a : Int) := by omega
    by_cases hd0 : 0 < d
    · have D : Hid (decT (a : Int) d = [] ++ digs (rcnt ((a : Int) / (q : Int)).toNat 1) ((a : Int) / (q : Int)).toNat ++ [46] ++ digs (rcnt ((a : Int) % (q : Int)).toNat d) ((a : Int) % (q : Int)).toNat) := by
        show decT (a : Int) d = _
        rw [T1.out, T2.out, hq]; unfold decT; rw [if_neg hn, ← ha, refT_pos a d hd0 hab]
        simp
      clear ha hq
      go_enter Try.func12, Try.ntmps12
      go_wp2_with (go_at_call 33; refine (CP.out _).mono ?_; rintro e w' ⟨rfl, rfl⟩)
      refine (rdigits_int _ 1 _ dv0 dv (by omega) (by omega)).mono ?_
      rintro e w1 ⟨rfl, hb1⟩
      go_wp2_with (first | (go_at_call 33; refine (CP.out _).mono ?_; rintro e w' ⟨rfl, rfl⟩))
      refine (rdigits_int _ d _ md0 md (by omega) (by omega)).mono ?_
      rintro e w2 ⟨rfl, hb2⟩
      go_wp2_with fail
      go_ret
      exact ⟨ret_s (by rw [D.out]; simp only [← ba_app]; try rfl), hb1.trans (hb2.mono hb1.size)⟩
    · obtain rfl : d = 0 := by omega
      have l3 := digs_len_le a 1 (by omega)
      have D : Hid (decT (a : Int) 0 = [] ++ digs (rcnt a 1) a) := by
        show decT (a : Int) 0 = _
        unfold decT; rw [if_neg hn, ← ha, refT_zero a hab]
      clear ha hq T1 T2 CP dv dv0 md md0 l1 l2
      go_enter Try.func12, Try.ntmps12
      go_wp2_with (go_at_call 33; refine (power_any 0 _ (by omega)).mono ?_; rintro e w' ⟨rfl, rfl⟩)
      refine (rdigits_int _ 1 _ (by omega) (by omega) (by omega) (by omega)).mono ?_
      rintro e w1 ⟨rfl, hb1⟩
      go_wp2_with fail
      go_ret
      exact ⟨ret_s (by rw [D.out]; simp only [← ba_app]; try rfl), hb1⟩


theorem rErr_vals (lo hi u : Int) : rErr lo hi u = 0 ∨ rErr lo hi u = 1 ∨ rErr lo hi u = 2 ∨ rErr lo hi u = 5 := by
  unfold rErr; split; simp; split; simp; split <;> simp

set_option maxRecDepth 100000 in
set_option maxHeartbeats 1000000 in
theorem rprint_ok (lo hi u : Int) (d : Nat) (w : World) (h : rErr lo hi u = 0) (hd : d ≤ 9) :
    Calls Try.prog 17 #[.int .i64 lo, .int .i64 hi, .int .i64 u, .int .i64 (d : Int)] w fun e w' => e = .returned (.tuple #[.string ⟨(prText lo hi u d).toArray⟩, .int .i64 0]) ∧ Below w.heap.size w w' := by
  obtain ⟨h1, h2, h3, h4, h5⟩ := rErr_ok h
  have k3 := (fits_iff lo).1 h3
  have k4 := (fits_iff hi).1 h4
  have b1 := near_le lo u h1 1152921504606846976 (by omega) k3.2
  have b2 := near_ge lo u h1 (-1152921504606846976) (by omega) k3.1
  have b3 := near_le hi u h1 1152921504606846976 (by omega) k4.2
  have b4 := near_ge hi u h1 (-1152921504606846976) (by omega) k4.1
  have l1 := decT_len (near lo u) d b2 b1 hd
  have l2 := decT_len (near hi u) d b4 b3 hd
  by_cases he : near lo u = near hi u
  · have P : Hid (prText lo hi u d = decT (near lo u) d) := by show prText lo hi u d = _; unfold prText; rw [if_pos he]
    have e1 : rdErr lo hi u = 0 := by unfold rdErr; rw [if_pos h, if_pos he]
    have c : Hid (∀ wx, Calls Try.prog 16 #[.int .i64 lo, .int .i64 hi, .int .i64 u] wx fun e w' => e = .returned (.tuple #[.int .i64 (rdVal lo hi u), .int .i64 0]) ∧ wx = w') := by
      intro wx; rw [← e1]; exact rround_any lo hi u wx
    clear h he h3 h4 e1
    go_enter Try.func17, Try.ntmps17
    go_wp2_with (first | (go_at_call 16; refine (c.out _).mono ?_; rintro e w' ⟨rfl, rfl⟩) | (go_at_call 36; refine (multiple_any lo u _ k3.1 k3.2 h1 h2).mono ?_; rintro e w' ⟨rfl, rfl⟩))
    refine (rformat_any _ d _ b2 b1 hd).mono ?_
    rintro e w1 ⟨rfl, hb1⟩
    go_wp2_with fail
    go_ret2
    exact ⟨ret_se (by rw [P.out]), hb1⟩
  · have P : Hid (prText lo hi u d = decT (near lo u) d ++ [32, 46, 46, 32] ++ decT (near hi u) d) := by show prText lo hi u d = _; unfold prText; rw [if_neg he]
    have e1 : rdErr lo hi u = 24 := by unfold rdErr; rw [if_pos h, if_neg he]
    have c : Hid (∀ wx, Calls Try.prog 16 #[.int .i64 lo, .int .i64 hi, .int .i64 u] wx fun e w' => e = .returned (.tuple #[.int .i64 (rdVal lo hi u), .int .i64 24]) ∧ wx = w') := by
      intro wx; rw [← e1]; exact rround_any lo hi u wx
    clear h he h3 h4 e1
    go_enter Try.func17, Try.ntmps17
    go_wp2_with (first | (go_at_call 16; refine (c.out _).mono ?_; rintro e w' ⟨rfl, rfl⟩) | (go_at_call 36; refine (multiple_any lo u _ k3.1 k3.2 h1 h2).mono ?_; rintro e w' ⟨rfl, rfl⟩))
    refine (rformat_any _ d _ b2 b1 hd).mono ?_
    rintro e w1 ⟨rfl, hb1⟩
    go_wp2_with (go_at_call 36; refine (multiple_any hi u _ k4.1 k4.2 h1 h2).mono ?_; rintro e w' ⟨rfl, rfl⟩)
    refine (rformat_any _ d _ b4 b3 hd).mono ?_
    rintro e w2 ⟨rfl, hb2⟩
    go_wp2_with fail
    go_ret2
    exact ⟨ret_se (by rw [P.out]; simp only [← ba_app]), hb1.trans (hb2.mono hb1.size)⟩

set_option maxHeartbeats 400000 in
theorem rprint_err (lo hi u d : Int) (w : World) (h : prErr lo hi u d ≠ 0) :
    Calls Try.prog 17 #[.int .i64 lo, .int .i64 hi, .int .i64 u, .int .i64 d] w fun e w' => e = .returned (.tuple #[.string ⟨#[]⟩, .int .i64 (prErr lo hi u d)]) ∧ w = w' := by
  by_cases h1 : rErr lo hi u = 0
  · have P : prErr lo hi u d = 2 := by unfold prErr at h ⊢; rw [if_pos h1] at h ⊢; split at h <;> simp_all
    have P := Lib.hid P
    have hd : d < 0 ∨ 9 < d := by
      unfold prErr at h; rw [if_pos h1] at h; split at h <;> simp_all
    by_cases he : near lo u = near hi u
    · have e1 : rdErr lo hi u = 0 := by unfold rdErr; rw [if_pos h1, if_pos he]
      have c : Hid (∀ wx, Calls Try.prog 16 #[.int .i64 lo, .int .i64 hi, .int .i64 u] wx fun e w' => e = .returned (.tuple #[.int .i64 (rdVal lo hi u), .int .i64 0]) ∧ wx = w') := by
        intro wx; rw [← e1]; exact rround_any lo hi u wx
      clear h h1 he e1
      rcases hd with hd | hd
      · go_enter Try.func17, Try.ntmps17
        go_wp2_with (first | (go_at_call 16; refine (c.out _).mono ?_; rintro e w' ⟨rfl, rfl⟩))
        go_ret2
        exact ⟨by rw [P.out]; rfl, rfl⟩
      · go_enter Try.func17, Try.ntmps17
        go_wp2_with (first | (go_at_call 16; refine (c.out _).mono ?_; rintro e w' ⟨rfl, rfl⟩))
        go_ret2
        exact ⟨by rw [P.out]; rfl, rfl⟩
    · have e1 : rdErr lo hi u = 24 := by unfold rdErr; rw [if_pos h1, if_neg he]
      have c : Hid (∀ wx, Calls Try.prog 16 #[.int .i64 lo, .int .i64 hi, .int .i64 u] wx fun e w' => e = .returned (.tuple #[.int .i64 (rdVal lo hi u), .int .i64 24]) ∧ wx = w') := by
        intro wx; rw [← e1]; exact rround_any lo hi u wx
      clear h h1 he e1
      rcases hd with hd | hd
      · go_enter Try.func17, Try.ntmps17
        go_wp2_with (first | (go_at_call 16; refine (c.out _).mono ?_; rintro e w' ⟨rfl, rfl⟩))
        go_ret2
        exact ⟨by rw [P.out]; rfl, rfl⟩
      · go_enter Try.func17, Try.ntmps17
        go_wp2_with (first | (go_at_call 16; refine (c.out _).mono ?_; rintro e w' ⟨rfl, rfl⟩))
        go_ret2
        exact ⟨by rw [P.out]; rfl, rfl⟩
  · have P : Hid (prErr lo hi u d = rErr lo hi u) := by show prErr lo hi u d = rErr lo hi u; unfold prErr; rw [if_neg h1]
    obtain ⟨q, hq⟩ : ∃ q, q = rErr lo hi u := ⟨_, rfl⟩
    have e1 : rdErr lo hi u = q := by unfold rdErr; rw [if_neg h1, hq]
    have c : Hid (∀ wx, Calls Try.prog 16 #[.int .i64 lo, .int .i64 hi, .int .i64 u] wx fun e w' => e = .returned (.tuple #[.int .i64 (rdVal lo hi u), .int .i64 q]) ∧ wx = w') := by
      intro wx; rw [← e1]; exact rround_any lo hi u wx
    have v := rErr_vals lo hi u
    rw [← hq] at v h1
    have P2 : Hid (prErr lo hi u d = q) := P.out.trans hq.symm
    clear h P e1 hq
    rcases v with v | v | v | v
    · exact absurd v h1
    all_goals
      subst v
      go_enter Try.func17, Try.ntmps17
      go_wp2_with (first | (go_at_call 16; refine (c.out _).mono ?_; rintro e w' ⟨rfl, rfl⟩))
      go_ret2
      exact ⟨by rw [P2.out]; rfl, rfl⟩

end Go.Proofs.Ytijgaenfhmgcoaa
