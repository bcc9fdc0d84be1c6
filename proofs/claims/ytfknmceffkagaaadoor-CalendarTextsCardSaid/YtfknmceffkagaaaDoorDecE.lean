/- Contracts of the reference's Format and Print. -/
import Derived.Test.YtfknmceffkagaaaDoorDecD
namespace Go.Proofs.YtfknmceffkagaaaDoor.dc
open Go.RowKit
set_option linter.unusedVariables false

theorem rdigits_int (n l : Int) (w : World) (h0 : 0 ≤ n) (h1 : n ≤ 1152921504606846976) (l0 : 0 ≤ l) (l1 : l ≤ 9) :
    Calls Tryd.prog 64 #[.int .i64 n, .int .i64 l] w fun e w' => e = .returned (.string ⟨(digs (rcnt n.toNat l.toNat) n.toNat).toArray⟩) ∧ Below w.heap.size w w' := by
  have a := rdigits_any n.toNat l.toNat w (by omega) (by omega)
  rw [Int.toNat_of_nonneg h0, Int.toNat_of_nonneg l0] at a
  exact a

theorem digs_len_le (n l : Nat) (hl : l ≤ 9) : (digs (rcnt n l) n).length ≤ 20 := by rw [digs_length]; exact rcnt_le n l hl

set_option maxRecDepth 100000 in
set_option maxHeartbeats 1000000 in
theorem rformat_any (n : Int) (d : Nat) (w : World) (h1 : -1152921504606846976 ≤ n) (h2 : n ≤ 1152921504606846976) (hd : d ≤ 9) :
    Calls Tryd.prog 53 #[.int .i64 n, .int .i64 (d : Int)] w fun e w' => e = .returned (.string ⟨(decT n d).toArray⟩) ∧ Below w.heap.size w w' := by
  obtain ⟨a, ha⟩ : ∃ a : Nat, a = n.natAbs := ⟨_, rfl⟩
  have hab : a ≤ 1152921504606846976 := by omega
  obtain ⟨q, hq⟩ : ∃ q : Nat, q = 10 ^ d := ⟨_, rfl⟩
  have hq0 : 1 ≤ q := by rw [hq]; exact Nat.pow_pos (by omega)
  have hq9 : q ≤ 1000000000 := by rw [hq]; exact pow10_le d hd
  have cP : ∀ wx, Calls Tryd.prog 65 #[.int .i64 (d : Int)] wx fun e w' => e = .returned (.int .i64 (q : Int)) ∧ wx = w' := fun wx => by rw [hq]; exact power_any d wx hd
  have CP := Lib.hid cP
  have hdv : a / q ≤ a := Nat.div_le_self _ _
  have hmd : a % q < q := Nat.mod_lt _ (by omega)
  have c1 : ((a / q : Nat) : Int) = (a : Int) / (q : Int) := Int.natCast_ediv a q
  have c2 : ((a % q : Nat) : Int) = (a : Int) % (q : Int) := Int.natCast_emod a q
  have t1 : ((a : Int) / (q : Int)).toNat = a / q := by rw [← c1]; exact Int.toNat_natCast _
  have t2 : ((a : Int) % (q : Int)).toNat = a % q := by rw [← c2]; exact Int.toNat_natCast _
  have T1 := Lib.hid t1
  have T2 := Lib.hid t2
  have dv : (a : Int) / (q : Int) ≤ 1152921504606846976 := by omega
  have dv0 : 0 ≤ (a : Int) / (q : Int) := by rw [← c1]; omega
  have md : (a : Int) % (q : Int) ≤ 1152921504606846976 := by omega
  have md0 : 0 ≤ (a : Int) % (q : Int) := by omega
  have l1 := digs_len_le (a / q) 1 (by omega)
  have l2 := digs_len_le (a % q) d hd
  clear c1 c2
  clear cP t1 t2 hdv hmd
  by_cases hn : n < 0
  · have hna : 0 - n = (a : Int) := by omega
    have hna' : -n = (a : Int) := by omega
    by_cases hd0 : 0 < d
    · have D : Hid (decT n d = [45] ++ digs (rcnt ((a : Int) / (q : Int)).toNat 1) ((a : Int) / (q : Int)).toNat ++ [46] ++ digs (rcnt ((a : Int) % (q : Int)).toNat d) ((a : Int) % (q : Int)).toNat) := by
        show decT n d = _
        rw [T1.out, T2.out, hq]; unfold decT; rw [if_pos hn, ← ha, refT_pos a d hd0 hab]; simp
      clear ha hq
      go_enter Tryd.func53, Tryd.ntmps53
      go_wp2_with (go_at_call 65; refine (CP.out _).mono ?_; rintro e w' ⟨rfl, rfl⟩)
      refine (rdigits_int _ 1 _ dv0 dv (by omega) (by omega)).mono ?_
      rintro e w1 ⟨rfl, hb1⟩
      go_wp2_with (first | (go_at_call 65; refine (CP.out _).mono ?_; rintro e w' ⟨rfl, rfl⟩))
      refine (rdigits_int _ d _ md0 md (by omega) (by omega)).mono ?_
      rintro e w2 ⟨rfl, hb2⟩
      go_wp2_with fail
      go_ret
      exact ⟨ret_s (by rw [D.out]; simp only [← ba_app]; try rfl), hb1.trans (hb2.mono hb1.size)⟩
    · obtain rfl : d = 0 := by omega
      have l3 := digs_len_le a 1 (by omega)
      have D : Hid (decT n 0 = [45] ++ digs (rcnt a 1) a) := by
        show decT n 0 = _
        unfold decT; rw [if_pos hn, ← ha, refT_zero a hab]
      clear ha hq T1 T2 CP dv dv0 md md0 l1 l2
      go_enter Tryd.func53, Tryd.ntmps53
      go_wp2_with (go_at_call 65; refine (power_any 0 _ (by omega)).mono ?_; rintro e w' ⟨rfl, rfl⟩)
      refine (rdigits_int _ 1 _ (by omega) (by omega) (by omega) (by omega)).mono ?_
      rintro e w1 ⟨rfl, hb1⟩
      go_wp2_with fail
      go_ret
      exact ⟨ret_s (by rw [D.out]; simp only [← ba_app]; try rfl), hb1⟩
  · obtain rfl : n = (a : Int) := by omega
    by_cases hd0 : 0 < d
    · have D : Hid (decT (a : Int) d = [] ++ digs (rcnt ((a : Int) / (q : Int)).toNat 1) ((a : Int) / (q : Int)).toNat ++ [46] ++ digs (rcnt ((a : Int) % (q : Int)).toNat d) ((a : Int) % (q : Int)).toNat) := by
        show decT (a : Int) d = _
        rw [T1.out, T2.out, hq]; unfold decT; rw [if_neg hn, ← ha, refT_pos a d hd0 hab]
        simp
      clear ha hq
      go_enter Tryd.func53, Tryd.ntmps53
      go_wp2_with (go_at_call 65; refine (CP.out _).mono ?_; rintro e w' ⟨rfl, rfl⟩)
      refine (rdigits_int _ 1 _ dv0 dv (by omega) (by omega)).mono ?_
      rintro e w1 ⟨rfl, hb1⟩
      go_wp2_with (first | (go_at_call 65; refine (CP.out _).mono ?_; rintro e w' ⟨rfl, rfl⟩))
      refine (rdigits_int _ d _ md0 md (by omega) (by omega)).mono ?_
      rintro e w2 ⟨rfl, hb2⟩
      go_wp2_with fail
      go_ret
      exact ⟨ret_s (by rw [D.out]; simp only [← ba_app]; try rfl), hb1.trans (hb2.mono hb1.size)⟩
    · obtain rfl : d = 0 := by omega
      have l3 := digs_len_le a 1 (by omega)
      have D : Hid (decT (a : Int) 0 = [] ++ digs (rcnt a 1) a) := by
        show decT (a : Int) 0 = _
        unfold decT; rw [if_neg hn, ← ha, refT_zero a hab]
      clear ha hq T1 T2 CP dv dv0 md md0 l1 l2
      go_enter Tryd.func53, Tryd.ntmps53
      go_wp2_with (go_at_call 65; refine (power_any 0 _ (by omega)).mono ?_; rintro e w' ⟨rfl, rfl⟩)
      refine (rdigits_int _ 1 _ (by omega) (by omega) (by omega) (by omega)).mono ?_
      rintro e w1 ⟨rfl, hb1⟩
      go_wp2_with fail
      go_ret
      exact ⟨ret_s (by rw [D.out]; simp only [← ba_app]; try rfl), hb1⟩


theorem rErr_vals (lo hi u : Int) : rErr lo hi u = 0 ∨ rErr lo hi u = 1 ∨ rErr lo hi u = 2 ∨ rErr lo hi u = 5 := by
  unfold rErr; split; simp; split; simp; split <;> simp

end Go.Proofs.YtfknmceffkagaaaDoor.dc
