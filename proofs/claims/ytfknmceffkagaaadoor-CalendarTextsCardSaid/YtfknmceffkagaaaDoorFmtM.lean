/- A decimal text is read back: Parse's plain function gives the number whose text it gets. -/
import Derived.Test.YtfknmceffkagaaaDoorDecI
import Derived.Test.YtfknmceffkagaaaDoorDecD
namespace Go.Proofs.YtfknmceffkagaaaDoor.dc
open Go.RowKit
set_option linter.unusedVariables false

theorem dch_dig (n : Nat) : isDig (dch n) = true := by unfold isDig; rw [dch_toNat, decide_eq_true_eq]; omega
theorem digs_all (k n : Nat) : (digs k n).all isDig = true := by
  induction k generalizing n with
  | zero => rfl
  | succ k ih => rw [digs, List.all_append, ih]; simp [dch_dig]
theorem val_digs (k n : Nat) : val (digs k n) = n % 10 ^ k := by
  induction k generalizing n with
  | zero => simp [digs, val]; omega
  | succ k ih =>
    rw [digs, val_snoc, ih, dch_toNat]
    have h : n % 10 ^ (k + 1) = 10 * (n / 10 % 10 ^ k) + n % 10 := by
      rw [show (10 : Nat) ^ (k + 1) = 10 * 10 ^ k by rw [Nat.pow_succ, Nat.mul_comm], Nat.mod_mul]; omega
    omega
theorem dig_npt {c : UInt8} (h : isDig c = true) : nPt c = true := by
  unfold isDig at h; rw [decide_eq_true_eq] at h
  unfold nPt; rw [bne_iff_ne]; intro e; subst e; simp at h
theorem all_npt {l : List UInt8} (h : l.all isDig = true) : l.all nPt = true := by
  rw [List.all_eq_true] at h ⊢
  exact fun c hc => dig_npt (h c hc)
theorem rcnt_pos (m : Nat) : 1 ≤ rcnt m 1 := rcnt_ge m 1
theorem digs_whl (m : Nat) (hm : m ≤ 1152921504606846976) : whlB (digs (rcnt m 1) m) = true := by
  have h1 := rcnt_pos m
  have hz := rcnt_zero m 1 hm
  obtain ⟨c, hc⟩ : ∃ c, rcnt m 1 = c + 1 := ⟨rcnt m 1 - 1, by omega⟩
  have hd : digB (digs (rcnt m 1) m) = true := by
    unfold digB; rw [digs_all, hc, digs_cons]; rfl
  unfold whlB
  rw [hd, digs_length, hc, digs_cons]
  by_cases h0 : c = 0
  · simp [h0]
  · have hp := rcnt_go m 1 c (by omega) (by omega)
    rw [hc, Nat.pow_succ, ← Nat.div_div_eq_div_mul] at hz
    have : dch (m / 10 ^ c) ≠ 48 := by
      intro e
      have := congrArg UInt8.toNat e
      rw [dch_toNat] at this
      have e2 : (48 : UInt8).toNat = 48 := rfl
      omega
    simp [this]

theorem takeW (X Y : List UInt8) (h : X.all nPt = true) : (X ++ 46 :: Y).takeWhile nPt = X ∧ (X ++ 46 :: Y).dropWhile nPt = 46 :: Y ∧ (X ++ 46 :: Y).all nPt = false := by
  induction X with
  | nil => simp [nPt]
  | cons c X ih =>
    simp only [List.all_cons, Bool.and_eq_true] at h
    have := ih h.2
    simp only [List.cons_append, List.takeWhile_cons, List.dropWhile_cons, List.all_cons, h.1, if_true, Bool.true_and]
    exact ⟨by rw [this.1], this.2.1, this.2.2⟩

/-- the unsigned part of a decimal text -/
theorem body_cut0 (a : Nat) (ha : a ≤ 1152921504606846976) : Lib.cut (outD 0 a (rnds 0 a)) [46] = (digs (rcnt a 1) a, [], false) := by
  rw [refT_zero a ha, cut_pt, take_all _ _ (all_npt (digs_all _ _)), drop_all _ _ (all_npt (digs_all _ _)), all_npt (digs_all _ _)]
  rfl
theorem body_cut (a d : Nat) (hd : 0 < d) (ha : a ≤ 1152921504606846976) : Lib.cut (outD d a (rnds d a)) [46] = (digs (rcnt (a / 10 ^ d) 1) (a / 10 ^ d), digs d a, true) := by
  have h := refT_pos a d hd ha
  have e2 : digs (rcnt (a % 10 ^ d) d) (a % 10 ^ d) = digs d a := by
    have hx : rnds d a = d + 1 + (rnds d a - (d + 1)) := by have := rnds_gt d a; omega
    have h3 := outD_high d a (rnds d a - (d + 1))
    rw [← hx, if_pos hd] at h3
    have g := rcnt_ge (a % 10 ^ d) d
    have e : rcnt (a % 10 ^ d) d = d := by
      rcases Nat.lt_or_ge d (rcnt (a % 10 ^ d) d) with hh | hh
      · have := rcnt_go (a % 10 ^ d) d d hh (Nat.le_refl _)
        rw [Nat.div_eq_of_lt (Nat.mod_lt _ (Nat.pow_pos (by omega)))] at this
        omega
      · omega
    rw [e, digs_mod]
  rw [h, e2, cut_pt, List.append_assoc, List.singleton_append]
  have t := takeW (digs (rcnt (a / 10 ^ d) 1) (a / 10 ^ d)) (digs d a) (all_npt (digs_all _ _))
  rw [t.1, t.2.1, t.2.2]
  rfl
theorem body_head (a d : Nat) (ha : a ≤ 1152921504606846976) : ∃ c r, outD d a (rnds d a) = c :: r ∧ isDig c = true := by
  have h : rnds d a = d + 1 + (rnds d a - (d + 1)) := by have := rnds_gt d a; omega
  rw [h, outD_high d a, digs_cons]
  exact ⟨_, _, rfl, dch_dig _⟩

theorem decT_pre (n : Int) (d : Nat) (h1 : -1152921504606846976 ≤ n) (h2 : n ≤ 1152921504606846976) : Lib.hasPrefix (decT n d) [45] = decide (n < 0) ∧ pU (decT n d) = outD d n.natAbs (rnds d n.natAbs) := by
  obtain ⟨c, r, hb, hc⟩ := body_head n.natAbs d (by omega)
  have hne : c ≠ 45 := by
    unfold isDig at hc; rw [decide_eq_true_eq] at hc
    intro e; subst e; simp at hc
  unfold pU Lib.trimPrefix decT
  by_cases hn : n < 0
  · rw [if_pos hn]; simp [Lib.hasPrefix, hn]
  · rw [if_neg hn, hb]
    have : Lib.hasPrefix ([] ++ c :: r) [45] = false := by simp [Lib.hasPrefix, List.isPrefixOf]; exact fun e => hne e.symm
    rw [this]; simp [hn]

theorem parse_format (n : Int) (d : Nat) (h1 : -1152921504606846976 ≤ n) (h2 : n ≤ 1152921504606846976) (hd : d ≤ 9) : pErr (decT n d) d = 0 ∧ pVal (decT n d) d = n := by
  have hp := decT_pre n d h1 h2
  obtain ⟨a, ha⟩ : ∃ a, a = n.natAbs := ⟨_, rfl⟩
  rw [← ha] at hp
  have hab : a ≤ 1152921504606846976 := by omega
  have key : whlB (Lib.cut (pU (decT n d)) [46]).1 = true ∧ ((Lib.cut (pU (decT n d)) [46]).2.2 = true → frcB (Lib.cut (pU (decT n d)) [46]).2.1 d = true) ∧ val (pAll (decT n d) d) = a := by
    unfold pAll
    rw [hp.2]
    by_cases h0 : 0 < d
    · rw [body_cut a d h0 hab]
      have hq : a / 10 ^ d ≤ 1152921504606846976 := Nat.le_trans (Nat.div_le_self _ _) hab
      refine ⟨digs_whl _ hq, fun _ => ?_, ?_⟩
      · unfold frcB digB
        rw [digs_all, digs_length]
        obtain ⟨k, rfl⟩ : ∃ k, d = k + 1 := ⟨d - 1, by omega⟩
        rw [digs_cons]; simp
      · simp only [digs_length, Nat.sub_self, List.replicate_zero, List.append_nil]
        rw [val_app, val_digs, val_digs, digs_length]
        have hz := rcnt_zero (a / 10 ^ d) 1 hq
        have hlt : a / 10 ^ d < 10 ^ rcnt (a / 10 ^ d) 1 := by
          rw [Nat.div_eq_zero_iff] at hz
          rcases hz with hz | hz
          · exact absurd hz (by have := Nat.pow_pos (a := 10) (n := rcnt (a / 10 ^ d) 1) (by omega); omega)
          · exact hz
        rw [Nat.mod_eq_of_lt hlt, Nat.mul_comm]
        exact Nat.div_add_mod a (10 ^ d)
    · obtain rfl : d = 0 := by omega
      rw [body_cut0 a hab]
      refine ⟨digs_whl _ hab, (fun h => by cases h), ?_⟩
      simp only [List.length_nil, Nat.sub_self, List.replicate_zero, List.append_nil]
      rw [val_digs]
      have hz := rcnt_zero a 1 hab
      rw [Nat.div_eq_zero_iff] at hz
      rcases hz with hz | hz
      · exact absurd hz (by have := Nat.pow_pos (a := 10) (n := rcnt a 1) (by omega); omega)
      · exact Nat.mod_eq_of_lt hz
  obtain ⟨k1, k2, k3⟩ := key
  have hm : magB (pAll (decT n d) d) = true := by unfold magB; rw [k3]; simpa using hab
  have he : pErr (decT n d) d = 0 := by
    unfold pErr
    rw [if_neg, if_pos hm]
    rintro (h | ⟨h, h'⟩)
    · rw [k1] at h; cases h
    · rw [k2 h] at h'; cases h'
  refine ⟨he, ?_⟩
  unfold pVal
  rw [if_pos he, hp.1, k3]
  by_cases hn : n < 0
  · rw [if_pos (by simpa using hn)]; omega
  · rw [if_neg (by simpa using hn)]; omega

end Go.Proofs.YtfknmceffkagaaaDoor.dc
