/- Contracts of the reference's Power, digits and Format. -/
import Derived.Test.YtfknmceffkagaaaDoorDecC
namespace Go.Proofs.YtfknmceffkagaaaDoor.dc
open Go.RowKit
set_option linter.unusedVariables false

theorem pow10_le (k : Nat) (h : k ≤ 9) : (10 : Nat) ^ k ≤ 1000000000 := by
  have := Nat.pow_le_pow_right (n := 10) (by omega) h
  omega

set_option maxHeartbeats 400000 in
theorem power_any (k : Nat) (w : World) (hk : k ≤ 9) :
    Calls Tryd.prog 65 #[.int .i64 (k : Int)] w fun e w' => e = .returned (.int .i64 ((10 ^ k : Nat) : Int)) ∧ w = w' := by
  go_enter Tryd.func65, Tryd.ntmps65
  go_wp2
  go_outline
  go_loop [3, 4] (fun p i => ∃ j : Nat, j ≤ k ∧ p = .int .i64 ((10 ^ j : Nat) : Int) ∧ i = .int .i64 (j : Int)) (fun _ i => k - (intOf i).toNat)
  case atStart => exact ⟨0, Nat.zero_le _, rfl, rfl⟩
  case round =>
    obtain ⟨j, hj, rfl, rfl⟩ := hrel
    obtain ⟨q, hq⟩ : ∃ q, q = 10 ^ j := ⟨_, rfl⟩
    rw [← hq]
    have hq9 : q ≤ 1000000000 := by rw [hq]; exact pow10_le j (by omega)
    by_cases hlt : j < k
    · have H := Lib.hid hq
      clear hq
      go_wp2
      go_round
      case rel => exact ⟨j + 1, by omega, by rw [Nat.pow_succ, ← H.out]; go_num, by go_num⟩
      case measure => simp [intOf]; omega
    · obtain rfl : j = k := by omega
      have H := Lib.hid hq
      clear hq
      go_wp2
      go_ret
      exact ⟨ret_int (congrArg (fun x : Nat => (x : Int)) H.out), rfl⟩

/-- how many digits the reference writes -/
def rcnt (n l : Nat) : Nat := max l (ndig n)
theorem rcnt_zero (n l : Nat) (hn : n ≤ 1152921504606846976) : n / 10 ^ rcnt n l = 0 := by
  have h := ndF_zero 20 n (by omega)
  unfold rcnt ndig
  rw [Nat.div_eq_zero_iff] at h ⊢
  right
  rcases h with h | h
  · exact absurd h (by have := Nat.pow_pos (a := 10) (n := ndF 20 n) (by omega); omega)
  · exact Nat.lt_of_lt_of_le h (Nat.pow_le_pow_right (by omega) (by omega))
theorem rcnt_go (n l k : Nat) (h : k < rcnt n l) (h2 : l ≤ k) : 0 < n / 10 ^ k := by
  unfold rcnt ndig at h
  exact ndF_pos 20 n k (by omega)
theorem rcnt_le (n l : Nat) (h : l ≤ 9) : rcnt n l ≤ 20 := by have := ndF_le 20 n; unfold rcnt ndig; omega
theorem rcnt_ge (n l : Nat) : l ≤ rcnt n l := by unfold rcnt; omega

theorem one_byte (w : World) (c : UInt8) (v : Int) (hv : v = (c.toNat : Int)) :
    (convert 70 9 (.slice (some ⟨w.heap.size, 0, none⟩) 1 1)).run Tryd.prog (w.alloc (.cells #[.int .u8 v] 5)) = .ok (.string ⟨#[c]⟩) (w.alloc (.cells #[.int .u8 v] 5)) := by
  subst hv
  refine run_convert_bytes_back _ 70 9 5 ⟨w.heap.size, 0, none⟩ 1 [c] Tryd.underlying70 Tryd.underlying5 Tryd.underlying9 fun j hj => ?_
  obtain rfl : j = 0 := by simp at hj; omega
  simp [Addr.add]

set_option maxRecDepth 100000 in
set_option maxHeartbeats 1000000 in
theorem rdigits_any (n l : Nat) (w : World) (hn : n ≤ 1152921504606846976) (hl : l ≤ 9) :
    Calls Tryd.prog 64 #[.int .i64 (n : Int), .int .i64 (l : Int)] w fun e w' => e = .returned (.string ⟨(digs (rcnt n l) n).toArray⟩) ∧ Below w.heap.size w w' := by
  have hR := rcnt_le n l hl
  have hge := rcnt_ge n l
  go_enter Tryd.func64, Tryd.ntmps64
  go_wp2_with fail
  go_outline
  go_loopw [0, 1, 5] (fun r f s wr => ∃ j : Nat, j ≤ rcnt n l ∧ r = .int .i64 ((n / 10 ^ j : Nat) : Int) ∧ f = .int .i64 ((l : Int) - j) ∧ s = .string ⟨(digs j n).toArray⟩ ∧ Below w.heap.size w wr) (fun _ f _ _ => (20 + intOf f).toNat)
  case atStart => exact ⟨0, Nat.zero_le _, by simp, by simp, rfl, Below.refl _ _⟩
  case round =>
    obtain ⟨j, hj, rfl, rfl, rfl, hBr⟩ := hrel
    have hcv := one_byte wr (dch (n / 10 ^ j)) (48 + ((n / 10 ^ j : Nat) : Int) % 10) (by rw [dch_toNat]; omega)
    obtain ⟨e, he⟩ : ∃ e, e = n / 10 ^ j := ⟨_, rfl⟩
    rw [← he] at hcv ⊢
    have hen : e ≤ n := by rw [he]; exact Nat.div_le_self _ _
    have hR2 : j ≤ 20 := by omega
    have hdl := digs_length j n
    have hdl2 : (digs j n).length ≤ 20 := by omega
    have hB2 := Lib.hid (hBr.alloc hBr.size (.cells #[.int .u8 (48 + (e : Int) % 10)] 5))
    by_cases hlt : j < rcnt n l
    · have hgo := rcnt_go n l j hlt
      rw [← he] at hgo
      have hD : digs (j + 1) n = dch e :: digs j n := by rw [digs_cons, ← he]
      have hE : ((e / 10 : Nat) : Int) = ((n / 10 ^ (j + 1) : Nat) : Int) := by rw [Nat.pow_succ, ← Nat.div_div_eq_div_mul, ← he]
      have HE := Lib.hid hE
      have HD := Lib.hid hD
      clear he hD hE hdl hBr
      rcases (show 0 < e ∨ (e = 0 ∧ j < l) by omega) with h0 | ⟨h0, h1⟩
      · clear hgo
        go_wp2_with fail
        go_roundw
        case rel => exact ⟨j + 1, by omega, by rw [← HE.out]; go_num, by go_num, by rw [HD.out, show dch e :: digs j n = [dch e] ++ digs j n from rfl, ← ba_app], hB2.out⟩
        case measure => simp [intOf]; omega
      · subst h0
        have hcv0 := one_byte wr 48 48 rfl
        have hB3 := Lib.hid (show Below w.heap.size w (wr.alloc (.cells #[.int .u8 48] 5)) from hB2.out)
        clear hgo hcv hB2
        go_wp2_with fail
        go_roundw
        case rel => exact ⟨j + 1, by omega, by rw [← HE.out]; go_num, by go_num, by rw [HD.out, show dch 0 :: digs j n = [48] ++ digs j n from rfl, ← ba_app], hB3.out⟩
        case measure => simp [intOf]; omega
    · obtain rfl : j = rcnt n l := by omega
      have h0 := rcnt_zero n l hn
      rw [← he] at h0
      subst h0
      clear he hdl
      go_wp2_with fail
      go_ret
      exact ⟨rfl, hBr⟩


/-- the reference's text is the decimal text -/
theorem refT_zero (a : Nat) (ha : a ≤ 1152921504606846976) : outD 0 a (rnds 0 a) = digs (rcnt a 1) a := by
  have h : rnds 0 a = 0 + 1 + (rnds 0 a - 1) := by have := rnds_gt 0 a; omega
  rw [h, outD_high 0 a]
  simp
  congr 1
  unfold rnds rcnt; omega
theorem refT_pos (a d : Nat) (hd : 0 < d) (ha : a ≤ 1152921504606846976) : outD d a (rnds d a) = digs (rcnt (a / 10 ^ d) 1) (a / 10 ^ d) ++ [46] ++ digs (rcnt (a % 10 ^ d) d) (a % 10 ^ d) := by
  have h : rnds d a = d + 1 + (rnds d a - (d + 1)) := by have := rnds_gt d a; omega
  have e1 : rcnt (a / 10 ^ d) 1 = rnds d a - (d + 1) + 1 := by
    have z := rcnt_zero (a / 10 ^ d) 1 (Nat.le_trans (Nat.div_le_self _ _) ha)
    have z2 := rnds_zero d a ha
    have g1 := rcnt_ge (a / 10 ^ d) 1
    have g2 := rnds_gt d a
    rw [Nat.div_div_eq_div_mul, ← Nat.pow_add] at z
    apply Nat.le_antisymm
    · rcases Nat.lt_or_ge (rnds d a - (d + 1) + 1) (rcnt (a / 10 ^ d) 1) with hh | hh
      · have := rcnt_go (a / 10 ^ d) 1 _ hh (by omega)
        rw [Nat.div_div_eq_div_mul, ← Nat.pow_add, show d + (rnds d a - (d + 1) + 1) = rnds d a by omega] at this
        omega
      · exact hh
    · rcases Nat.lt_or_ge (d + rcnt (a / 10 ^ d) 1) (rnds d a) with hh | hh
      · have := rnds_go d a _ hh (by omega)
        omega
      · omega
  have e2 : rcnt (a % 10 ^ d) d = d := by
    have g := rcnt_ge (a % 10 ^ d) d
    rcases Nat.lt_or_ge d (rcnt (a % 10 ^ d) d) with hh | hh
    · have := rcnt_go (a % 10 ^ d) d d hh (Nat.le_refl _)
      rw [Nat.div_eq_of_lt (Nat.mod_lt _ (Nat.pow_pos (by omega)))] at this
      omega
    · omega
  rw [e2, e1, digs_mod, h, outD_high d a, if_pos hd, ← h]
  simp

end Go.Proofs.YtfknmceffkagaaaDoor.dc
