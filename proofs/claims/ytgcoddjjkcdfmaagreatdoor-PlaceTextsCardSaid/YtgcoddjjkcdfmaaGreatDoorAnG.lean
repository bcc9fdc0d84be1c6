/- Angle: contracts of the reference's digits, Text, Round, Print. -/
import Derived.Test.YtgcoddjjkcdfmaaGreatDoorAnK
import Derived.LoopTactic
namespace Go.Proofs.YtgcoddjjkcdfmaaGreatDoor
open Go.RowKit
set_option linter.unusedVariables false

theorem ba_app' (a b : List UInt8) : (⟨a.toArray⟩ : ByteArray) ++ ⟨b.toArray⟩ = ⟨(a ++ b).toArray⟩ := by apply ByteArray.ext; simp
theorem ret_s {s t : ByteArray} (h : s = t) : Ending.returned (.string s) = .returned (.string t) := by rw [h]
theorem ret_se {s t : ByteArray} {n : Int} (h : s = t) : Ending.returned (.tuple #[.string s, .int .i64 n]) = .returned (.tuple #[.string t, .int .i64 n]) := by rw [h]
theorem one_byte (w : World) (c : UInt8) (v : Int) (hv : v = (c.toNat : Int)) :
    (convert 74 9 (.slice (some ⟨w.heap.size, 0, none⟩) 1 1)).run Tryz.prog (w.alloc (.cells #[.int .u8 v] 5)) = .ok (.string ⟨#[c]⟩) (w.alloc (.cells #[.int .u8 v] 5)) := by
  subst hv
  refine run_convert_bytes_back _ 74 9 5 ⟨w.heap.size, 0, none⟩ 1 [c] Tryz.underlying74 Tryz.underlying5 Tryz.underlying9 fun j hj => ?_
  obtain rfl : j = 0 := by simp at hj; omega
  simp [Addr.add]

set_option maxRecDepth 100000 in
set_option maxHeartbeats 1000000 in
theorem rdigits_any (n l : Nat) (w : World) (hn : n ≤ 1152921504606846976) (hl : l ≤ 9) :
    Calls Tryz.prog 53 #[.int .i64 (n : Int), .int .i64 (l : Int)] w fun e w' => e = .returned (.string ⟨(digs (rcnt n l) n).toArray⟩) ∧ Below w.heap.size w w' := by
  have hR := rcnt_le n l hl
  have hge := rcnt_ge n l
  go_enter Tryz.func53, Tryz.ntmps53
  go_wp2_with fail
  go_outline
  go_loopw [0, 1, 5] (fun r f s wr => ∃ j : Nat, j ≤ rcnt n l ∧ r = .int .i64 ((n / 10 ^ j : Nat) : Int) ∧ f = .int .i64 ((l : Int) - j) ∧ s = .string ⟨(digs j n).toArray⟩ ∧ Below w.heap.size w wr) (fun _ f _ _ => (20 + intOf f).toNat)
  case atStart => exact ⟨0, Nat.zero_le _, by simp, by simp, rfl, Below.refl _ _⟩
  case round =>
    obtain ⟨j, hj, rfl, rfl, rfl, hBr⟩ := hrel
    have hcv := one_byte wr (dch (n / 10 ^ j)) (48 + ((n / 10 ^ j : Nat) : Int) % 10) (by rw [dch_toNat]; omega)
    obtain ⟨e, he⟩ : ∃ e, e = n / 10 ^ j := ⟨_, rfl⟩
    rw [← he] at hcv ⊢
    have hen : e ≤ n := by rw [he]; exact Nat.div_le_self _ _
    have hR2 : j ≤ 20 := by omega
    have hdl := digs_length j n
    have hdl2 : (digs j n).length ≤ 20 := by omega
    have hB2 := Lib.hid (hBr.alloc hBr.size (.cells #[.int .u8 (48 + (e : Int) % 10)] 5))
    by_cases hlt : j < rcnt n l
    · have hgo := rcnt_go n l j hlt
      rw [← he] at hgo
      have hD : digs (j + 1) n = dch e :: digs j n := by rw [digs_cons, ← he]
      have hE : ((e / 10 : Nat) : Int) = ((n / 10 ^ (j + 1) : Nat) : Int) := by rw [Nat.pow_succ, ← Nat.div_div_eq_div_mul, ← he]
      have HE := Lib.hid hE
      have HD := Lib.hid hD
      clear he hD hE hdl hBr
      rcases (show 0 < e ∨ (e = 0 ∧ j < l) by omega) with h0 | ⟨h0, h1⟩
      · clear hgo
        go_wp2_with fail
        go_roundw
        case rel => exact ⟨j + 1, by omega, by rw [← HE.out]; go_num, by go_num, by rw [HD.out, show dch e :: digs j n = [dch e] ++ digs j n from rfl, ← ba_app'], hB2.out⟩
        case measure => simp [intOf]; omega
      · subst h0
        have hcv0 := one_byte wr 48 48 rfl
        have hB3 := Lib.hid (show Below w.heap.size w (wr.alloc (.cells #[.int .u8 48] 5)) from hB2.out)
        clear hgo hcv hB2
        go_wp2_with fail
        go_roundw
        case rel => exact ⟨j + 1, by omega, by rw [← HE.out]; go_num, by go_num, by rw [HD.out, show dch 0 :: digs j n = [48] ++ digs j n from rfl, ← ba_app'], hB3.out⟩
        case measure => simp [intOf]; omega
    · obtain rfl : j = rcnt n l := by omega
      have h0 := rcnt_zero n l hn
      rw [← he] at h0
      subst h0
      clear he hdl
      go_wp2_with fail
      go_ret
      exact ⟨rfl, hBr⟩



theorem rdig_is (n l : Int) (k m : Nat) (L : List UInt8) (w : World) (hn : n = (m : Int)) (h1 : m ≤ 1152921504606846976) (hl : l = (k : Int)) (hk : k ≤ 9) (hL : digs (rcnt m k) m = L) :
    Calls Tryz.prog 53 #[.int .i64 n, .int .i64 l] w fun e w' => e = .returned (.string ⟨L.toArray⟩) ∧ Below w.heap.size w w' := by
  subst hn hl hL
  exact rdigits_any m k w h1 hk
theorem dlen (n l : Nat) (hl : l ≤ 9) : (digs (rcnt n l) n).length ≤ 20 := by rw [digs_length]; exact rcnt_le n l hl

set_option maxRecDepth 100000 in
set_option maxHeartbeats 1000000 in
theorem rtext_p1 (n : Int) (a : Nat) (w : World) (ha : n = (a : Int)) (hn : ¬ n < 0) (hb : a ≤ 1099511627776) (hf : a % 1000 % 100 = 0) :
    Calls Tryz.prog 32 #[.int .i64 n] w fun e w' => e = .returned (.string (ba (textT n))) ∧ Below w.heap.size w w' := by
  obtain ⟨L1, h1⟩ : ∃ L, digs (rcnt (a / 60000) 1) (a / 60000) = L := ⟨_, rfl⟩
  obtain ⟨L2, h2⟩ : ∃ L, digs (rcnt (a % 60000 / 1000) 2) (a % 60000 / 1000) = L := ⟨_, rfl⟩
  obtain ⟨L3, h3⟩ : ∃ L, digs (rcnt (a % 1000 / 100) 1) (a % 1000 / 100) = L := ⟨_, rfl⟩
  have G1 := Lib.hid (fun wx => rdig_is ((a : Int) / 60000) 1 1 (a / 60000) L1 wx (by omega) (by omega) rfl (by omega) h1)
  have G2 := Lib.hid (fun wx => rdig_is ((a : Int) % 60000 / 1000) 2 2 (a % 60000 / 1000) L2 wx (by omega) (by omega) rfl (by omega) h2)
  have G3 := Lib.hid (fun wx => rdig_is ((a : Int) % 1000 / 100) 1 1 (a % 1000 / 100) L3 wx (by omega) (by omega) rfl (by omega) h3)
  have l1 : L1.length ≤ 20 := by rw [← h1]; exact dlen _ _ (by omega)
  have l2 : L2.length ≤ 20 := by rw [← h2]; exact dlen _ _ (by omega)
  have l3 : L3.length ≤ 20 := by rw [← h3]; exact dlen _ _ (by omega)
  have D : Hid (textT n = [] ++ L1 ++ [45] ++ L2 ++ [46] ++ L3) := by
    show textT n = _
    have e2 : digs 2 (a % 60000 / 1000) = L2 := by rw [← h2, rcnt_low _ 2 (by omega)]
    have e3 : fracT (a % 1000) = L3 := by
      unfold fracT
      rw [if_pos hf, ← h3, rcnt_low _ 1 (by omega)]
    have ea : n.natAbs = a := by omega
    unfold textT bodyT
    rw [if_neg hn, ea, e2, e3, h1]
    simp
  have hz : (a : Int) % 1000 % 100 = 0 := by omega
  unfold ba
  clear h1 h2 h3 hf
  obtain rfl : n = (a : Int) := ha
  go_enter Tryz.func32, Tryz.ntmps32
  go_wp2_with fail
  refine (G1.out _).mono ?_
  rintro e w1 ⟨rfl, hb1⟩
  go_wp2_with fail
  refine (G2.out _).mono ?_
  rintro e w2 ⟨rfl, hb2⟩
  go_wp2_with fail
  refine (G3.out _).mono ?_
  rintro e w3 ⟨rfl, hb3⟩
  go_wp2_with fail
  go_ret
  exact ⟨ret_s (by rw [D.out]; simp only [← ba_app']; try rfl), bstep (bstep hb1 hb2) hb3⟩

set_option maxRecDepth 100000 in
set_option maxHeartbeats 1000000 in
theorem rtext_p3 (n : Int) (a : Nat) (w : World) (ha : n = (a : Int)) (hn : ¬ n < 0) (hb : a ≤ 1099511627776) (hf : ¬ a % 1000 % 100 = 0) :
    Calls Tryz.prog 32 #[.int .i64 n] w fun e w' => e = .returned (.string (ba (textT n))) ∧ Below w.heap.size w w' := by
  obtain ⟨L1, h1⟩ : ∃ L, digs (rcnt (a / 60000) 1) (a / 60000) = L := ⟨_, rfl⟩
  obtain ⟨L2, h2⟩ : ∃ L, digs (rcnt (a % 60000 / 1000) 2) (a % 60000 / 1000) = L := ⟨_, rfl⟩
  obtain ⟨L3, h3⟩ : ∃ L, digs (rcnt (a % 1000) 3) (a % 1000) = L := ⟨_, rfl⟩
  have G1 := Lib.hid (fun wx => rdig_is ((a : Int) / 60000) 1 1 (a / 60000) L1 wx (by omega) (by omega) rfl (by omega) h1)
  have G2 := Lib.hid (fun wx => rdig_is ((a : Int) % 60000 / 1000) 2 2 (a % 60000 / 1000) L2 wx (by omega) (by omega) rfl (by omega) h2)
  have G3 := Lib.hid (fun wx => rdig_is ((a : Int) % 1000) 3 3 (a % 1000) L3 wx (by omega) (by omega) rfl (by omega) h3)
  have l1 : L1.length ≤ 20 := by rw [← h1]; exact dlen _ _ (by omega)
  have l2 : L2.length ≤ 20 := by rw [← h2]; exact dlen _ _ (by omega)
  have l3 : L3.length ≤ 20 := by rw [← h3]; exact dlen _ _ (by omega)
  have D : Hid (textT n = [] ++ L1 ++ [45] ++ L2 ++ [46] ++ L3) := by
    show textT n = _
    have e2 : digs 2 (a % 60000 / 1000) = L2 := by rw [← h2, rcnt_low _ 2 (by omega)]
    have e3 : fracT (a % 1000) = L3 := by
      unfold fracT
      rw [if_neg hf, ← h3, rcnt_low _ 3 (by omega)]
    have ea : n.natAbs = a := by omega
    unfold textT bodyT
    rw [if_neg hn, ea, e2, e3, h1]
    simp
  have hz : ((a : Int) % 1000 % 100 == 0) = false := beq_eq_false_iff_ne.2 (by omega)
  unfold ba
  clear h1 h2 h3 hf
  obtain rfl : n = (a : Int) := ha
  go_enter Tryz.func32, Tryz.ntmps32
  go_wp2_with fail
  refine (G1.out _).mono ?_
  rintro e w1 ⟨rfl, hb1⟩
  go_wp2_with fail
  refine (G2.out _).mono ?_
  rintro e w2 ⟨rfl, hb2⟩
  go_wp2_with fail
  refine (G3.out _).mono ?_
  rintro e w3 ⟨rfl, hb3⟩
  go_wp2_with fail
  go_ret
  exact ⟨ret_s (by rw [D.out]; simp only [← ba_app']; try rfl), bstep (bstep hb1 hb2) hb3⟩

set_option maxRecDepth 100000 in
set_option maxHeartbeats 1000000 in
theorem rtext_n1 (n : Int) (a : Nat) (w : World) (ha : -n = (a : Int)) (hn : n < 0) (hb : a ≤ 1099511627776) (hf : a % 1000 % 100 = 0) :
    Calls Tryz.prog 32 #[.int .i64 n] w fun e w' => e = .returned (.string (ba (textT n))) ∧ Below w.heap.size w w' := by
  obtain ⟨L1, h1⟩ : ∃ L, digs (rcnt (a / 60000) 1) (a / 60000) = L := ⟨_, rfl⟩
  obtain ⟨L2, h2⟩ : ∃ L, digs (rcnt (a % 60000 / 1000) 2) (a % 60000 / 1000) = L := ⟨_, rfl⟩
  obtain ⟨L3, h3⟩ : ∃ L, digs (rcnt (a % 1000 / 100) 1) (a % 1000 / 100) = L := ⟨_, rfl⟩
  have G1 := Lib.hid (fun wx => rdig_is ((a : Int) / 60000) 1 1 (a / 60000) L1 wx (by omega) (by omega) rfl (by omega) h1)
  have G2 := Lib.hid (fun wx => rdig_is ((a : Int) % 60000 / 1000) 2 2 (a % 60000 / 1000) L2 wx (by omega) (by omega) rfl (by omega) h2)
  have G3 := Lib.hid (fun wx => rdig_is ((a : Int) % 1000 / 100) 1 1 (a % 1000 / 100) L3 wx (by omega) (by omega) rfl (by omega) h3)
  have l1 : L1.length ≤ 20 := by rw [← h1]; exact dlen _ _ (by omega)
  have l2 : L2.length ≤ 20 := by rw [← h2]; exact dlen _ _ (by omega)
  have l3 : L3.length ≤ 20 := by rw [← h3]; exact dlen _ _ (by omega)
  have D : Hid (textT n = [45] ++ L1 ++ [45] ++ L2 ++ [46] ++ L3) := by
    show textT n = _
    have e2 : digs 2 (a % 60000 / 1000) = L2 := by rw [← h2, rcnt_low _ 2 (by omega)]
    have e3 : fracT (a % 1000) = L3 := by
      unfold fracT
      rw [if_pos hf, ← h3, rcnt_low _ 1 (by omega)]
    have ea : n.natAbs = a := by omega
    unfold textT bodyT
    rw [if_pos hn, ea, e2, e3, h1]
    simp
  have hz : (a : Int) % 1000 % 100 = 0 := by omega
  unfold ba
  clear h1 h2 h3 hf
  have hna : 0 - n = (a : Int) := by omega
  clear ha
  go_enter Tryz.func32, Tryz.ntmps32
  go_wp2_with fail
  refine (G1.out _).mono ?_
  rintro e w1 ⟨rfl, hb1⟩
  go_wp2_with fail
  refine (G2.out _).mono ?_
  rintro e w2 ⟨rfl, hb2⟩
  go_wp2_with fail
  refine (G3.out _).mono ?_
  rintro e w3 ⟨rfl, hb3⟩
  go_wp2_with fail
  go_ret
  exact ⟨ret_s (by rw [D.out]; simp only [← ba_app']; try rfl), bstep (bstep hb1 hb2) hb3⟩

set_option maxRecDepth 100000 in
set_option maxHeartbeats 1000000 in
theorem rtext_n3 (n : Int) (a : Nat) (w : World) (ha : -n = (a : Int)) (hn : n < 0) (hb : a ≤ 1099511627776) (hf : ¬ a % 1000 % 100 = 0) :
    Calls Tryz.prog 32 #[.int .i64 n] w fun e w' => e = .returned (.string (ba (textT n))) ∧ Below w.heap.size w w' := by
  obtain ⟨L1, h1⟩ : ∃ L, digs (rcnt (a / 60000) 1) (a / 60000) = L := ⟨_, rfl⟩
  obtain ⟨L2, h2⟩ : ∃ L, digs (rcnt (a % 60000 / 1000) 2) (a % 60000 / 1000) = L := ⟨_, rfl⟩
  obtain ⟨L3, h3⟩ : ∃ L, digs (rcnt (a % 1000) 3) (a % 1000) = L := ⟨_, rfl⟩
  have G1 := Lib.hid (fun wx => rdig_is ((a : Int) / 60000) 1 1 (a / 60000) L1 wx (by omega) (by omega) rfl (by omega) h1)
  have G2 := Lib.hid (fun wx => rdig_is ((a : Int) % 60000 / 1000) 2 2 (a % 60000 / 1000) L2 wx (by omega) (by omega) rfl (by omega) h2)
  have G3 := Lib.hid (fun wx => rdig_is ((a : Int) % 1000) 3 3 (a % 1000) L3 wx (by omega) (by omega) rfl (by omega) h3)
  have l1 : L1.length ≤ 20 := by rw [← h1]; exact dlen _ _ (by omega)
  have l2 : L2.length ≤ 20 := by rw [← h2]; exact dlen _ _ (by omega)
  have l3 : L3.length ≤ 20 := by rw [← h3]; exact dlen _ _ (by omega)
  have D : Hid (textT n = [45] ++ L1 ++ [45] ++ L2 ++ [46] ++ L3) := by
    show textT n = _
    have e2 : digs 2 (a % 60000 / 1000) = L2 := by rw [← h2, rcnt_low _ 2 (by omega)]
    have e3 : fracT (a % 1000) = L3 := by
      unfold fracT
      rw [if_neg hf, ← h3, rcnt_low _ 3 (by omega)]
    have ea : n.natAbs = a := by omega
    unfold textT bodyT
    rw [if_pos hn, ea, e2, e3, h1]
    simp
  have hz : ((a : Int) % 1000 % 100 == 0) = false := beq_eq_false_iff_ne.2 (by omega)
  unfold ba
  clear h1 h2 h3 hf
  have hna : 0 - n = (a : Int) := by omega
  clear ha
  go_enter Tryz.func32, Tryz.ntmps32
  go_wp2_with fail
  refine (G1.out _).mono ?_
  rintro e w1 ⟨rfl, hb1⟩
  go_wp2_with fail
  refine (G2.out _).mono ?_
  rintro e w2 ⟨rfl, hb2⟩
  go_wp2_with fail
  refine (G3.out _).mono ?_
  rintro e w3 ⟨rfl, hb3⟩
  go_wp2_with fail
  go_ret
  exact ⟨ret_s (by rw [D.out]; simp only [← ba_app']; try rfl), bstep (bstep hb1 hb2) hb3⟩

theorem rText (n : Int) (w : World) (h : inA n = true) :
    Calls Tryz.prog 32 #[.int .i64 n] w fun e w' => e = .returned (.string (ba (textT n))) ∧ Below w.heap.size w w' := by
  have b := (inA_iff _).1 h
  by_cases hn : n < 0
  · by_cases hf : n.natAbs % 1000 % 100 = 0
    · exact rtext_n1 n n.natAbs w (by omega) hn (by omega) hf
    · exact rtext_n3 n n.natAbs w (by omega) hn (by omega) hf
  · by_cases hf : n.natAbs % 1000 % 100 = 0
    · exact rtext_p1 n n.natAbs w (by omega) hn (by omega) hf
    · exact rtext_p3 n n.natAbs w (by omega) hn (by omega) hf
end Go.Proofs.YtgcoddjjkcdfmaaGreatDoor
