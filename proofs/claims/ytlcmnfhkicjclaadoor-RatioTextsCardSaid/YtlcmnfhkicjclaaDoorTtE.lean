/- Contract of the reference's digits. -/
import Derived.Test.YtlcmnfhkicjclaaDoorTtD
namespace Go.Proofs.YtlcmnfhkicjclaaDoor
open Go.RowKit
set_option linter.unusedVariables false

theorem run_yes (f : Nat) (l : List UInt8) (k acc : Nat) (h : k < l.length) (hd : dgt l[k] = true) : run (f + 1) (l.drop k) acc = ((run f (l.drop (k + 1)) (10 * acc + (l[k].toNat - 48))).1, (run f (l.drop (k + 1)) (10 * acc + (l[k].toNat - 48))).2 + 1) := by
  rw [List.drop_eq_getElem_cons h]
  simp only [run, hd, if_pos]
theorem run_no (f : Nat) (l : List UInt8) (k acc : Nat) (h : k < l.length) (hd : dgt l[k] = false) : run f (l.drop k) acc = (acc, 0) := by
  rw [List.drop_eq_getElem_cons h]
  cases f <;> simp [run, hd]
theorem run_nil (f : Nat) (l : List UInt8) (k acc : Nat) (h : l.length ≤ k) : run f (l.drop k) acc = (acc, 0) := by
  rw [List.drop_of_length_le h]
  cases f <;> simp [run]
/-- the loop of digits: what is read from k on -/
structure RunI (s : ByteArray) (i k acc : Nat) : Prop where
  le : i ≤ k
  mx : k ≤ i + 11
  ac : acc < 10 ^ (k - i)
  eq : run 11 (s.data.toList.drop i) 0 = ((run (11 - (k - i)) (s.data.toList.drop k) acc).1, (run (11 - (k - i)) (s.data.toList.drop k) acc).2 + (k - i))
theorem RunI.step {s : ByteArray} {i k acc : Nat} (h : RunI s i k acc) (hk : k < s.data.toList.length) (h11 : k < i + 11) (hd : dgt (s.data.toList[k]) = true) : RunI s i (k + 1) (10 * acc + ((s.data.toList[k]).toNat - 48)) := by
  have hle := h.le
  have ha := h.ac
  have e1 : k + 1 - i = (k - i) + 1 := by omega
  have e2 : 11 - (k - i) = (11 - (k - i + 1)) + 1 := by omega
  have hd2 := hd
  unfold dgt at hd2
  have hd2 := of_decide_eq_true hd2
  refine ⟨by omega, by omega, ?_, ?_⟩
  · rw [e1, Nat.pow_succ]; omega
  · rw [h.eq, e2, run_yes _ _ _ _ hk hd, e1]
    simp only [Prod.mk.injEq, true_and]
    omega
theorem RunI.stop {s : ByteArray} {i k acc : Nat} (h : RunI s i k acc) (hr : run (11 - (k - i)) (s.data.toList.drop k) acc = (acc, 0)) : (run 11 (s.data.toList.drop i) 0).1 = acc ∧ i + (run 11 (s.data.toList.drop i) 0).2 = k := by
  have hle := h.le
  rw [h.eq, hr]
  exact ⟨rfl, by show i + (0 + (k - i)) = k; omega⟩

set_option maxRecDepth 100000 in
set_option maxHeartbeats 1000000 in
theorem digits_any (s : ByteArray) (i : Nat) (w : World) (hi : i ≤ s.size) (hs : s.size ≤ 4294967296) (N K : Nat) (hN : (run 11 (s.data.toList.drop i) 0).1 = N) (hK : i + (run 11 (s.data.toList.drop i) 0).2 = K) :
    Calls Tryd.prog 55 #[.string s, .int .i64 (i : Int)] w fun e w' => e = .returned (.tuple #[.int .i64 (N : Int), .int .i64 (K : Int)]) ∧ w' = w := by
  have R0 : Hid (RunI s i i 0) := ⟨Nat.le_refl _, by omega, by simp, by rw [Nat.sub_self]; simp⟩
  have HN := Lib.hid hN
  have HK := Lib.hid hK
  clear hN hK
  go_enter Tryd.func55, Tryd.ntmps55
  go_wp2_with fail
  go_loopg [6, 7] 11 (fun m vn vk wr => w = wr ∧ ∃ k acc : Nat, m = 11 - (k - i) ∧ k ≤ s.size ∧ vn = .int .i64 (acc : Int) ∧ vk = .int .i64 (k : Int) ∧ Hid (RunI s i k acc))
  case atStart => exact ⟨rfl, i, 0, by omega, hi, rfl, rfl, R0⟩
  case round =>
    obtain ⟨rfl, k, acc, hgk, hk, rfl, rfl, HR⟩ := hrel
    have HGK := Lib.hid hgk
    clear hgk
    by_cases hlt : k < s.size
    · have hlt' : k < s.data.toList.length := by simpa using hlt
      by_cases h11 : (k : Int) < (i : Int) + 11
      · have ha : (acc : Int) < 100000000000 := by
          have h1 := HR.out.ac
          have h2 : 10 ^ (k - i) ≤ 10 ^ 11 := Nat.pow_le_pow_right (by omega) (by omega)
          have h3 : (10 : Nat) ^ 11 = 100000000000 := by decide
          omega
        have ec : s.data.toList[k] = s[k]'hlt := rfl
        by_cases h1 : (48 : Int) ≤ ((s[k]'hlt).toNat : Int)
        · by_cases h2 : ((s[k]'hlt).toNat : Int) ≤ 57
          · have HR2 := Lib.hid (HR.out.step hlt' (by omega) (by unfold dgt; rw [ec]; exact decide_eq_true (by omega)))
            rw [ec] at HR2
            have HLE := Lib.hid HR.out.le
            clear HR
            go_wp2_with fail
            go_roundg (11 - (k + 1 - i))
            case measure => have := HGK.out; have := HLE.out; omega
            case rel => exact ⟨rfl, k + 1, 10 * acc + ((s[k]'hlt).toNat - 48), rfl, by omega, by go_num, by go_num, HR2⟩
          · have HE := HR.out.stop (run_no _ _ _ _ hlt' (by unfold dgt; rw [ec]; exact decide_eq_false (by omega)))
            have e1 : Hid (acc = N) := HE.1.symm.trans HN.out
            have e2 : Hid (k = K) := HE.2.symm.trans HK.out
            clear HE
            go_wp2_with fail
            go_ret2
            exact ⟨by rw [← e1.out, ← e2.out]; rfl, rfl⟩
        · have HE := HR.out.stop (run_no _ _ _ _ hlt' (by unfold dgt; rw [ec]; exact decide_eq_false (by omega)))
          have e1 : Hid (acc = N) := HE.1.symm.trans HN.out
          have e2 : Hid (k = K) := HE.2.symm.trans HK.out
          clear HE
          go_wp2_with fail
          go_ret2
          exact ⟨by rw [← e1.out, ← e2.out]; rfl, rfl⟩
      · have HE := HR.out.stop (by rw [show 11 - (k - i) = 0 by have := HR.out.le; omega]; rfl)
        have e1 : Hid (acc = N) := HE.1.symm.trans HN.out
        have e2 : Hid (k = K) := HE.2.symm.trans HK.out
        clear HE
        go_wp2_with fail
        go_ret2
        exact ⟨by rw [← e1.out, ← e2.out]; rfl, rfl⟩
    · have HE := HR.out.stop (run_nil _ _ _ _ (by simp at hlt ⊢; omega))
      have e1 : Hid (acc = N) := HE.1.symm.trans HN.out
      have e2 : Hid (k = K) := HE.2.symm.trans HK.out
      clear HE
      go_wp2_with fail
      go_ret2
      exact ⟨by rw [← e1.out, ← e2.out]; rfl, rfl⟩
end Go.Proofs.YtlcmnfhkicjclaaDoor
