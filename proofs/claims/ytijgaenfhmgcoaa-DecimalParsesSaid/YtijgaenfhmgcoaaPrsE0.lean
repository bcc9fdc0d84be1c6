/- The reference's Parse, without a sign: wrong forms. -/
import Derived.Test.YtijgaenfhmgcoaaPrsW
namespace Go.Proofs.Ytijgaenfhmgcoaa
open Go.RowKit
set_option linter.unusedVariables false

set_option maxRecDepth 100000 in
set_option maxHeartbeats 4000000 in
theorem rp0_none (s : ByteArray) (u D R : List UInt8) (d q : Nat) (pe pv : Int) (w : World) (hP : PS 0 false s u D R d pe pv) (hq : q = 0 + D.length) (h0 : q ≤ 0) (hend : s.size ≤ q ∨ ∃ h : q < s.size, isDig (s[q]'h) = false) (h7 : pe = 7 ∧ pv = 0) :
    Calls Try.prog 13 #[.string s, .int .i64 (d : Int)] w fun e w' => e = .returned (.tuple #[.int .i64 pv, .int .i64 pe]) ∧ w = w' := by
  have hs := hP.hs
  have hd := hP.hd
  obtain ⟨rfl, rfl⟩ := h7
  have hqlen : q = 0 + D.length := hq
  have hle1 : 0 + D.length ≤ s.size := by have := hP.hul; omega
  have hqs : q ≤ s.size := by omega
  have HP := Lib.hid hP
  have HQ := Lib.hid hq
  clear hP hq
  rcases Nat.eq_zero_or_pos s.size with hz | hz
  · have hz' : s.size ≤ 0 := by omega
    go_enter Try.func13, Try.ntmps13
    go_wp2_with fail
    go_loop [6, 8, 9] (fun v n g => ∃ i : Nat, 0 ≤ i ∧ i ≤ 0 + D.length ∧ v = .int .i64 (i : Int) ∧ n = .int .i64 ((accF (D.take (i - 0))).1 : Nat) ∧ g = .bool (accF (D.take (i - 0))).2) (fun v _ _ => s.size - (intOf v).toNat)
    case atStart => exact ⟨0, Nat.le_refl _, by omega, rfl, rfl, rfl⟩
    case round =>
      obtain ⟨i, hi0, hi1, rfl, rfl, rfl⟩ := hrel
      by_cases hlt : i < 0 + D.length
      · exact absurd hlt (by omega)
      obtain rfl : i = 0 + D.length := by omega
      have e0 : D.take (0 + D.length - 0) = D := by rw [show 0 + D.length - 0 = D.length by omega]; exact List.take_length
      rw [e0, ← HQ.out]
      clear e0 hlt hi0 hi1 hqlen
      rcases hend with hsq | ⟨hqs1, hnd⟩
      · go_wp2_with fail
        all_goals go_ret2
        all_goals exact ⟨rfl, rfl⟩
      · exact absurd hqs1 (by omega)

  · have hb' : ((s[0].toNat : Int) == 45) = false := by have := HP.out.h0 rfl hz; simp; omega
    go_enter Try.func13, Try.ntmps13
    go_wp2_with fail
    go_loop [6, 8, 9] (fun v n g => ∃ i : Nat, 0 ≤ i ∧ i ≤ 0 + D.length ∧ v = .int .i64 (i : Int) ∧ n = .int .i64 ((accF (D.take (i - 0))).1 : Nat) ∧ g = .bool (accF (D.take (i - 0))).2) (fun v _ _ => s.size - (intOf v).toNat)
    case atStart => exact ⟨0, Nat.le_refl _, by omega, rfl, rfl, rfl⟩
    case round =>
      obtain ⟨i, hi0, hi1, rfl, rfl, rfl⟩ := hrel
      by_cases hlt : i < 0 + D.length
      · exact absurd hlt (by omega)
      obtain rfl : i = 0 + D.length := by omega
      have e0 : D.take (0 + D.length - 0) = D := by rw [show 0 + D.length - 0 = D.length by omega]; exact List.take_length
      rw [e0, ← HQ.out]
      clear e0 hlt hi0 hi1 hqlen
      rcases hend with hsq | ⟨hqs1, hnd⟩
      · go_wp2_with fail
        all_goals go_ret2
        all_goals exact ⟨rfl, rfl⟩
      · have CDQ := Lib.hid (fun wx => rdigit_no (s[q]'hqs1) hnd wx)
        clear hnd
        go_wp2_with (go_at_call 34; refine (CDQ.out _).mono ?_; rintro e w' ⟨rfl, rfl⟩)
        all_goals go_ret2
        all_goals exact ⟨rfl, rfl⟩


set_option maxRecDepth 100000 in
set_option maxHeartbeats 4000000 in
theorem rp0_zero (s : ByteArray) (u D R : List UInt8) (d q : Nat) (pe pv : Int) (w : World) (hP : PS 0 false s u D R d pe pv) (hq : q = 0 + D.length) (h0 : 0 + 1 < q) (hb : 0 < s.size) (h48 : ((s[0].toNat : Int) == 48) = true) (hend : s.size ≤ q ∨ ∃ h : q < s.size, isDig (s[q]'h) = false) (h7 : pe = 7 ∧ pv = 0) :
    Calls Try.prog 13 #[.string s, .int .i64 (d : Int)] w fun e w' => e = .returned (.tuple #[.int .i64 pv, .int .i64 pe]) ∧ w = w' := by
  have hs := hP.hs
  have hd := hP.hd
  obtain ⟨rfl, rfl⟩ := h7
  have hqlen : q = 0 + D.length := hq
  have hle1 : 0 + D.length ≤ s.size := by have := hP.hul; omega
  have hqs : q ≤ s.size := by omega
  have HP := Lib.hid hP
  have HQ := Lib.hid hq
  clear hP hq
  have hz : 0 < s.size := by omega
  have hb' : ((s[0].toNat : Int) == 45) = false := by have := HP.out.h0 rfl hz; simp; omega
  go_enter Try.func13, Try.ntmps13
  go_wp2_with fail
  go_loop [6, 8, 9] (fun v n g => ∃ i : Nat, 0 ≤ i ∧ i ≤ 0 + D.length ∧ v = .int .i64 (i : Int) ∧ n = .int .i64 ((accF (D.take (i - 0))).1 : Nat) ∧ g = .bool (accF (D.take (i - 0))).2) (fun v _ _ => s.size - (intOf v).toNat)
  case atStart => exact ⟨0, Nat.le_refl _, by omega, rfl, rfl, rfl⟩
  case round =>
    obtain ⟨i, hi0, hi1, rfl, rfl, rfl⟩ := hrel
    by_cases hlt : i < 0 + D.length
    · obtain ⟨his, hst, hmem⟩ := HP.out.hAD.step i hi0 hlt
      have hdig : isDig (s[i]'his) = true := List.all_eq_true.1 HP.out.hDA _ hmem
      have CD := Lib.hid (fun wx => rdigit_yes (s[i]'his) hdig wx)
      have hdd := isDig_iff.1 hdig
      have hsp := (accF_spec _ (all_take HP.out.hDA (i - 0))).1
      by_cases hov : 115292150460684697 < (accF (D.take (i - 0))).1
      · have HS : Hid (accF (D.take (i + 1 - 0)) = ((accF (D.take (i - 0))).1, true)) := by show _ = _; rw [hst]; exact acc_over hov
        obtain ⟨n, hn0⟩ : ∃ n, n = (accF (D.take (i - 0))).1 := ⟨_, rfl⟩
        rw [← hn0] at hov hsp HS ⊢
        clear hst hmem hdig hn0
        go_wp2_with (go_at_call 34; refine (CD.out _).mono ?_; rintro e w' ⟨rfl, rfl⟩)
        go_round
        case rel => exact ⟨i + 1, by omega, by omega, by go_num, by rw [HS.out], by rw [HS.out]⟩
        case measure => simp [intOf]; omega
      · have HS : Hid (accF (D.take (i + 1 - 0)) = (10 * (accF (D.take (i - 0))).1 + ((s[i]'his).toNat - 48), (accF (D.take (i - 0))).2)) := by show _ = _; rw [hst]; exact acc_add hov
        obtain ⟨n, hn0⟩ : ∃ n, n = (accF (D.take (i - 0))).1 := ⟨_, rfl⟩
        obtain ⟨g, hg0⟩ : ∃ g, g = (accF (D.take (i - 0))).2 := ⟨_, rfl⟩
        rw [← hn0] at hov hsp HS ⊢
        rw [← hg0] at HS ⊢
        clear hst hmem hdig hn0 hg0
        go_wp2_with (go_at_call 34; refine (CD.out _).mono ?_; rintro e w' ⟨rfl, rfl⟩)
        go_round
        case rel => exact ⟨i + 1, by omega, by omega, by go_num, by rw [HS.out]; go_num, by rw [HS.out]⟩
        case measure => simp [intOf]; omega
    obtain rfl : i = 0 + D.length := by omega
    have e0 : D.take (0 + D.length - 0) = D := by rw [show 0 + D.length - 0 = D.length by omega]; exact List.take_length
    rw [e0, ← HQ.out]
    clear e0 hlt hi0 hi1 hqlen
    rcases hend with hsq | ⟨hqs1, hnd⟩
    · go_wp2_with fail
      all_goals go_ret2
      all_goals exact ⟨rfl, rfl⟩
    · have CDQ := Lib.hid (fun wx => rdigit_no (s[q]'hqs1) hnd wx)
      clear hnd
      go_wp2_with (go_at_call 34; refine (CDQ.out _).mono ?_; rintro e w' ⟨rfl, rfl⟩)
      all_goals go_ret2
      all_goals exact ⟨rfl, rfl⟩


end Go.Proofs.Ytijgaenfhmgcoaa
