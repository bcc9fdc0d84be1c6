/- The reference's Parse, with a sign: wrong forms. -/
import Derived.Test.YtijgaenfhmgcoaaPrsW
namespace Go.Proofs.Ytijgaenfhmgcoaa
open Go.RowKit
set_option linter.unusedVariables false

set_option maxRecDepth 100000 in
set_option maxHeartbeats 4000000 in
theorem rp1_none (s : ByteArray) (u D R : List UInt8) (d q : Nat) (pe pv : Int) (w : World) (hP : PS 1 true s u D R d pe pv) (hq : q = 1 + D.length) (h0 : q ≤ 1) (hend : s.size ≤ q ∨ ∃ h : q < s.size, isDig (s[q]'h) = false) (h7 : pe = 7 ∧ pv = 0) :
    Calls Try.prog 13 #[.string s, .int .i64 (d : Int)] w fun e w' => e = .returned (.tuple #[.int .i64 pv, .int .i64 pe]) ∧ w = w' := by
  have hs := hP.hs
  have hd := hP.hd
  obtain ⟨rfl, rfl⟩ := h7
  obtain ⟨hp0, hp1⟩ := hP.h1 rfl
  have hb1 : ((s[0].toNat : Int) == 45) = true := by rw [hp1]; rfl
  clear hp1
  have hqlen : q = 1 + D.length := hq
  have hle1 : 1 + D.length ≤ s.size := by have := hP.hul; omega
  have hqs : q ≤ s.size := by omega
  have hqb : 1 ≤ q := by omega
  have HP := Lib.hid hP
  have HQ := Lib.hid hq
  clear hP hq
  go_enter Try.func13, Try.ntmps13
  go_wp2_with fail
  go_loop [6, 8, 9] (fun v n g => ∃ i : Nat, 1 ≤ i ∧ i ≤ 1 + D.length ∧ v = .int .i64 (i : Int) ∧ n = .int .i64 ((accF (D.take (i - 1))).1 : Nat) ∧ g = .bool (accF (D.take (i - 1))).2) (fun v _ _ => s.size - (intOf v).toNat)
  case atStart => exact ⟨1, Nat.le_refl _, by omega, rfl, rfl, rfl⟩
  case round =>
    obtain ⟨i, hi0, hi1, rfl, rfl, rfl⟩ := hrel
    by_cases hlt : i < 1 + D.length
    · exact absurd hlt (by omega)
    obtain rfl : i = 1 + D.length := by omega
    have e0 : D.take (1 + D.length - 1) = D := by rw [show 1 + D.length - 1 = D.length by omega]; exact List.take_length
    rw [e0, ← HQ.out]
    clear e0 hlt hi0 hi1 hqlen
    rcases hend with hsq | ⟨hqs1, hnd⟩
    · go_wp2_with fail
      all_goals go_ret2
      all_goals exact ⟨rfl, rfl⟩
    · have CDQ := Lib.hid (fun wx => rdigit_no (s[q]'hqs1) hnd wx)
      clear hnd
      go_wp2_with (go_at_call 34; refine (CDQ.out _).mono ?_; rintro e w' ⟨rfl, rfl⟩)
      all_goals go_ret2
      all_goals exact ⟨rfl, rfl⟩

set_option maxRecDepth 100000 in
set_option maxHeartbeats 4000000 in
theorem rp1_zero (s : ByteArray) (u D R : List UInt8) (d q : Nat) (pe pv : Int) (w : World) (hP : PS 1 true s u D R d pe pv) (hq : q = 1 + D.length) (h0 : 1 + 1 < q) (hb : 1 < s.size) (h48 : ((s[1].toNat : Int) == 48) = true) (hend : s.size ≤ q ∨ ∃ h : q < s.size, isDig (s[q]'h) = false) (h7 : pe = 7 ∧ pv = 0) :
    Calls Try.prog 13 #[.string s, .int .i64 (d : Int)] w fun e w' => e = .returned (.tuple #[.int .i64 pv, .int .i64 pe]) ∧ w = w' := by
  have hs := hP.hs
  have hd := hP.hd
  obtain ⟨rfl, rfl⟩ := h7
  obtain ⟨hp0, hp1⟩ := hP.h1 rfl
  have hb1 : ((s[0].toNat : Int) == 45) = true := by rw [hp1]; rfl
  clear hp1
  have hqlen : q = 1 + D.length := hq
  have hle1 : 1 + D.length ≤ s.size := by have := hP.hul; omega
  have hqs : q ≤ s.size := by omega
  have hqb : 1 ≤ q := by omega
  have HP := Lib.hid hP
  have HQ := Lib.hid hq
  clear hP hq
  go_enter Try.func13, Try.ntmps13
  go_wp2_with fail
  go_loop [6, 8, 9] (fun v n g => ∃ i : Nat, 1 ≤ i ∧ i ≤ 1 + D.length ∧ v = .int .i64 (i : Int) ∧ n = .int .i64 ((accF (D.take (i - 1))).1 : Nat) ∧ g = .bool (accF (D.take (i - 1))).2) (fun v _ _ => s.size - (intOf v).toNat)
  case atStart => exact ⟨1, Nat.le_refl _, by omega, rfl, rfl, rfl⟩
  case round =>
    obtain ⟨i, hi0, hi1, rfl, rfl, rfl⟩ := hrel
    by_cases hlt : i < 1 + D.length
    · obtain ⟨his, hst, hmem⟩ := HP.out.hAD.step i hi0 hlt
      have hdig : isDig (s[i]'his) = true := List.all_eq_true.1 HP.out.hDA _ hmem
      have CD := Lib.hid (fun wx => rdigit_yes (s[i]'his) hdig wx)
      have hdd := isDig_iff.1 hdig
      have hsp := (accF_spec _ (all_take HP.out.hDA (i - 1))).1
      by_cases hov : 115292150460684697 < (accF (D.take (i - 1))).1
      · have HS : Hid (accF (D.take (i + 1 - 1)) = ((accF (D.take (i - 1))).1, true)) := by show _ = _; rw [hst]; exact acc_over hov
        obtain ⟨n, hn0⟩ : ∃ n, n = (accF (D.take (i - 1))).1 := ⟨_, rfl⟩
        rw [← hn0] at hov hsp HS ⊢
        clear hst hmem hdig hn0
        go_wp2_with (go_at_call 34; refine (CD.out _).mono ?_; rintro e w' ⟨rfl, rfl⟩)
        go_round
        case rel => exact ⟨i + 1, by omega, by omega, by go_num, by rw [HS.out], by rw [HS.out]⟩
        case measure => simp [intOf]; omega
      · have HS : Hid (accF (D.take (i + 1 - 1)) = (10 * (accF (D.take (i - 1))).1 + ((s[i]'his).toNat - 48), (accF (D.take (i - 1))).2)) := by show _ = _; rw [hst]; exact acc_add hov
        obtain ⟨n, hn0⟩ : ∃ n, n = (accF (D.take (i - 1))).1 := ⟨_, rfl⟩
        obtain ⟨g, hg0⟩ : ∃ g, g = (accF (D.take (i - 1))).2 := ⟨_, rfl⟩
        rw [← hn0] at hov hsp HS ⊢
        rw [← hg0] at HS ⊢
        clear hst hmem hdig hn0 hg0
        go_wp2_with (go_at_call 34; refine (CD.out _).mono ?_; rintro e w' ⟨rfl, rfl⟩)
        go_round
        case rel => exact ⟨i + 1, by omega, by omega, by go_num, by rw [HS.out]; go_num, by rw [HS.out]⟩
        case measure => simp [intOf]; omega
    obtain rfl : i = 1 + D.length := by omega
    have e0 : D.take (1 + D.length - 1) = D := by rw [show 1 + D.length - 1 = D.length by omega]; exact List.take_length
    rw [e0, ← HQ.out]
    clear e0 hlt hi0 hi1 hqlen
    rcases hend with hsq | ⟨hqs1, hnd⟩
    · go_wp2_with fail
      all_goals go_ret2
      all_goals exact ⟨rfl, rfl⟩
    · have CDQ := Lib.hid (fun wx => rdigit_no (s[q]'hqs1) hnd wx)
      clear hnd
      go_wp2_with (go_at_call 34; refine (CDQ.out _).mono ?_; rintro e w' ⟨rfl, rfl⟩)
      all_goals go_ret2
      all_goals exact ⟨rfl, rfl⟩

end Go.Proofs.Ytijgaenfhmgcoaa
