/- The reference's Parse, without a sign. -/
import Derived.Test.YtijgaenfhmgcoaaPrsW
namespace Go.Proofs.Ytijgaenfhmgcoaa
open Go.RowKit
set_option linter.unusedVariables false

set_option maxRecDepth 100000 in
set_option maxHeartbeats 4000000 in
theorem rp0_other (s : ByteArray) (u D R : List UInt8) (d q : Nat) (pe pv : Int) (w : World) (hP : PS 0 false s u D R d pe pv) (hq : q = 0 + D.length) (h0 : 0 < q) (hb : 0 < s.size) (hf : q ≤ 0 + 1 ∨ (0 + 1 < q ∧ ((s[0].toNat : Int) == 48) = false)) (hqs1 : q < s.size) (hnd : isDig s[q] = false) (t46 : ((s[q].toNat : Int) != 46) = true) (h7 : pe = 7 ∧ pv = 0) :
    Calls Try.prog 13 #[.string s, .int .i64 (d : Int)] w fun e w' => e = .returned (.tuple #[.int .i64 pv, .int .i64 pe]) ∧ w = w' := by
  have hs := hP.hs
  have hd := hP.hd
  obtain ⟨rfl, rfl⟩ := h7
  have CDQ := Lib.hid (fun wx => rdigit_no (s[q]'hqs1) hnd wx)
  clear hnd
  have hqlen : q = 0 + D.length := hq
  have hle1 : 0 + D.length ≤ s.size := by have := hP.hul; omega
  have hqs : q ≤ s.size := by omega
  have hqb : 0 ≤ q := by omega
  have HP := Lib.hid hP
  have HQ := Lib.hid hq
  clear hP hq
  have eqb : ((q : Int) == 0) = false := by simp; omega
  have hz : 0 < s.size := by omega
  have hb' : ((s[0].toNat : Int) == 45) = false := by have := HP.out.h0 rfl hz; simp; omega
  go_enter Try.func13, Try.ntmps13
  go_wp2_with fail
  go_loop [6, 8, 9] (fun v n g => ∃ i : Nat, 0 ≤ i ∧ i ≤ 0 + D.length ∧ v = .int .i64 (i : Int) ∧ n = .int .i64 ((accF (D.take (i - 0))).1 : Nat) ∧ g = .bool (accF (D.take (i - 0))).2) (fun v _ _ => s.size - (intOf v).toNat)
  case atStart => exact ⟨0, Nat.le_refl _, by omega, rfl, rfl, rfl⟩
  case round =>
    obtain ⟨i, hi0, hi1, rfl, rfl, rfl⟩ := hrel
    by_cases hlt : i < 0 + D.length
    · obtain ⟨his, hst, hmem⟩ := HP.out.hAD.step i hi0 hlt
      have hdig : isDig (s[i]'his) = true := List.all_eq_true.1 HP.out.hDA _ hmem
      have CD := Lib.hid (fun wx => rdigit_yes (s[i]'his) hdig wx)
      have hdd := isDig_iff.1 hdig
      have hsp := (accF_spec _ (all_take HP.out.hDA (i - 0))).1
      by_cases hov : 115292150460684697 < (accF (D.take (i - 0))).1
      · have HS : Hid (accF (D.take (i + 1 - 0)) = ((accF (D.take (i - 0))).1, true)) := by show _ = _; rw [hst]; exact acc_over hov
        obtain ⟨n, hn0⟩ : ∃ n, n = (accF (D.take (i - 0))).1 := ⟨_, rfl⟩
        rw [← hn0] at hov hsp HS ⊢
        clear hst hmem hdig hn0
        go_wp2_with (go_at_call 34; refine (CD.out _).mono ?_; rintro e w' ⟨rfl, rfl⟩)
        go_round
        case rel => exact ⟨i + 1, by omega, by omega, by go_num, by rw [HS.out], by rw [HS.out]⟩
        case measure => simp [intOf]; omega
      · have HS : Hid (accF (D.take (i + 1 - 0)) = (10 * (accF (D.take (i - 0))).1 + ((s[i]'his).toNat - 48), (accF (D.take (i - 0))).2)) := by show _ = _; rw [hst]; exact acc_add hov
        obtain ⟨n, hn0⟩ : ∃ n, n = (accF (D.take (i - 0))).1 := ⟨_, rfl⟩
        obtain ⟨g, hg0⟩ : ∃ g, g = (accF (D.take (i - 0))).2 := ⟨_, rfl⟩
        rw [← hn0] at hov hsp HS ⊢
        rw [← hg0] at HS ⊢
        clear hst hmem hdig hn0 hg0
        go_wp2_with (go_at_call 34; refine (CD.out _).mono ?_; rintro e w' ⟨rfl, rfl⟩)
        go_round
        case rel => exact ⟨i + 1, by omega, by omega, by go_num, by rw [HS.out]; go_num, by rw [HS.out]⟩
        case measure => simp [intOf]; omega
    obtain rfl : i = 0 + D.length := by omega
    have e0 : D.take (0 + D.length - 0) = D := by rw [show 0 + D.length - 0 = D.length by omega]; exact List.take_length
    rw [e0, ← HQ.out]
    clear e0 hlt hi0 hi1 hqlen
    rcases hf with hf | ⟨hf, hf2⟩
    · go_wp2_with (go_at_call 34; refine (CDQ.out _).mono ?_; rintro e w' ⟨rfl, rfl⟩)
      go_ret2
      exact ⟨rfl, rfl⟩

    · go_wp2_with (go_at_call 34; refine (CDQ.out _).mono ?_; rintro e w' ⟨rfl, rfl⟩)
      go_ret2
      exact ⟨rfl, rfl⟩



set_option maxRecDepth 100000 in
set_option maxHeartbeats 4000000 in
theorem rp0_len (s : ByteArray) (u D R : List UInt8) (d q : Nat) (pe pv : Int) (w : World) (hP : PS 0 false s u D R d pe pv) (hq : q = 0 + D.length) (h0 : 0 < q) (hb : 0 < s.size) (hf : q ≤ 0 + 1 ∨ (0 + 1 < q ∧ ((s[0].toNat : Int) == 48) = false)) (hqs1 : q < s.size) (hnd : isDig s[q] = false) (t46 : ((s[q].toNat : Int) != 46) = false) (hl : (s.size ≤ q + 1 ∨ d + q + 1 < s.size)) (h7 : pe = 7 ∧ pv = 0) :
    Calls Try.prog 13 #[.string s, .int .i64 (d : Int)] w fun e w' => e = .returned (.tuple #[.int .i64 pv, .int .i64 pe]) ∧ w = w' := by
  have hs := hP.hs
  have hd := hP.hd
  obtain ⟨rfl, rfl⟩ := h7
  have CDQ := Lib.hid (fun wx => rdigit_no (s[q]'hqs1) hnd wx)
  clear hnd
  have hqlen : q = 0 + D.length := hq
  have hle1 : 0 + D.length ≤ s.size := by have := hP.hul; omega
  have hqs : q ≤ s.size := by omega
  have hqb : 0 ≤ q := by omega
  have HP := Lib.hid hP
  have HQ := Lib.hid hq
  clear hP hq
  have eqb : ((q : Int) == 0) = false := by simp; omega
  have hz : 0 < s.size := by omega
  have hb' : ((s[0].toNat : Int) == 45) = false := by have := HP.out.h0 rfl hz; simp; omega
  go_enter Try.func13, Try.ntmps13
  go_wp2_with fail
  go_loop [6, 8, 9] (fun v n g => ∃ i : Nat, 0 ≤ i ∧ i ≤ 0 + D.length ∧ v = .int .i64 (i : Int) ∧ n = .int .i64 ((accF (D.take (i - 0))).1 : Nat) ∧ g = .bool (accF (D.take (i - 0))).2) (fun v _ _ => s.size - (intOf v).toNat)
  case atStart => exact ⟨0, Nat.le_refl _, by omega, rfl, rfl, rfl⟩
  case round =>
    obtain ⟨i, hi0, hi1, rfl, rfl, rfl⟩ := hrel
    by_cases hlt : i < 0 + D.length
    · obtain ⟨his, hst, hmem⟩ := HP.out.hAD.step i hi0 hlt
      have hdig : isDig (s[i]'his) = true := List.all_eq_true.1 HP.out.hDA _ hmem
      have CD := Lib.hid (fun wx => rdigit_yes (s[i]'his) hdig wx)
      have hdd := isDig_iff.1 hdig
      have hsp := (accF_spec _ (all_take HP.out.hDA (i - 0))).1
      by_cases hov : 115292150460684697 < (accF (D.take (i - 0))).1
      · have HS : Hid (accF (D.take (i + 1 - 0)) = ((accF (D.take (i - 0))).1, true)) := by show _ = _; rw [hst]; exact acc_over hov
        obtain ⟨n, hn0⟩ : ∃ n, n = (accF (D.take (i - 0))).1 := ⟨_, rfl⟩
        rw [← hn0] at hov hsp HS ⊢
        clear hst hmem hdig hn0
        go_wp2_with (go_at_call 34; refine (CD.out _).mono ?_; rintro e w' ⟨rfl, rfl⟩)
        go_round
        case rel => exact ⟨i + 1, by omega, by omega, by go_num, by rw [HS.out], by rw [HS.out]⟩
        case measure => simp [intOf]; omega
      · have HS : Hid (accF (D.take (i + 1 - 0)) = (10 * (accF (D.take (i - 0))).1 + ((s[i]'his).toNat - 48), (accF (D.take (i - 0))).2)) := by show _ = _; rw [hst]; exact acc_add hov
        obtain ⟨n, hn0⟩ : ∃ n, n = (accF (D.take (i - 0))).1 := ⟨_, rfl⟩
        obtain ⟨g, hg0⟩ : ∃ g, g = (accF (D.take (i - 0))).2 := ⟨_, rfl⟩
        rw [← hn0] at hov hsp HS ⊢
        rw [← hg0] at HS ⊢
        clear hst hmem hdig hn0 hg0
        go_wp2_with (go_at_call 34; refine (CD.out _).mono ?_; rintro e w' ⟨rfl, rfl⟩)
        go_round
        case rel => exact ⟨i + 1, by omega, by omega, by go_num, by rw [HS.out]; go_num, by rw [HS.out]⟩
        case measure => simp [intOf]; omega
    obtain rfl : i = 0 + D.length := by omega
    have e0 : D.take (0 + D.length - 0) = D := by rw [show 0 + D.length - 0 = D.length by omega]; exact List.take_length
    rw [e0, ← HQ.out]
    clear e0 hlt hi0 hi1 hqlen
    rcases hl with hl | hl
    · rcases hf with hf | ⟨hf, hf2⟩
      · go_wp2_with (go_at_call 34; refine (CDQ.out _).mono ?_; rintro e w' ⟨rfl, rfl⟩)
        go_ret2
        exact ⟨rfl, rfl⟩

      · go_wp2_with (go_at_call 34; refine (CDQ.out _).mono ?_; rintro e w' ⟨rfl, rfl⟩)
        go_ret2
        exact ⟨rfl, rfl⟩


    · rcases hf with hf | ⟨hf, hf2⟩
      · go_wp2_with (go_at_call 34; refine (CDQ.out _).mono ?_; rintro e w' ⟨rfl, rfl⟩)
        go_ret2
        exact ⟨rfl, rfl⟩

      · go_wp2_with (go_at_call 34; refine (CDQ.out _).mono ?_; rintro e w' ⟨rfl, rfl⟩)
        go_ret2
        exact ⟨rfl, rfl⟩




set_option maxRecDepth 100000 in
set_option maxHeartbeats 4000000 in
theorem rp0_bad (s : ByteArray) (u D R : List UInt8) (d q : Nat) (pe pv : Int) (w : World) (hP : PS 0 false s u D R d pe pv) (hq : q = 0 + D.length) (h0 : 0 < q) (hb : 0 < s.size) (hf : q ≤ 0 + 1 ∨ (0 + 1 < q ∧ ((s[0].toNat : Int) == 48) = false)) (hqs1 : q < s.size) (hnd : isDig s[q] = false) (t46 : ((s[q].toNat : Int) != 46) = false) (g1 : q + 1 < s.size) (g2 : s.size ≤ d + q + 1) (Z : List UInt8) (hAZ : LAt s (q + 1) Z) (hZA : Z.all isDig = true) (hxs : q + 1 + Z.length < s.size) (hX : ∀ h : q + 1 + Z.length < s.size, isDig (s[q + 1 + Z.length]'h) = false) (hzd : Z.length ≤ d) (h7 : pe = 7 ∧ pv = 0) :
    Calls Try.prog 13 #[.string s, .int .i64 (d : Int)] w fun e w' => e = .returned (.tuple #[.int .i64 pv, .int .i64 pe]) ∧ w = w' := by
  have hs := hP.hs
  have hd := hP.hd
  obtain ⟨rfl, rfl⟩ := h7
  have HAZ := Lib.hid hAZ
  have HZA := Lib.hid hZA
  have HX := Lib.hid hX
  have CDQ := Lib.hid (fun wx => rdigit_no (s[q]'hqs1) hnd wx)
  clear hnd
  clear hAZ hZA hX
  have e1 : (((q : Int) + 1) == (s.size : Int)) = false := by simp; omega
  have hqlen : q = 0 + D.length := hq
  have hle1 : 0 + D.length ≤ s.size := by have := hP.hul; omega
  have hqs : q ≤ s.size := by omega
  have hqb : 0 ≤ q := by omega
  have HP := Lib.hid hP
  have HQ := Lib.hid hq
  clear hP hq
  have eqb : ((q : Int) == 0) = false := by simp; omega
  have hz : 0 < s.size := by omega
  have hb' : ((s[0].toNat : Int) == 45) = false := by have := HP.out.h0 rfl hz; simp; omega
  go_enter Try.func13, Try.ntmps13
  go_wp2_with fail
  go_loop [6, 8, 9] (fun v n g => ∃ i : Nat, 0 ≤ i ∧ i ≤ 0 + D.length ∧ v = .int .i64 (i : Int) ∧ n = .int .i64 ((accF (D.take (i - 0))).1 : Nat) ∧ g = .bool (accF (D.take (i - 0))).2) (fun v _ _ => s.size - (intOf v).toNat)
  case atStart => exact ⟨0, Nat.le_refl _, by omega, rfl, rfl, rfl⟩
  case round =>
    obtain ⟨i, hi0, hi1, rfl, rfl, rfl⟩ := hrel
    by_cases hlt : i < 0 + D.length
    · obtain ⟨his, hst, hmem⟩ := HP.out.hAD.step i hi0 hlt
      have hdig : isDig (s[i]'his) = true := List.all_eq_true.1 HP.out.hDA _ hmem
      have CD := Lib.hid (fun wx => rdigit_yes (s[i]'his) hdig wx)
      have hdd := isDig_iff.1 hdig
      have hsp := (accF_spec _ (all_take HP.out.hDA (i - 0))).1
      by_cases hov : 115292150460684697 < (accF (D.take (i - 0))).1
      · have HS : Hid (accF (D.take (i + 1 - 0)) = ((accF (D.take (i - 0))).1, true)) := by show _ = _; rw [hst]; exact acc_over hov
        obtain ⟨n, hn0⟩ : ∃ n, n = (accF (D.take (i - 0))).1 := ⟨_, rfl⟩
        rw [← hn0] at hov hsp HS ⊢
        clear hst hmem hdig hn0
        go_wp2_with (go_at_call 34; refine (CD.out _).mono ?_; rintro e w' ⟨rfl, rfl⟩)
        go_round
        case rel => exact ⟨i + 1, by omega, by omega, by go_num, by rw [HS.out], by rw [HS.out]⟩
        case measure => simp [intOf]; omega
      · have HS : Hid (accF (D.take (i + 1 - 0)) = (10 * (accF (D.take (i - 0))).1 + ((s[i]'his).toNat - 48), (accF (D.take (i - 0))).2)) := by show _ = _; rw [hst]; exact acc_add hov
        obtain ⟨n, hn0⟩ : ∃ n, n = (accF (D.take (i - 0))).1 := ⟨_, rfl⟩
        obtain ⟨g, hg0⟩ : ∃ g, g = (accF (D.take (i - 0))).2 := ⟨_, rfl⟩
        rw [← hn0] at hov hsp HS ⊢
        rw [← hg0] at HS ⊢
        clear hst hmem hdig hn0 hg0
        go_wp2_with (go_at_call 34; refine (CD.out _).mono ?_; rintro e w' ⟨rfl, rfl⟩)
        go_round
        case rel => exact ⟨i + 1, by omega, by omega, by go_num, by rw [HS.out]; go_num, by rw [HS.out]⟩
        case measure => simp [intOf]; omega
    obtain rfl : i = 0 + D.length := by omega
    have e0 : D.take (0 + D.length - 0) = D := by rw [show 0 + D.length - 0 = D.length by omega]; exact List.take_length
    rw [e0, ← HQ.out]
    clear e0 hlt hi0 hi1 hqlen
    rcases hf with hf | ⟨hf, hf2⟩
    · go_wp2_with (go_at_call 34; refine (CDQ.out _).mono ?_; rintro e w' ⟨rfl, rfl⟩)
      go_loopg [6, 8, 9, 10] (s.size - (q + 1)) (fun m v n g f wr => w = wr ∧ ∃ i : Nat, m = s.size - i ∧ q + 1 ≤ i ∧ i ≤ q + 1 + Z.length ∧ v = .int .i64 (i : Int) ∧ n = .int .i64 ((accF (D ++ Z.take (i - (q + 1)))).1 : Nat) ∧ g = .bool (accF (D ++ Z.take (i - (q + 1)))).2 ∧ f = .int .i64 ((d - (i - (q + 1)) : Nat) : Int))
      case atStart => exact ⟨rfl, q + 1, rfl, Nat.le_refl _, by omega, by first | rfl | go_num, by simp, by simp, by simp⟩
      case round =>
        obtain ⟨rfl, i, hgk, hi0, hi1, rfl, rfl, rfl, rfl⟩ := hrel
        have HGK := Lib.hid hgk
        clear hgk
        have hzle := HAZ.out.le
        by_cases hlt : i < q + 1 + Z.length
        · obtain ⟨his, hst, hmem⟩ := HAZ.out.step i hi0 hlt
          have hdig : isDig (s[i]'his) = true := List.all_eq_true.1 HZA.out _ hmem
          have CD := Lib.hid (fun wx => rdigit_yes (s[i]'his) hdig wx)
          have hdd := isDig_iff.1 hdig
          have hsp := (accF_spec _ (all_app HP.out.hDA (all_take HZA.out (i - (q + 1))))).1
          by_cases hov : 115292150460684697 < (accF (D ++ Z.take (i - (q + 1)))).1
          · have HS : Hid (accF (D ++ Z.take (i + 1 - (q + 1))) = ((accF (D ++ Z.take (i - (q + 1)))).1, true)) := by show _ = _; rw [hst, ← List.append_assoc]; exact acc_over hov
            obtain ⟨n, hn0⟩ : ∃ n, n = (accF (D ++ Z.take (i - (q + 1)))).1 := ⟨_, rfl⟩
            rw [← hn0] at hov hsp HS ⊢
            clear hst hmem hdig hn0
            go_wp2_with (go_at_call 34; refine (CD.out _).mono ?_; rintro e w' ⟨rfl, rfl⟩)
            go_roundg (s.size - (i + 1))
            case rel => exact ⟨rfl, i + 1, rfl, by omega, by omega, by go_num, by rw [HS.out], by rw [HS.out], by go_num⟩
            case measure => have := HGK.out; omega
          · have HS : Hid (accF (D ++ Z.take (i + 1 - (q + 1))) = (10 * (accF (D ++ Z.take (i - (q + 1)))).1 + ((s[i]'his).toNat - 48), (accF (D ++ Z.take (i - (q + 1)))).2)) := by show _ = _; rw [hst, ← List.append_assoc]; exact acc_add hov
            obtain ⟨n, hn0⟩ : ∃ n, n = (accF (D ++ Z.take (i - (q + 1)))).1 := ⟨_, rfl⟩
            obtain ⟨g, hg0⟩ : ∃ g, g = (accF (D ++ Z.take (i - (q + 1)))).2 := ⟨_, rfl⟩
            rw [← hn0] at hov hsp HS ⊢
            rw [← hg0] at HS ⊢
            clear hst hmem hdig hn0 hg0
            go_wp2_with (go_at_call 34; refine (CD.out _).mono ?_; rintro e w' ⟨rfl, rfl⟩)
            go_roundg (s.size - (i + 1))
            case rel => exact ⟨rfl, i + 1, rfl, by omega, by omega, by go_num, by rw [HS.out]; go_num, by rw [HS.out], by go_num⟩
            case measure => have := HGK.out; omega
        · obtain ⟨x, hx⟩ : ∃ x, x = q + 1 + Z.length := ⟨_, rfl⟩
          obtain rfl : i = x := by omega
          rw [← hx] at HX hxs
          have CD := Lib.hid (fun wx => rdigit_no (s[i]'hxs) (HX.out hxs) wx)
          clear hx
          go_wp2_with (go_at_call 34; refine (CD.out _).mono ?_; rintro e w' ⟨rfl, rfl⟩)
          go_ret2
          exact ⟨rfl, rfl⟩

    · go_wp2_with (go_at_call 34; refine (CDQ.out _).mono ?_; rintro e w' ⟨rfl, rfl⟩)
      go_loopg [6, 8, 9, 10] (s.size - (q + 1)) (fun m v n g f wr => w = wr ∧ ∃ i : Nat, m = s.size - i ∧ q + 1 ≤ i ∧ i ≤ q + 1 + Z.length ∧ v = .int .i64 (i : Int) ∧ n = .int .i64 ((accF (D ++ Z.take (i - (q + 1)))).1 : Nat) ∧ g = .bool (accF (D ++ Z.take (i - (q + 1)))).2 ∧ f = .int .i64 ((d - (i - (q + 1)) : Nat) : Int))
      case atStart => exact ⟨rfl, q + 1, rfl, Nat.le_refl _, by omega, by first | rfl | go_num, by simp, by simp, by simp⟩
      case round =>
        obtain ⟨rfl, i, hgk, hi0, hi1, rfl, rfl, rfl, rfl⟩ := hrel
        have HGK := Lib.hid hgk
        clear hgk
        have hzle := HAZ.out.le
        by_cases hlt : i < q + 1 + Z.length
        · obtain ⟨his, hst, hmem⟩ := HAZ.out.step i hi0 hlt
          have hdig : isDig (s[i]'his) = true := List.all_eq_true.1 HZA.out _ hmem
          have CD := Lib.hid (fun wx => rdigit_yes (s[i]'his) hdig wx)
          have hdd := isDig_iff.1 hdig
          have hsp := (accF_spec _ (all_app HP.out.hDA (all_take HZA.out (i - (q + 1))))).1
          by_cases hov : 115292150460684697 < (accF (D ++ Z.take (i - (q + 1)))).1
          · have HS : Hid (accF (D ++ Z.take (i + 1 - (q + 1))) = ((accF (D ++ Z.take (i - (q + 1)))).1, true)) := by show _ = _; rw [hst, ← List.append_assoc]; exact acc_over hov
            obtain ⟨n, hn0⟩ : ∃ n, n = (accF (D ++ Z.take (i - (q + 1)))).1 := ⟨_, rfl⟩
            rw [← hn0] at hov hsp HS ⊢
            clear hst hmem hdig hn0
            go_wp2_with (go_at_call 34; refine (CD.out _).mono ?_; rintro e w' ⟨rfl, rfl⟩)
            go_roundg (s.size - (i + 1))
            case rel => exact ⟨rfl, i + 1, rfl, by omega, by omega, by go_num, by rw [HS.out], by rw [HS.out], by go_num⟩
            case measure => have := HGK.out; omega
          · have HS : Hid (accF (D ++ Z.take (i + 1 - (q + 1))) = (10 * (accF (D ++ Z.take (i - (q + 1)))).1 + ((s[i]'his).toNat - 48), (accF (D ++ Z.take (i - (q + 1)))).2)) := by show _ = _; rw [hst, ← List.append_assoc]; exact acc_add hov
            obtain ⟨n, hn0⟩ : ∃ n, n = (accF (D ++ Z.take (i - (q + 1)))).1 := ⟨_, rfl⟩
            obtain ⟨g, hg0⟩ : ∃ g, g = (accF (D ++ Z.take (i - (q + 1)))).2 := ⟨_, rfl⟩
            rw [← hn0] at hov hsp HS ⊢
            rw [← hg0] at HS ⊢
            clear hst hmem hdig hn0 hg0
            go_wp2_with (go_at_call 34; refine (CD.out _).mono ?_; rintro e w' ⟨rfl, rfl⟩)
            go_roundg (s.size - (i + 1))
            case rel => exact ⟨rfl, i + 1, rfl, by omega, by omega, by go_num, by rw [HS.out]; go_num, by rw [HS.out], by go_num⟩
            case measure => have := HGK.out; omega
        · obtain ⟨x, hx⟩ : ∃ x, x = q + 1 + Z.length := ⟨_, rfl⟩
          obtain rfl : i = x := by omega
          rw [← hx] at HX hxs
          have CD := Lib.hid (fun wx => rdigit_no (s[i]'hxs) (HX.out hxs) wx)
          clear hx
          go_wp2_with (go_at_call 34; refine (CD.out _).mono ?_; rintro e w' ⟨rfl, rfl⟩)
          go_ret2
          exact ⟨rfl, rfl⟩



set_option maxRecDepth 100000 in
set_option maxHeartbeats 4000000 in
theorem rp0_whole (s : ByteArray) (u D R : List UInt8) (d q : Nat) (pe pv : Int) (w : World) (hP : PS 0 false s u D R d pe pv) (hq : q = 0 + D.length) (h0 : 0 < q) (hb : 0 < s.size) (hf : q ≤ 0 + 1 ∨ (0 + 1 < q ∧ ((s[0].toNat : Int) == 48) = false)) (hsq : s.size ≤ q) (PA : List UInt8) (hPA : PA = D ++ List.replicate d 48) (hOK : pe = (if magB PA = true then 0 else 5) ∧ pv = (if magB PA = true then (val PA : Int) else 0)) :
    Calls Try.prog 13 #[.string s, .int .i64 (d : Int)] w fun e w' => e = .returned (.tuple #[.int .i64 pv, .int .i64 pe]) ∧ w = w' := by
  have hs := hP.hs
  have hd := hP.hd
  have HPA := Lib.hid hPA
  have HOK := Lib.hid hOK
  clear hPA hOK
  have hqlen : q = 0 + D.length := hq
  have hle1 : 0 + D.length ≤ s.size := by have := hP.hul; omega
  have hqs : q ≤ s.size := by omega
  have hqb : 0 ≤ q := by omega
  have HP := Lib.hid hP
  have HQ := Lib.hid hq
  clear hP hq
  have eqb : ((q : Int) == 0) = false := by simp; omega
  have hz : 0 < s.size := by omega
  have hb' : ((s[0].toNat : Int) == 45) = false := by have := HP.out.h0 rfl hz; simp; omega
  go_enter Try.func13, Try.ntmps13
  go_wp2_with fail
  go_loop [6, 8, 9] (fun v n g => ∃ i : Nat, 0 ≤ i ∧ i ≤ 0 + D.length ∧ v = .int .i64 (i : Int) ∧ n = .int .i64 ((accF (D.take (i - 0))).1 : Nat) ∧ g = .bool (accF (D.take (i - 0))).2) (fun v _ _ => s.size - (intOf v).toNat)
  case atStart => exact ⟨0, Nat.le_refl _, by omega, rfl, rfl, rfl⟩
  case round =>
    obtain ⟨i, hi0, hi1, rfl, rfl, rfl⟩ := hrel
    by_cases hlt : i < 0 + D.length
    · obtain ⟨his, hst, hmem⟩ := HP.out.hAD.step i hi0 hlt
      have hdig : isDig (s[i]'his) = true := List.all_eq_true.1 HP.out.hDA _ hmem
      have CD := Lib.hid (fun wx => rdigit_yes (s[i]'his) hdig wx)
      have hdd := isDig_iff.1 hdig
      have hsp := (accF_spec _ (all_take HP.out.hDA (i - 0))).1
      by_cases hov : 115292150460684697 < (accF (D.take (i - 0))).1
      · have HS : Hid (accF (D.take (i + 1 - 0)) = ((accF (D.take (i - 0))).1, true)) := by show _ = _; rw [hst]; exact acc_over hov
        obtain ⟨n, hn0⟩ : ∃ n, n = (accF (D.take (i - 0))).1 := ⟨_, rfl⟩
        rw [← hn0] at hov hsp HS ⊢
        clear hst hmem hdig hn0
        go_wp2_with (go_at_call 34; refine (CD.out _).mono ?_; rintro e w' ⟨rfl, rfl⟩)
        go_round
        case rel => exact ⟨i + 1, by omega, by omega, by go_num, by rw [HS.out], by rw [HS.out]⟩
        case measure => simp [intOf]; omega
      · have HS : Hid (accF (D.take (i + 1 - 0)) = (10 * (accF (D.take (i - 0))).1 + ((s[i]'his).toNat - 48), (accF (D.take (i - 0))).2)) := by show _ = _; rw [hst]; exact acc_add hov
        obtain ⟨n, hn0⟩ : ∃ n, n = (accF (D.take (i - 0))).1 := ⟨_, rfl⟩
        obtain ⟨g, hg0⟩ : ∃ g, g = (accF (D.take (i - 0))).2 := ⟨_, rfl⟩
        rw [← hn0] at hov hsp HS ⊢
        rw [← hg0] at HS ⊢
        clear hst hmem hdig hn0 hg0
        go_wp2_with (go_at_call 34; refine (CD.out _).mono ?_; rintro e w' ⟨rfl, rfl⟩)
        go_round
        case rel => exact ⟨i + 1, by omega, by omega, by go_num, by rw [HS.out]; go_num, by rw [HS.out]⟩
        case measure => simp [intOf]; omega
    obtain rfl : i = 0 + D.length := by omega
    have e0 : D.take (0 + D.length - 0) = D := by rw [show 0 + D.length - 0 = D.length by omega]; exact List.take_length
    rw [e0, ← HQ.out]
    clear e0 hlt hi0 hi1 hqlen
    rcases hf with hf | ⟨hf, hf2⟩
    · go_wp2_with fail
      go_loopg [8, 9, 10] d (fun m n g f wr => w = wr ∧ ∃ t : Nat, m = d - t ∧ t ≤ d ∧ n = .int .i64 ((accF (D ++ List.replicate t 48)).1 : Nat) ∧ g = .bool (accF (D ++ List.replicate t 48)).2 ∧ f = .int .i64 (((d) - t : Nat) : Int))
      case atStart => exact ⟨rfl, 0, rfl, Nat.zero_le _, by simp only [List.replicate_zero, List.append_nil], by simp only [List.replicate_zero, List.append_nil], by simp⟩
      case round =>
        obtain ⟨rfl, t, hgk, ht, rfl, rfl, rfl⟩ := hrel
        have HGK := Lib.hid hgk
        clear hgk
        have hall := all_app HP.out.hDA (all_rep t)
        have hsp := accF_spec _ hall
        have hbg := acc_big _ hall
        by_cases hlt : t < d
        · by_cases hov : 115292150460684697 < (accF (D ++ List.replicate t 48)).1
          · have hs := acc_over (c := 48) hov
            rw [List.append_assoc, ← rep_snoc] at hs
            have HS := Lib.hid hs
            have hn := hsp.1
            obtain ⟨n, hn0⟩ : ∃ n, n = (accF (D ++ List.replicate t 48)).1 := ⟨_, rfl⟩
            rw [← hn0] at hov hn HS ⊢
            clear hs hsp hbg hall hn0
            go_wp2_with fail
            go_roundg (d - (t + 1))
            case rel => exact ⟨rfl, t + 1, rfl, by omega, by rw [HS.out], by rw [HS.out], by go_num⟩
            case measure => have := HGK.out; omega
          · have hs := acc_add (c := 48) hov
            rw [List.append_assoc, ← rep_snoc] at hs
            have HS := Lib.hid hs
            have hn := hsp.1
            obtain ⟨n, hn0⟩ : ∃ n, n = (accF (D ++ List.replicate t 48)).1 := ⟨_, rfl⟩
            obtain ⟨g, hg0⟩ : ∃ g, g = (accF (D ++ List.replicate t 48)).2 := ⟨_, rfl⟩
            rw [← hn0] at hov hn HS ⊢
            rw [← hg0] at HS ⊢
            clear hs hsp hbg hall hn0 hg0
            go_wp2_with fail
            go_roundg (d - (t + 1))
            case rel => exact ⟨rfl, t + 1, rfl, by omega, by rw [HS.out]; go_num, by rw [HS.out], by go_num⟩
            case measure => have := HGK.out; omega
        · obtain rfl : d = t := by omega
          have hz : ((d) - (d) : Nat) = 0 := by omega
          have hn := hsp.1
          have hsp2 := hsp.2.1
          rw [← HPA.out] at hn hsp2 hbg ⊢
          rw [hz]
          cases hmb : magB PA
          · have HPE : Hid (pe = 5) := by show _ = _; rw [HOK.out.1, hmb]; rfl
            have HPV : Hid (pv = 0) := by show _ = _; rw [HOK.out.2, hmb]; rfl
            have hbig : (accF PA).2 = true ∨ 1152921504606846976 < (accF PA).1 := hbg.2 (by unfold magB at hmb; simpa using hmb)
            obtain ⟨n, hn0⟩ : ∃ n, n = (accF PA).1 := ⟨_, rfl⟩
            obtain ⟨g, hg0⟩ : ∃ g, g = (accF PA).2 := ⟨_, rfl⟩
            rw [← hn0] at hbig hn ⊢
            rw [← hg0] at hbig ⊢
            clear hsp hbg hall hn0 hg0 hsp2 hmb hz hlt ht
            cases g
            · have hbig' : 1152921504606846976 < n := by simpa using hbig
              clear hbig
              go_wp2_with fail
              go_ret2
              exact ⟨by rw [HPE.out, HPV.out]; rfl, rfl⟩
            · clear hbig
              go_wp2_with fail
              go_ret2
              exact ⟨by rw [HPE.out, HPV.out]; rfl, rfl⟩
          · have hle : ¬ ((accF PA).2 = true ∨ 1152921504606846976 < (accF PA).1) := by rw [hbg]; unfold magB at hmb; simpa using hmb
            have hgf : (accF PA).2 = false := by cases h : (accF PA).2; rfl; exact absurd (Or.inl h) hle
            have hv := hsp2 hgf
            have HPE : Hid (pe = 0) := by show _ = _; rw [HOK.out.1, hmb]; rfl
            have HPV : Hid (pv = (val PA : Int)) := by show _ = _; rw [HOK.out.2, hmb]; rfl
            rw [← hv] at HPV
            rw [hgf]
            have hn2 : (accF PA).1 ≤ 1152921504606846976 := Nat.le_of_not_lt (fun h => hle (Or.inr h))
            obtain ⟨n, hn0⟩ : ∃ n, n = (accF PA).1 := ⟨_, rfl⟩
            rw [← hn0] at hn2 hn HPV ⊢
            clear hsp hbg hall hn0 hle hgf hv hsp2 hmb hz hlt ht
            go_wp2_with fail
            go_ret2
            exact ⟨by rw [HPE.out, HPV.out]; rfl, rfl⟩

    · go_wp2_with fail
      go_loopg [8, 9, 10] d (fun m n g f wr => w = wr ∧ ∃ t : Nat, m = d - t ∧ t ≤ d ∧ n = .int .i64 ((accF (D ++ List.replicate t 48)).1 : Nat) ∧ g = .bool (accF (D ++ List.replicate t 48)).2 ∧ f = .int .i64 (((d) - t : Nat) : Int))
      case atStart => exact ⟨rfl, 0, rfl, Nat.zero_le _, by simp only [List.replicate_zero, List.append_nil], by simp only [List.replicate_zero, List.append_nil], by simp⟩
      case round =>
        obtain ⟨rfl, t, hgk, ht, rfl, rfl, rfl⟩ := hrel
        have HGK := Lib.hid hgk
        clear hgk
        have hall := all_app HP.out.hDA (all_rep t)
        have hsp := accF_spec _ hall
        have hbg := acc_big _ hall
        by_cases hlt : t < d
        · by_cases hov : 115292150460684697 < (accF (D ++ List.replicate t 48)).1
          · have hs := acc_over (c := 48) hov
            rw [List.append_assoc, ← rep_snoc] at hs
            have HS := Lib.hid hs
            have hn := hsp.1
            obtain ⟨n, hn0⟩ : ∃ n, n = (accF (D ++ List.replicate t 48)).1 := ⟨_, rfl⟩
            rw [← hn0] at hov hn HS ⊢
            clear hs hsp hbg hall hn0
            go_wp2_with fail
            go_roundg (d - (t + 1))
            case rel => exact ⟨rfl, t + 1, rfl, by omega, by rw [HS.out], by rw [HS.out], by go_num⟩
            case measure => have := HGK.out; omega
          · have hs := acc_add (c := 48) hov
            rw [List.append_assoc, ← rep_snoc] at hs
            have HS := Lib.hid hs
            have hn := hsp.1
            obtain ⟨n, hn0⟩ : ∃ n, n = (accF (D ++ List.replicate t 48)).1 := ⟨_, rfl⟩
            obtain ⟨g, hg0⟩ : ∃ g, g = (accF (D ++ List.replicate t 48)).2 := ⟨_, rfl⟩
            rw [← hn0] at hov hn HS ⊢
            rw [← hg0] at HS ⊢
            clear hs hsp hbg hall hn0 hg0
            go_wp2_with fail
            go_roundg (d - (t + 1))
            case rel => exact ⟨rfl, t + 1, rfl, by omega, by rw [HS.out]; go_num, by rw [HS.out], by go_num⟩
            case measure => have := HGK.out; omega
        · obtain rfl : d = t := by omega
          have hz : ((d) - (d) : Nat) = 0 := by omega
          have hn := hsp.1
          have hsp2 := hsp.2.1
          rw [← HPA.out] at hn hsp2 hbg ⊢
          rw [hz]
          cases hmb : magB PA
          · have HPE : Hid (pe = 5) := by show _ = _; rw [HOK.out.1, hmb]; rfl
            have HPV : Hid (pv = 0) := by show _ = _; rw [HOK.out.2, hmb]; rfl
            have hbig : (accF PA).2 = true ∨ 1152921504606846976 < (accF PA).1 := hbg.2 (by unfold magB at hmb; simpa using hmb)
            obtain ⟨n, hn0⟩ : ∃ n, n = (accF PA).1 := ⟨_, rfl⟩
            obtain ⟨g, hg0⟩ : ∃ g, g = (accF PA).2 := ⟨_, rfl⟩
            rw [← hn0] at hbig hn ⊢
            rw [← hg0] at hbig ⊢
            clear hsp hbg hall hn0 hg0 hsp2 hmb hz hlt ht
            cases g
            · have hbig' : 1152921504606846976 < n := by simpa using hbig
              clear hbig
              go_wp2_with fail
              go_ret2
              exact ⟨by rw [HPE.out, HPV.out]; rfl, rfl⟩
            · clear hbig
              go_wp2_with fail
              go_ret2
              exact ⟨by rw [HPE.out, HPV.out]; rfl, rfl⟩
          · have hle : ¬ ((accF PA).2 = true ∨ 1152921504606846976 < (accF PA).1) := by rw [hbg]; unfold magB at hmb; simpa using hmb
            have hgf : (accF PA).2 = false := by cases h : (accF PA).2; rfl; exact absurd (Or.inl h) hle
            have hv := hsp2 hgf
            have HPE : Hid (pe = 0) := by show _ = _; rw [HOK.out.1, hmb]; rfl
            have HPV : Hid (pv = (val PA : Int)) := by show _ = _; rw [HOK.out.2, hmb]; rfl
            rw [← hv] at HPV
            rw [hgf]
            have hn2 : (accF PA).1 ≤ 1152921504606846976 := Nat.le_of_not_lt (fun h => hle (Or.inr h))
            obtain ⟨n, hn0⟩ : ∃ n, n = (accF PA).1 := ⟨_, rfl⟩
            rw [← hn0] at hn2 hn HPV ⊢
            clear hsp hbg hall hn0 hle hgf hv hsp2 hmb hz hlt ht
            go_wp2_with fail
            go_ret2
            exact ⟨by rw [HPE.out, HPV.out]; rfl, rfl⟩



set_option maxRecDepth 100000 in
set_option maxHeartbeats 4000000 in
theorem rp0_frac (s : ByteArray) (u D R : List UInt8) (d q : Nat) (pe pv : Int) (w : World) (hP : PS 0 false s u D R d pe pv) (hq : q = 0 + D.length) (h0 : 0 < q) (hb : 0 < s.size) (hf : q ≤ 0 + 1 ∨ (0 + 1 < q ∧ ((s[0].toNat : Int) == 48) = false)) (hqs1 : q < s.size) (hnd : isDig s[q] = false) (t46 : ((s[q].toNat : Int) != 46) = false) (g1 : q + 1 < s.size) (g2 : s.size ≤ d + q + 1) (Y : List UInt8) (hAZ : LAt s (q + 1) Y) (hZA : Y.all isDig = true) (hYl : q + 1 + Y.length = s.size) (hzd : Y.length ≤ d) (PA : List UInt8) (hPA : PA = D ++ Y ++ List.replicate (d - Y.length) 48) (hOK : pe = (if magB PA = true then 0 else 5) ∧ pv = (if magB PA = true then (val PA : Int) else 0)) :
    Calls Try.prog 13 #[.string s, .int .i64 (d : Int)] w fun e w' => e = .returned (.tuple #[.int .i64 pv, .int .i64 pe]) ∧ w = w' := by
  have hs := hP.hs
  have hd := hP.hd
  have CDQ := Lib.hid (fun wx => rdigit_no (s[q]'hqs1) hnd wx)
  clear hnd
  have HAZ := Lib.hid hAZ
  have HZA := Lib.hid hZA
  have HPA := Lib.hid hPA
  have HOK := Lib.hid hOK
  clear hAZ hZA hPA hOK
  have e1 : (((q : Int) + 1) == (s.size : Int)) = false := by simp; omega
  have hqlen : q = 0 + D.length := hq
  have hle1 : 0 + D.length ≤ s.size := by have := hP.hul; omega
  have hqs : q ≤ s.size := by omega
  have hqb : 0 ≤ q := by omega
  have HP := Lib.hid hP
  have HQ := Lib.hid hq
  clear hP hq
  have eqb : ((q : Int) == 0) = false := by simp; omega
  have hz : 0 < s.size := by omega
  have hb' : ((s[0].toNat : Int) == 45) = false := by have := HP.out.h0 rfl hz; simp; omega
  go_enter Try.func13, Try.ntmps13
  go_wp2_with fail
  go_loop [6, 8, 9] (fun v n g => ∃ i : Nat, 0 ≤ i ∧ i ≤ 0 + D.length ∧ v = .int .i64 (i : Int) ∧ n = .int .i64 ((accF (D.take (i - 0))).1 : Nat) ∧ g = .bool (accF (D.take (i - 0))).2) (fun v _ _ => s.size - (intOf v).toNat)
  case atStart => exact ⟨0, Nat.le_refl _, by omega, rfl, rfl, rfl⟩
  case round =>
    obtain ⟨i, hi0, hi1, rfl, rfl, rfl⟩ := hrel
    by_cases hlt : i < 0 + D.length
    · obtain ⟨his, hst, hmem⟩ := HP.out.hAD.step i hi0 hlt
      have hdig : isDig (s[i]'his) = true := List.all_eq_true.1 HP.out.hDA _ hmem
      have CD := Lib.hid (fun wx => rdigit_yes (s[i]'his) hdig wx)
      have hdd := isDig_iff.1 hdig
      have hsp := (accF_spec _ (all_take HP.out.hDA (i - 0))).1
      by_cases hov : 115292150460684697 < (accF (D.take (i - 0))).1
      · have HS : Hid (accF (D.take (i + 1 - 0)) = ((accF (D.take (i - 0))).1, true)) := by show _ = _; rw [hst]; exact acc_over hov
        obtain ⟨n, hn0⟩ : ∃ n, n = (accF (D.take (i - 0))).1 := ⟨_, rfl⟩
        rw [← hn0] at hov hsp HS ⊢
        clear hst hmem hdig hn0
        go_wp2_with (go_at_call 34; refine (CD.out _).mono ?_; rintro e w' ⟨rfl, rfl⟩)
        go_round
        case rel => exact ⟨i + 1, by omega, by omega, by go_num, by rw [HS.out], by rw [HS.out]⟩
        case measure => simp [intOf]; omega
      · have HS : Hid (accF (D.take (i + 1 - 0)) = (10 * (accF (D.take (i - 0))).1 + ((s[i]'his).toNat - 48), (accF (D.take (i - 0))).2)) := by show _ = _; rw [hst]; exact acc_add hov
        obtain ⟨n, hn0⟩ : ∃ n, n = (accF (D.take (i - 0))).1 := ⟨_, rfl⟩
        obtain ⟨g, hg0⟩ : ∃ g, g = (accF (D.take (i - 0))).2 := ⟨_, rfl⟩
        rw [← hn0] at hov hsp HS ⊢
        rw [← hg0] at HS ⊢
        clear hst hmem hdig hn0 hg0
        go_wp2_with (go_at_call 34; refine (CD.out _).mono ?_; rintro e w' ⟨rfl, rfl⟩)
        go_round
        case rel => exact ⟨i + 1, by omega, by omega, by go_num, by rw [HS.out]; go_num, by rw [HS.out]⟩
        case measure => simp [intOf]; omega
    obtain rfl : i = 0 + D.length := by omega
    have e0 : D.take (0 + D.length - 0) = D := by rw [show 0 + D.length - 0 = D.length by omega]; exact List.take_length
    rw [e0, ← HQ.out]
    clear e0 hlt hi0 hi1 hqlen
    rcases hf with hf | ⟨hf, hf2⟩
    · go_wp2_with (go_at_call 34; refine (CDQ.out _).mono ?_; rintro e w' ⟨rfl, rfl⟩)
      go_loopg [6, 8, 9, 10] (s.size - (q + 1)) (fun m v n g f wr => w = wr ∧ ∃ i : Nat, m = s.size - i ∧ q + 1 ≤ i ∧ i ≤ q + 1 + Y.length ∧ v = .int .i64 (i : Int) ∧ n = .int .i64 ((accF (D ++ Y.take (i - (q + 1)))).1 : Nat) ∧ g = .bool (accF (D ++ Y.take (i - (q + 1)))).2 ∧ f = .int .i64 ((d - (i - (q + 1)) : Nat) : Int))
      case atStart => exact ⟨rfl, q + 1, rfl, Nat.le_refl _, by omega, by first | rfl | go_num, by simp, by simp, by simp⟩
      case round =>
        obtain ⟨rfl, i, hgk, hi0, hi1, rfl, rfl, rfl, rfl⟩ := hrel
        have HGK := Lib.hid hgk
        clear hgk
        have hzle := HAZ.out.le
        by_cases hlt : i < q + 1 + Y.length
        · obtain ⟨his, hst, hmem⟩ := HAZ.out.step i hi0 hlt
          have hdig : isDig (s[i]'his) = true := List.all_eq_true.1 HZA.out _ hmem
          have CD := Lib.hid (fun wx => rdigit_yes (s[i]'his) hdig wx)
          have hdd := isDig_iff.1 hdig
          have hsp := (accF_spec _ (all_app HP.out.hDA (all_take HZA.out (i - (q + 1))))).1
          by_cases hov : 115292150460684697 < (accF (D ++ Y.take (i - (q + 1)))).1
          · have HS : Hid (accF (D ++ Y.take (i + 1 - (q + 1))) = ((accF (D ++ Y.take (i - (q + 1)))).1, true)) := by show _ = _; rw [hst, ← List.append_assoc]; exact acc_over hov
            obtain ⟨n, hn0⟩ : ∃ n, n = (accF (D ++ Y.take (i - (q + 1)))).1 := ⟨_, rfl⟩
            rw [← hn0] at hov hsp HS ⊢
            clear hst hmem hdig hn0
            go_wp2_with (go_at_call 34; refine (CD.out _).mono ?_; rintro e w' ⟨rfl, rfl⟩)
            go_roundg (s.size - (i + 1))
            case rel => exact ⟨rfl, i + 1, rfl, by omega, by omega, by go_num, by rw [HS.out], by rw [HS.out], by go_num⟩
            case measure => have := HGK.out; omega
          · have HS : Hid (accF (D ++ Y.take (i + 1 - (q + 1))) = (10 * (accF (D ++ Y.take (i - (q + 1)))).1 + ((s[i]'his).toNat - 48), (accF (D ++ Y.take (i - (q + 1)))).2)) := by show _ = _; rw [hst, ← List.append_assoc]; exact acc_add hov
            obtain ⟨n, hn0⟩ : ∃ n, n = (accF (D ++ Y.take (i - (q + 1)))).1 := ⟨_, rfl⟩
            obtain ⟨g, hg0⟩ : ∃ g, g = (accF (D ++ Y.take (i - (q + 1)))).2 := ⟨_, rfl⟩
            rw [← hn0] at hov hsp HS ⊢
            rw [← hg0] at HS ⊢
            clear hst hmem hdig hn0 hg0
            go_wp2_with (go_at_call 34; refine (CD.out _).mono ?_; rintro e w' ⟨rfl, rfl⟩)
            go_roundg (s.size - (i + 1))
            case rel => exact ⟨rfl, i + 1, rfl, by omega, by omega, by go_num, by rw [HS.out]; go_num, by rw [HS.out], by go_num⟩
            case measure => have := HGK.out; omega
        · have hie : i = q + 1 + Y.length := by omega
          have e0 : Y.take (i - (q + 1)) = Y := List.take_of_length_le (by omega)
          rw [e0, show d - (i - (q + 1)) = d - Y.length by omega]
          have hisz : s.size ≤ i := by omega
          obtain ⟨n0, hn00⟩ : ∃ n0, n0 = (accF (D ++ Y)).1 := ⟨_, rfl⟩
          obtain ⟨g0, hg00⟩ : ∃ g0, g0 = (accF (D ++ Y)).2 := ⟨_, rfl⟩
          obtain ⟨f0, hf00⟩ : ∃ f0, f0 = d - Y.length := ⟨_, rfl⟩
          rw [← hn00, ← hg00, ← hf00]
          rw [← hf00] at HPA
          have HN0 := Lib.hid hn00
          have HG0 := Lib.hid hg00
          have hf0d : f0 ≤ d := by omega
          clear e0 hie hn00 hg00 hf00 hlt hi0 hi1 hYl hzd
          go_wp2_with fail
          go_loopg [8, 9, 10] f0 (fun m n g f wr => w = wr ∧ ∃ t : Nat, m = f0 - t ∧ t ≤ f0 ∧ n = .int .i64 ((accF ((D ++ Y) ++ List.replicate t 48)).1 : Nat) ∧ g = .bool (accF ((D ++ Y) ++ List.replicate t 48)).2 ∧ f = .int .i64 (((f0) - t : Nat) : Int))
          case atStart => exact ⟨rfl, 0, rfl, Nat.zero_le _, by simp only [List.replicate_zero, List.append_nil]; rw [← HN0.out], by simp only [List.replicate_zero, List.append_nil]; rw [← HG0.out], by simp⟩
          case round =>
            obtain ⟨rfl, t, hgk, ht, rfl, rfl, rfl⟩ := hrel
            have HGK := Lib.hid hgk
            clear hgk
            have hall := all_app (all_app HP.out.hDA HZA.out) (all_rep t)
            have hsp := accF_spec _ hall
            have hbg := acc_big _ hall
            by_cases hlt : t < f0
            · by_cases hov : 115292150460684697 < (accF ((D ++ Y) ++ List.replicate t 48)).1
              · have hs := acc_over (c := 48) hov
                rw [List.append_assoc, ← rep_snoc] at hs
                have HS := Lib.hid hs
                have hn := hsp.1
                obtain ⟨n, hn0⟩ : ∃ n, n = (accF ((D ++ Y) ++ List.replicate t 48)).1 := ⟨_, rfl⟩
                rw [← hn0] at hov hn HS ⊢
                clear hs hsp hbg hall hn0
                go_wp2_with fail
                go_roundg (f0 - (t + 1))
                case rel => exact ⟨rfl, t + 1, rfl, by omega, by rw [HS.out], by rw [HS.out], by go_num⟩
                case measure => have := HGK.out; omega
              · have hs := acc_add (c := 48) hov
                rw [List.append_assoc, ← rep_snoc] at hs
                have HS := Lib.hid hs
                have hn := hsp.1
                obtain ⟨n, hn0⟩ : ∃ n, n = (accF ((D ++ Y) ++ List.replicate t 48)).1 := ⟨_, rfl⟩
                obtain ⟨g, hg0⟩ : ∃ g, g = (accF ((D ++ Y) ++ List.replicate t 48)).2 := ⟨_, rfl⟩
                rw [← hn0] at hov hn HS ⊢
                rw [← hg0] at HS ⊢
                clear hs hsp hbg hall hn0 hg0
                go_wp2_with fail
                go_roundg (f0 - (t + 1))
                case rel => exact ⟨rfl, t + 1, rfl, by omega, by rw [HS.out]; go_num, by rw [HS.out], by go_num⟩
                case measure => have := HGK.out; omega
            · obtain rfl : f0 = t := by omega
              have hz : ((f0) - (f0) : Nat) = 0 := by omega
              have hn := hsp.1
              have hsp2 := hsp.2.1
              rw [← HPA.out] at hn hsp2 hbg ⊢
              rw [hz]
              cases hmb : magB PA
              · have HPE : Hid (pe = 5) := by show _ = _; rw [HOK.out.1, hmb]; rfl
                have HPV : Hid (pv = 0) := by show _ = _; rw [HOK.out.2, hmb]; rfl
                have hbig : (accF PA).2 = true ∨ 1152921504606846976 < (accF PA).1 := hbg.2 (by unfold magB at hmb; simpa using hmb)
                obtain ⟨n, hn0⟩ : ∃ n, n = (accF PA).1 := ⟨_, rfl⟩
                obtain ⟨g, hg0⟩ : ∃ g, g = (accF PA).2 := ⟨_, rfl⟩
                rw [← hn0] at hbig hn ⊢
                rw [← hg0] at hbig ⊢
                clear hsp hbg hall hn0 hg0 hsp2 hmb hz hlt ht
                cases g
                · have hbig' : 1152921504606846976 < n := by simpa using hbig
                  clear hbig
                  go_wp2_with fail
                  go_ret2
                  exact ⟨by rw [HPE.out, HPV.out]; rfl, rfl⟩
                · clear hbig
                  go_wp2_with fail
                  go_ret2
                  exact ⟨by rw [HPE.out, HPV.out]; rfl, rfl⟩
              · have hle : ¬ ((accF PA).2 = true ∨ 1152921504606846976 < (accF PA).1) := by rw [hbg]; unfold magB at hmb; simpa using hmb
                have hgf : (accF PA).2 = false := by cases h : (accF PA).2; rfl; exact absurd (Or.inl h) hle
                have hv := hsp2 hgf
                have HPE : Hid (pe = 0) := by show _ = _; rw [HOK.out.1, hmb]; rfl
                have HPV : Hid (pv = (val PA : Int)) := by show _ = _; rw [HOK.out.2, hmb]; rfl
                rw [← hv] at HPV
                rw [hgf]
                have hn2 : (accF PA).1 ≤ 1152921504606846976 := Nat.le_of_not_lt (fun h => hle (Or.inr h))
                obtain ⟨n, hn0⟩ : ∃ n, n = (accF PA).1 := ⟨_, rfl⟩
                rw [← hn0] at hn2 hn HPV ⊢
                clear hsp hbg hall hn0 hle hgf hv hsp2 hmb hz hlt ht
                go_wp2_with fail
                go_ret2
                exact ⟨by rw [HPE.out, HPV.out]; rfl, rfl⟩


    · go_wp2_with (go_at_call 34; refine (CDQ.out _).mono ?_; rintro e w' ⟨rfl, rfl⟩)
      go_loopg [6, 8, 9, 10] (s.size - (q + 1)) (fun m v n g f wr => w = wr ∧ ∃ i : Nat, m = s.size - i ∧ q + 1 ≤ i ∧ i ≤ q + 1 + Y.length ∧ v = .int .i64 (i : Int) ∧ n = .int .i64 ((accF (D ++ Y.take (i - (q + 1)))).1 : Nat) ∧ g = .bool (accF (D ++ Y.take (i - (q + 1)))).2 ∧ f = .int .i64 ((d - (i - (q + 1)) : Nat) : Int))
      case atStart => exact ⟨rfl, q + 1, rfl, Nat.le_refl _, by omega, by first | rfl | go_num, by simp, by simp, by simp⟩
      case round =>
        obtain ⟨rfl, i, hgk, hi0, hi1, rfl, rfl, rfl, rfl⟩ := hrel
        have HGK := Lib.hid hgk
        clear hgk
        have hzle := HAZ.out.le
        by_cases hlt : i < q + 1 + Y.length
        · obtain ⟨his, hst, hmem⟩ := HAZ.out.step i hi0 hlt
          have hdig : isDig (s[i]'his) = true := List.all_eq_true.1 HZA.out _ hmem
          have CD := Lib.hid (fun wx => rdigit_yes (s[i]'his) hdig wx)
          have hdd := isDig_iff.1 hdig
          have hsp := (accF_spec _ (all_app HP.out.hDA (all_take HZA.out (i - (q + 1))))).1
          by_cases hov : 115292150460684697 < (accF (D ++ Y.take (i - (q + 1)))).1
          · have HS : Hid (accF (D ++ Y.take (i + 1 - (q + 1))) = ((accF (D ++ Y.take (i - (q + 1)))).1, true)) := by show _ = _; rw [hst, ← List.append_assoc]; exact acc_over hov
            obtain ⟨n, hn0⟩ : ∃ n, n = (accF (D ++ Y.take (i - (q + 1)))).1 := ⟨_, rfl⟩
            rw [← hn0] at hov hsp HS ⊢
            clear hst hmem hdig hn0
            go_wp2_with (go_at_call 34; refine (CD.out _).mono ?_; rintro e w' ⟨rfl, rfl⟩)
            go_roundg (s.size - (i + 1))
            case rel => exact ⟨rfl, i + 1, rfl, by omega, by omega, by go_num, by rw [HS.out], by rw [HS.out], by go_num⟩
            case measure => have := HGK.out; omega
          · have HS : Hid (accF (D ++ Y.take (i + 1 - (q + 1))) = (10 * (accF (D ++ Y.take (i - (q + 1)))).1 + ((s[i]'his).toNat - 48), (accF (D ++ Y.take (i - (q + 1)))).2)) := by show _ = _; rw [hst, ← List.append_assoc]; exact acc_add hov
            obtain ⟨n, hn0⟩ : ∃ n, n = (accF (D ++ Y.take (i - (q + 1)))).1 := ⟨_, rfl⟩
            obtain ⟨g, hg0⟩ : ∃ g, g = (accF (D ++ Y.take (i - (q + 1)))).2 := ⟨_, rfl⟩
            rw [← hn0] at hov hsp HS ⊢
            rw [← hg0] at HS ⊢
            clear hst hmem hdig hn0 hg0
            go_wp2_with (go_at_call 34; refine (CD.out _).mono ?_; rintro e w' ⟨rfl, rfl⟩)
            go_roundg (s.size - (i + 1))
            case rel => exact ⟨rfl, i + 1, rfl, by omega, by omega, by go_num, by rw [HS.out]; go_num, by rw [HS.out], by go_num⟩
            case measure => have := HGK.out; omega
        · have hie : i = q + 1 + Y.length := by omega
          have e0 : Y.take (i - (q + 1)) = Y := List.take_of_length_le (by omega)
          rw [e0, show d - (i - (q + 1)) = d - Y.length by omega]
          have hisz : s.size ≤ i := by omega
          obtain ⟨n0, hn00⟩ : ∃ n0, n0 = (accF (D ++ Y)).1 := ⟨_, rfl⟩
          obtain ⟨g0, hg00⟩ : ∃ g0, g0 = (accF (D ++ Y)).2 := ⟨_, rfl⟩
          obtain ⟨f0, hf00⟩ : ∃ f0, f0 = d - Y.length := ⟨_, rfl⟩
          rw [← hn00, ← hg00, ← hf00]
          rw [← hf00] at HPA
          have HN0 := Lib.hid hn00
          have HG0 := Lib.hid hg00
          have hf0d : f0 ≤ d := by omega
          clear e0 hie hn00 hg00 hf00 hlt hi0 hi1 hYl hzd
          go_wp2_with fail
          go_loopg [8, 9, 10] f0 (fun m n g f wr => w = wr ∧ ∃ t : Nat, m = f0 - t ∧ t ≤ f0 ∧ n = .int .i64 ((accF ((D ++ Y) ++ List.replicate t 48)).1 : Nat) ∧ g = .bool (accF ((D ++ Y) ++ List.replicate t 48)).2 ∧ f = .int .i64 (((f0) - t : Nat) : Int))
          case atStart => exact ⟨rfl, 0, rfl, Nat.zero_le _, by simp only [List.replicate_zero, List.append_nil]; rw [← HN0.out], by simp only [List.replicate_zero, List.append_nil]; rw [← HG0.out], by simp⟩
          case round =>
            obtain ⟨rfl, t, hgk, ht, rfl, rfl, rfl⟩ := hrel
            have HGK := Lib.hid hgk
            clear hgk
            have hall := all_app (all_app HP.out.hDA HZA.out) (all_rep t)
            have hsp := accF_spec _ hall
            have hbg := acc_big _ hall
            by_cases hlt : t < f0
            · by_cases hov : 115292150460684697 < (accF ((D ++ Y) ++ List.replicate t 48)).1
              · have hs := acc_over (c := 48) hov
                rw [List.append_assoc, ← rep_snoc] at hs
                have HS := Lib.hid hs
                have hn := hsp.1
                obtain ⟨n, hn0⟩ : ∃ n, n = (accF ((D ++ Y) ++ List.replicate t 48)).1 := ⟨_, rfl⟩
                rw [← hn0] at hov hn HS ⊢
                clear hs hsp hbg hall hn0
                go_wp2_with fail
                go_roundg (f0 - (t + 1))
                case rel => exact ⟨rfl, t + 1, rfl, by omega, by rw [HS.out], by rw [HS.out], by go_num⟩
                case measure => have := HGK.out; omega
              · have hs := acc_add (c := 48) hov
                rw [List.append_assoc, ← rep_snoc] at hs
                have HS := Lib.hid hs
                have hn := hsp.1
                obtain ⟨n, hn0⟩ : ∃ n, n = (accF ((D ++ Y) ++ List.replicate t 48)).1 := ⟨_, rfl⟩
                obtain ⟨g, hg0⟩ : ∃ g, g = (accF ((D ++ Y) ++ List.replicate t 48)).2 := ⟨_, rfl⟩
                rw [← hn0] at hov hn HS ⊢
                rw [← hg0] at HS ⊢
                clear hs hsp hbg hall hn0 hg0
                go_wp2_with fail
                go_roundg (f0 - (t + 1))
                case rel => exact ⟨rfl, t + 1, rfl, by omega, by rw [HS.out]; go_num, by rw [HS.out], by go_num⟩
                case measure => have := HGK.out; omega
            · obtain rfl : f0 = t := by omega
              have hz : ((f0) - (f0) : Nat) = 0 := by omega
              have hn := hsp.1
              have hsp2 := hsp.2.1
              rw [← HPA.out] at hn hsp2 hbg ⊢
              rw [hz]
              cases hmb : magB PA
              · have HPE : Hid (pe = 5) := by show _ = _; rw [HOK.out.1, hmb]; rfl
                have HPV : Hid (pv = 0) := by show _ = _; rw [HOK.out.2, hmb]; rfl
                have hbig : (accF PA).2 = true ∨ 1152921504606846976 < (accF PA).1 := hbg.2 (by unfold magB at hmb; simpa using hmb)
                obtain ⟨n, hn0⟩ : ∃ n, n = (accF PA).1 := ⟨_, rfl⟩
                obtain ⟨g, hg0⟩ : ∃ g, g = (accF PA).2 := ⟨_, rfl⟩
                rw [← hn0] at hbig hn ⊢
                rw [← hg0] at hbig ⊢
                clear hsp hbg hall hn0 hg0 hsp2 hmb hz hlt ht
                cases g
                · have hbig' : 1152921504606846976 < n := by simpa using hbig
                  clear hbig
                  go_wp2_with fail
                  go_ret2
                  exact ⟨by rw [HPE.out, HPV.out]; rfl, rfl⟩
                · clear hbig
                  go_wp2_with fail
                  go_ret2
                  exact ⟨by rw [HPE.out, HPV.out]; rfl, rfl⟩
              · have hle : ¬ ((accF PA).2 = true ∨ 1152921504606846976 < (accF PA).1) := by rw [hbg]; unfold magB at hmb; simpa using hmb
                have hgf : (accF PA).2 = false := by cases h : (accF PA).2; rfl; exact absurd (Or.inl h) hle
                have hv := hsp2 hgf
                have HPE : Hid (pe = 0) := by show _ = _; rw [HOK.out.1, hmb]; rfl
                have HPV : Hid (pv = (val PA : Int)) := by show _ = _; rw [HOK.out.2, hmb]; rfl
                rw [← hv] at HPV
                rw [hgf]
                have hn2 : (accF PA).1 ≤ 1152921504606846976 := Nat.le_of_not_lt (fun h => hle (Or.inr h))
                obtain ⟨n, hn0⟩ : ∃ n, n = (accF PA).1 := ⟨_, rfl⟩
                rw [← hn0] at hn2 hn HPV ⊢
                clear hsp hbg hall hn0 hle hgf hv hsp2 hmb hz hlt ht
                go_wp2_with fail
                go_ret2
                exact ⟨by rw [HPE.out, HPV.out]; rfl, rfl⟩




end Go.Proofs.Ytijgaenfhmgcoaa
