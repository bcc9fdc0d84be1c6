/- The contract of the reference's end. -/
import Derived.Test.YtijgaenfhmgcoaaTokN
namespace Go.Proofs.Ytijgaenfhmgcoaa
open Go.RowKit
set_option linter.unusedVariables false

theorem rsymbol_is (c : UInt8) (b : Bool) (h : isSym c = b) (w : World) : Calls Try.prog 61 #[.int .u8 (c.toNat : Int)] w fun e w' => e = .returned (.bool b) ∧ w = w' := by
  have := rsymbol_any c w; rw [h] at this; exact this

set_option maxRecDepth 100000 in
set_option maxHeartbeats 2000000 in
theorem rend_nl (s : ByteArray) (i : Nat) (w : World) (hi : i < s.size) (hs : s.size ≤ 65536) (hc : s[i].toNat = 10) :
    Calls Try.prog 40 #[.string s, .int .i64 (i : Int)] w fun e w' => e = .returned (.tuple #[.int .i64 ((i + 1 : Nat) : Int), .int .i64 4]) ∧ w = w' := by
  have t : ((s[i].toNat : Int) == 10) = true := by simp [hc]
  clear hc
  go_enter Try.func40, Try.ntmps40
  go_wp2_with fail
  go_ret2
  exact ⟨rfl, rfl⟩

set_option maxRecDepth 100000 in
set_option maxHeartbeats 2000000 in
theorem rend_sym (s : ByteArray) (i : Nat) (w : World) (hi : i < s.size) (hs : s.size ≤ 65536) (hc : isSym s[i] = true) :
    Calls Try.prog 40 #[.string s, .int .i64 (i : Int)] w fun e w' => e = .returned (.tuple #[.int .i64 ((i + 1 : Nat) : Int), .int .i64 3]) ∧ w = w' := by
  have hcl := sym_cases _ hc
  have t : ((s[i].toNat : Int) == 10) = false := beq_eq_false_iff_ne.2 (by omega)
  have CS := Lib.hid (fun wx => rsymbol_is s[i] true hc wx)
  clear hc hcl
  go_enter Try.func40, Try.ntmps40
  go_wp2_with (go_at_call 61; refine (CS.out _).mono ?_; rintro e w' ⟨rfl, rfl⟩)
  go_ret2
  exact ⟨rfl, rfl⟩

set_option maxRecDepth 100000 in
set_option maxHeartbeats 2000000 in
theorem rend_word (s : ByteArray) (i : Nat) (w : World) (hi : i < s.size) (hs : s.size ≤ 65536) (en : Nat) (hc : isLet s[i] = true) (hen : eor isWrd s.data.toList i = en) (hlen : en ≤ i + 20) :
    Calls Try.prog 40 #[.string s, .int .i64 (i : Int)] w fun e w' => e = .returned (.tuple #[.int .i64 ((en : Nat) : Int), .int .i64 1]) ∧ w = w' := by
  have hcl : (97 ≤ s[i].toNat ∧ s[i].toNat ≤ 122) ∨ (65 ≤ s[i].toNat ∧ s[i].toNat ≤ 90) := by simpa [isLet] using hc
  have t : ((s[i].toNat : Int) == 10) = false := beq_eq_false_iff_ne.2 (by omega)
  have hs0 : isSym s[i] = false := by cases h : isSym s[i]; rfl; have := sym_cases _ h; omega
  have CS := Lib.hid (fun wx => rsymbol_is s[i] false hs0 wx)
  have CL := Lib.hid (fun wx => rletter_is s[i] true hc wx)
  have HEN := Lib.hid hen
  clear hc hcl hs0 hen
  go_enter Try.func40, Try.ntmps40
  go_wp2_with (first | (go_at_call 61; refine (CS.out _).mono ?_; rintro e w' ⟨rfl, rfl⟩) | (go_at_call 44; refine (CL.out _).mono ?_; rintro e w' ⟨rfl, rfl⟩))
  clear CL CS
  go_loopg [6] (s.size - i) (fun m v wr => w = wr ∧ ∃ k : Nat, m = s.size - k ∧ i ≤ k ∧ k ≤ s.size ∧ v = .int .i64 (k : Int) ∧ Hid (eor isWrd s.data.toList k = en))
  case atStart => exact ⟨rfl, i, rfl, Nat.le_refl _, by omega, rfl, HEN⟩
  case round =>
    obtain ⟨rfl, k, hgk, hk0, hk1, rfl, HE⟩ := hrel
    have HGK := Lib.hid hgk
    clear hgk
    by_cases hlt : k < s.size
    · have hlt' : k < s.data.toList.length := by rw [← Lib.size_eq]; exact hlt
      cases hw : isWrd (s[k]'hlt)
      · have hke : Hid (k = en) := by show _ = _; rw [← HE.out]; exact (eor_no isWrd _ k hlt' hw).symm
        have n1 : isLet (s[k]'hlt) = false := by cases h : isLet (s[k]'hlt); rfl; rw [(wrd_split _).2 (Or.inl h)] at hw; cases hw
        have n2 : isDig (s[k]'hlt) = false := by cases h : isDig (s[k]'hlt); rfl; rw [(wrd_split _).2 (Or.inr (Or.inl h))] at hw; cases hw
        have n3 : (((s[k]'hlt).toNat : Int) == 95) = false := beq_eq_false_iff_ne.2 (by intro e; rw [(wrd_split _).2 (Or.inr (Or.inr (by omega)))] at hw; cases hw)
        have CLk := Lib.hid (fun wx => rletter_is (s[k]'hlt) false n1 wx)
        have CDk := Lib.hid (fun wx => rdigit_is (s[k]'hlt) false n2 wx)
        clear n1 n2 hw hlt'
        obtain rfl := hke.out
        go_wp2_with (first | (go_at_call 44; refine (CLk.out _).mono ?_; rintro e w' ⟨rfl, rfl⟩) | (go_at_call 34; refine (CDk.out _).mono ?_; rintro e w' ⟨rfl, rfl⟩))
        go_ret2
        exact ⟨rfl, rfl⟩
      · have HE2 : Hid (eor isWrd s.data.toList (k + 1) = en) := by show _ = _; rw [← HE.out]; exact (eor_yes isWrd _ k hlt' hw).symm
        have CLk := Lib.hid (fun wx => rletter_any (s[k]'hlt) wx)
        have CDk := Lib.hid (fun wx => rdigit_any (s[k]'hlt) wx)
        have hcl := (wrd_split _).1 hw
        clear hw hlt'
        cases n1 : isLet (s[k]'hlt)
        · rw [n1] at CLk
          cases n2 : isDig (s[k]'hlt)
          · rw [n2] at CDk
            have n3 : (((s[k]'hlt).toNat : Int) == 95) = true := by
              rcases hcl with h | h | h
              · rw [n1] at h; cases h
              · rw [n2] at h; cases h
              · rw [h]; rfl
            clear n1 n2 hcl
            go_wp2_with (first | (go_at_call 44; refine (CLk.out _).mono ?_; rintro e w' ⟨rfl, rfl⟩) | (go_at_call 34; refine (CDk.out _).mono ?_; rintro e w' ⟨rfl, rfl⟩))
            go_roundg (s.size - (k + 1))
            case rel => exact ⟨rfl, k + 1, rfl, by omega, by omega, by go_num, HE2⟩
            case measure => have := HGK.out; omega
          · rw [n2] at CDk
            clear n1 n2 hcl
            go_wp2_with (first | (go_at_call 44; refine (CLk.out _).mono ?_; rintro e w' ⟨rfl, rfl⟩) | (go_at_call 34; refine (CDk.out _).mono ?_; rintro e w' ⟨rfl, rfl⟩))
            go_roundg (s.size - (k + 1))
            case rel => exact ⟨rfl, k + 1, rfl, by omega, by omega, by go_num, HE2⟩
            case measure => have := HGK.out; omega
        · rw [n1] at CLk
          clear n1 hcl
          go_wp2_with (first | (go_at_call 44; refine (CLk.out _).mono ?_; rintro e w' ⟨rfl, rfl⟩) | (go_at_call 34; refine (CDk.out _).mono ?_; rintro e w' ⟨rfl, rfl⟩))
          go_roundg (s.size - (k + 1))
          case rel => exact ⟨rfl, k + 1, rfl, by omega, by omega, by go_num, HE2⟩
          case measure => have := HGK.out; omega
    · obtain rfl : k = s.size := by omega
      have hke : Hid (s.size = en) := by show _ = _; rw [← HE.out]; exact (eor_end isWrd _ _ (by rw [← Lib.size_eq]; exact Nat.le_refl _)).symm
      obtain rfl := hke.out
      go_wp2_with fail
      go_ret2
      exact ⟨rfl, rfl⟩

set_option maxRecDepth 100000 in
set_option maxHeartbeats 2000000 in
theorem rend_long (s : ByteArray) (i : Nat) (w : World) (hi : i < s.size) (hs : s.size ≤ 65536) (en : Nat) (hc : isLet s[i] = true) (hen : eor isWrd s.data.toList i = en) (hlen : i + 20 < en) :
    Calls Try.prog 40 #[.string s, .int .i64 (i : Int)] w fun e w' => e = .returned (.tuple #[.int .i64 ((i : Nat) : Int), .int .i64 0]) ∧ w = w' := by
  have hcl : (97 ≤ s[i].toNat ∧ s[i].toNat ≤ 122) ∨ (65 ≤ s[i].toNat ∧ s[i].toNat ≤ 90) := by simpa [isLet] using hc
  have t : ((s[i].toNat : Int) == 10) = false := beq_eq_false_iff_ne.2 (by omega)
  have hs0 : isSym s[i] = false := by cases h : isSym s[i]; rfl; have := sym_cases _ h; omega
  have CS := Lib.hid (fun wx => rsymbol_is s[i] false hs0 wx)
  have CL := Lib.hid (fun wx => rletter_is s[i] true hc wx)
  have HEN := Lib.hid hen
  clear hc hcl hs0 hen
  go_enter Try.func40, Try.ntmps40
  go_wp2_with (first | (go_at_call 61; refine (CS.out _).mono ?_; rintro e w' ⟨rfl, rfl⟩) | (go_at_call 44; refine (CL.out _).mono ?_; rintro e w' ⟨rfl, rfl⟩))
  clear CL CS
  go_loopg [6] (s.size - i) (fun m v wr => w = wr ∧ ∃ k : Nat, m = s.size - k ∧ i ≤ k ∧ k ≤ s.size ∧ v = .int .i64 (k : Int) ∧ Hid (eor isWrd s.data.toList k = en))
  case atStart => exact ⟨rfl, i, rfl, Nat.le_refl _, by omega, rfl, HEN⟩
  case round =>
    obtain ⟨rfl, k, hgk, hk0, hk1, rfl, HE⟩ := hrel
    have HGK := Lib.hid hgk
    clear hgk
    by_cases hlt : k < s.size
    · have hlt' : k < s.data.toList.length := by rw [← Lib.size_eq]; exact hlt
      cases hw : isWrd (s[k]'hlt)
      · have hke : Hid (k = en) := by show _ = _; rw [← HE.out]; exact (eor_no isWrd _ k hlt' hw).symm
        have n1 : isLet (s[k]'hlt) = false := by cases h : isLet (s[k]'hlt); rfl; rw [(wrd_split _).2 (Or.inl h)] at hw; cases hw
        have n2 : isDig (s[k]'hlt) = false := by cases h : isDig (s[k]'hlt); rfl; rw [(wrd_split _).2 (Or.inr (Or.inl h))] at hw; cases hw
        have n3 : (((s[k]'hlt).toNat : Int) == 95) = false := beq_eq_false_iff_ne.2 (by intro e; rw [(wrd_split _).2 (Or.inr (Or.inr (by omega)))] at hw; cases hw)
        have CLk := Lib.hid (fun wx => rletter_is (s[k]'hlt) false n1 wx)
        have CDk := Lib.hid (fun wx => rdigit_is (s[k]'hlt) false n2 wx)
        clear n1 n2 hw hlt'
        obtain rfl := hke.out
        go_wp2_with (first | (go_at_call 44; refine (CLk.out _).mono ?_; rintro e w' ⟨rfl, rfl⟩) | (go_at_call 34; refine (CDk.out _).mono ?_; rintro e w' ⟨rfl, rfl⟩))
        go_ret2
        exact ⟨rfl, rfl⟩
      · have HE2 : Hid (eor isWrd s.data.toList (k + 1) = en) := by show _ = _; rw [← HE.out]; exact (eor_yes isWrd _ k hlt' hw).symm
        have CLk := Lib.hid (fun wx => rletter_any (s[k]'hlt) wx)
        have CDk := Lib.hid (fun wx => rdigit_any (s[k]'hlt) wx)
        have hcl := (wrd_split _).1 hw
        clear hw hlt'
        cases n1 : isLet (s[k]'hlt)
        · rw [n1] at CLk
          cases n2 : isDig (s[k]'hlt)
          · rw [n2] at CDk
            have n3 : (((s[k]'hlt).toNat : Int) == 95) = true := by
              rcases hcl with h | h | h
              · rw [n1] at h; cases h
              · rw [n2] at h; cases h
              · rw [h]; rfl
            clear n1 n2 hcl
            go_wp2_with (first | (go_at_call 44; refine (CLk.out _).mono ?_; rintro e w' ⟨rfl, rfl⟩) | (go_at_call 34; refine (CDk.out _).mono ?_; rintro e w' ⟨rfl, rfl⟩))
            go_roundg (s.size - (k + 1))
            case rel => exact ⟨rfl, k + 1, rfl, by omega, by omega, by go_num, HE2⟩
            case measure => have := HGK.out; omega
          · rw [n2] at CDk
            clear n1 n2 hcl
            go_wp2_with (first | (go_at_call 44; refine (CLk.out _).mono ?_; rintro e w' ⟨rfl, rfl⟩) | (go_at_call 34; refine (CDk.out _).mono ?_; rintro e w' ⟨rfl, rfl⟩))
            go_roundg (s.size - (k + 1))
            case rel => exact ⟨rfl, k + 1, rfl, by omega, by omega, by go_num, HE2⟩
            case measure => have := HGK.out; omega
        · rw [n1] at CLk
          clear n1 hcl
          go_wp2_with (first | (go_at_call 44; refine (CLk.out _).mono ?_; rintro e w' ⟨rfl, rfl⟩) | (go_at_call 34; refine (CDk.out _).mono ?_; rintro e w' ⟨rfl, rfl⟩))
          go_roundg (s.size - (k + 1))
          case rel => exact ⟨rfl, k + 1, rfl, by omega, by omega, by go_num, HE2⟩
          case measure => have := HGK.out; omega
    · obtain rfl : k = s.size := by omega
      have hke : Hid (s.size = en) := by show _ = _; rw [← HE.out]; exact (eor_end isWrd _ _ (by rw [← Lib.size_eq]; exact Nat.le_refl _)).symm
      obtain rfl := hke.out
      go_wp2_with fail
      go_ret2
      exact ⟨rfl, rfl⟩

set_option maxRecDepth 100000 in
set_option maxHeartbeats 2000000 in
theorem rend_bad (s : ByteArray) (i : Nat) (w : World) (hi : i < s.size) (hs : s.size ≤ 65536) (n10 : s[i].toNat ≠ 10) (hs0 : isSym s[i] = false) (hl0 : isLet s[i] = false) (hd0 : isDig s[i] = false) :
    Calls Try.prog 40 #[.string s, .int .i64 (i : Int)] w fun e w' => e = .returned (.tuple #[.int .i64 ((i : Nat) : Int), .int .i64 0]) ∧ w = w' := by
  have t : ((s[i].toNat : Int) == 10) = false := beq_eq_false_iff_ne.2 (by omega)
  have CS := Lib.hid (fun wx => rsymbol_is s[i] false hs0 wx)
  have CL := Lib.hid (fun wx => rletter_is s[i] false hl0 wx)
  have CD := Lib.hid (fun wx => rdigit_is s[i] false hd0 wx)
  clear n10 hs0 hl0 hd0
  go_enter Try.func40, Try.ntmps40
  go_wp2_with (first | (go_at_call 61; refine (CS.out _).mono ?_; rintro e w' ⟨rfl, rfl⟩) | (go_at_call 44; refine (CL.out _).mono ?_; rintro e w' ⟨rfl, rfl⟩))
  go_loopg [6] 1 (fun m v wr => w = wr ∧ m = 1 ∧ v = .int .i64 (i : Int))
  case atStart => exact ⟨rfl, rfl, rfl⟩
  case round =>
    obtain ⟨rfl, rfl, rfl⟩ := hrel
    go_wp2_with (go_at_call 34; refine (CD.out _).mono ?_; rintro e w' ⟨rfl, rfl⟩)
    go_ret2
    exact ⟨rfl, rfl⟩

set_option maxRecDepth 100000 in
set_option maxHeartbeats 2000000 in
theorem rend_num0 (s : ByteArray) (i : Nat) (w : World) (hi : i < s.size) (hs : s.size ≤ 65536) (e1 : Nat) (hc : isDig s[i] = true) (he1 : eor isDig s.data.toList i = e1) (hno : s.size ≤ e1 + 1) :
    Calls Try.prog 40 #[.string s, .int .i64 (i : Int)] w fun e w' => e = .returned (.tuple #[.int .i64 ((e1 : Nat) : Int), .int .i64 2]) ∧ w = w' := by
  have hcl : 48 ≤ s[i].toNat ∧ s[i].toNat ≤ 57 := by simpa [isDig] using hc
  have t : ((s[i].toNat : Int) == 10) = false := beq_eq_false_iff_ne.2 (by omega)
  have hs0 : isSym s[i] = false := by cases h : isSym s[i]; rfl; have := sym_cases _ h; omega
  have hl0 : isLet s[i] = false := by cases h : isLet s[i]; rfl; (have : (97 ≤ s[i].toNat ∧ s[i].toNat ≤ 122) ∨ (65 ≤ s[i].toNat ∧ s[i].toNat ≤ 90) := by simpa [isLet] using h); omega
  have CS := Lib.hid (fun wx => rsymbol_is s[i] false hs0 wx)
  have CL := Lib.hid (fun wx => rletter_is s[i] false hl0 wx)
  have hgt : i < e1 := by rw [← he1]; exact eor_gt isDig _ i (by rw [← Lib.size_eq]; exact hi) (by rw [getD_get _ _ (by rw [← Lib.size_eq]; exact hi)]; exact hc)
  have HE1 := Lib.hid he1
  clear hc hcl hs0 hl0 he1
  go_enter Try.func40, Try.ntmps40
  go_wp2_with (first | (go_at_call 61; refine (CS.out _).mono ?_; rintro e w' ⟨rfl, rfl⟩) | (go_at_call 44; refine (CL.out _).mono ?_; rintro e w' ⟨rfl, rfl⟩))
  clear CL CS
  go_loopg [6] (s.size - (i)) (fun m v wr => w = wr ∧ ∃ k : Nat, m = s.size - k ∧ i ≤ k ∧ k ≤ s.size ∧ v = .int .i64 (k : Int) ∧ Hid (eor isDig s.data.toList k = e1))
  case atStart => exact ⟨rfl, i, rfl, Nat.le_refl _, by omega, by first | rfl | go_num, HE1⟩
  case round =>
    obtain ⟨rfl, k, hgk, hk0, hk1, rfl, HE⟩ := hrel
    have HGK := Lib.hid hgk
    clear hgk
    by_cases hlt : k < s.size
    · have hlt' : k < s.data.toList.length := by rw [← Lib.size_eq]; exact hlt
      cases hw : isDig (s[k]'hlt)
      · have hke : Hid (k = e1) := by show _ = _; rw [← HE.out]; exact (eor_no isDig _ k hlt' hw).symm
        have CDk := Lib.hid (fun wx => rdigit_is (s[k]'hlt) false hw wx)
        have hwk := Lib.hid hw
        clear hw hlt'
        obtain rfl := hke.out
        have tk : (((k : Int) : Int) == (i : Int)) = false := beq_eq_false_iff_ne.2 (by omega)
        go_wp2_with (go_at_call 34; refine (CDk.out _).mono ?_; rintro e w' ⟨rfl, rfl⟩)
        go_ret2
        exact ⟨rfl, rfl⟩

      · have HE2 : Hid (eor isDig s.data.toList (k + 1) = e1) := by show _ = _; rw [← HE.out]; exact (eor_yes isDig _ k hlt' hw).symm
        have CDk := Lib.hid (fun wx => rdigit_is (s[k]'hlt) true hw wx)
        clear hw hlt'
        go_wp2_with (go_at_call 34; refine (CDk.out _).mono ?_; rintro e w' ⟨rfl, rfl⟩)
        go_roundg (s.size - (k + 1))
        case rel => exact ⟨rfl, k + 1, rfl, by omega, by omega, by go_num, HE2⟩
        case measure => have := HGK.out; omega
    · obtain rfl : k = s.size := by omega
      have hke : Hid (s.size = e1) := by show _ = _; rw [← HE.out]; exact (eor_end isDig _ _ (by rw [← Lib.size_eq]; exact Nat.le_refl _)).symm
      obtain rfl := hke.out
      have tk : (((s.size : Int) : Int) == (i : Int)) = false := beq_eq_false_iff_ne.2 (by omega)
      go_wp2_with fail
      go_ret2
      exact ⟨rfl, rfl⟩


set_option maxRecDepth 100000 in
set_option maxHeartbeats 2000000 in
theorem rend_num1 (s : ByteArray) (i : Nat) (w : World) (hi : i < s.size) (hs : s.size ≤ 65536) (e1 : Nat) (hc : isDig s[i] = true) (he1 : eor isDig s.data.toList i = e1) (h1 : e1 + 1 < s.size) (hno : s[e1].toNat ≠ 46) :
    Calls Try.prog 40 #[.string s, .int .i64 (i : Int)] w fun e w' => e = .returned (.tuple #[.int .i64 ((e1 : Nat) : Int), .int .i64 2]) ∧ w = w' := by
  have hcl : 48 ≤ s[i].toNat ∧ s[i].toNat ≤ 57 := by simpa [isDig] using hc
  have t : ((s[i].toNat : Int) == 10) = false := beq_eq_false_iff_ne.2 (by omega)
  have hs0 : isSym s[i] = false := by cases h : isSym s[i]; rfl; have := sym_cases _ h; omega
  have hl0 : isLet s[i] = false := by cases h : isLet s[i]; rfl; (have : (97 ≤ s[i].toNat ∧ s[i].toNat ≤ 122) ∨ (65 ≤ s[i].toNat ∧ s[i].toNat ≤ 90) := by simpa [isLet] using h); omega
  have CS := Lib.hid (fun wx => rsymbol_is s[i] false hs0 wx)
  have CL := Lib.hid (fun wx => rletter_is s[i] false hl0 wx)
  have hgt : i < e1 := by rw [← he1]; exact eor_gt isDig _ i (by rw [← Lib.size_eq]; exact hi) (by rw [getD_get _ _ (by rw [← Lib.size_eq]; exact hi)]; exact hc)
  have HE1 := Lib.hid he1
  clear hc hcl hs0 hl0 he1
  have t46 : ((s[e1].toNat : Int) == 46) = false := beq_eq_false_iff_ne.2 (by omega)
  clear hno
  go_enter Try.func40, Try.ntmps40
  go_wp2_with (first | (go_at_call 61; refine (CS.out _).mono ?_; rintro e w' ⟨rfl, rfl⟩) | (go_at_call 44; refine (CL.out _).mono ?_; rintro e w' ⟨rfl, rfl⟩))
  clear CL CS
  go_loopg [6] (s.size - (i)) (fun m v wr => w = wr ∧ ∃ k : Nat, m = s.size - k ∧ i ≤ k ∧ k ≤ s.size ∧ v = .int .i64 (k : Int) ∧ Hid (eor isDig s.data.toList k = e1))
  case atStart => exact ⟨rfl, i, rfl, Nat.le_refl _, by omega, by first | rfl | go_num, HE1⟩
  case round =>
    obtain ⟨rfl, k, hgk, hk0, hk1, rfl, HE⟩ := hrel
    have HGK := Lib.hid hgk
    clear hgk
    by_cases hlt : k < s.size
    · have hlt' : k < s.data.toList.length := by rw [← Lib.size_eq]; exact hlt
      cases hw : isDig (s[k]'hlt)
      · have hke : Hid (k = e1) := by show _ = _; rw [← HE.out]; exact (eor_no isDig _ k hlt' hw).symm
        have CDk := Lib.hid (fun wx => rdigit_is (s[k]'hlt) false hw wx)
        have hwk := Lib.hid hw
        clear hw hlt'
        obtain rfl := hke.out
        have tk : (((k : Int) : Int) == (i : Int)) = false := beq_eq_false_iff_ne.2 (by omega)
        go_wp2_with (go_at_call 34; refine (CDk.out _).mono ?_; rintro e w' ⟨rfl, rfl⟩)
        go_ret2
        exact ⟨rfl, rfl⟩

      · have HE2 : Hid (eor isDig s.data.toList (k + 1) = e1) := by show _ = _; rw [← HE.out]; exact (eor_yes isDig _ k hlt' hw).symm
        have CDk := Lib.hid (fun wx => rdigit_is (s[k]'hlt) true hw wx)
        clear hw hlt'
        go_wp2_with (go_at_call 34; refine (CDk.out _).mono ?_; rintro e w' ⟨rfl, rfl⟩)
        go_roundg (s.size - (k + 1))
        case rel => exact ⟨rfl, k + 1, rfl, by omega, by omega, by go_num, HE2⟩
        case measure => have := HGK.out; omega
    · obtain rfl : k = s.size := by omega
      have hke : Hid (s.size = e1) := by show _ = _; rw [← HE.out]; exact (eor_end isDig _ _ (by rw [← Lib.size_eq]; exact Nat.le_refl _)).symm
      obtain rfl := hke.out
      exact absurd h1 (by omega)


set_option maxRecDepth 100000 in
set_option maxHeartbeats 2000000 in
theorem rend_num2 (s : ByteArray) (i : Nat) (w : World) (hi : i < s.size) (hs : s.size ≤ 65536) (e1 : Nat) (hc : isDig s[i] = true) (he1 : eor isDig s.data.toList i = e1) (h1 : e1 + 1 < s.size) (h46 : s[e1].toNat = 46) (hno : isDig s[e1 + 1] = false) :
    Calls Try.prog 40 #[.string s, .int .i64 (i : Int)] w fun e w' => e = .returned (.tuple #[.int .i64 ((e1 : Nat) : Int), .int .i64 2]) ∧ w = w' := by
  have hcl : 48 ≤ s[i].toNat ∧ s[i].toNat ≤ 57 := by simpa [isDig] using hc
  have t : ((s[i].toNat : Int) == 10) = false := beq_eq_false_iff_ne.2 (by omega)
  have hs0 : isSym s[i] = false := by cases h : isSym s[i]; rfl; have := sym_cases _ h; omega
  have hl0 : isLet s[i] = false := by cases h : isLet s[i]; rfl; (have : (97 ≤ s[i].toNat ∧ s[i].toNat ≤ 122) ∨ (65 ≤ s[i].toNat ∧ s[i].toNat ≤ 90) := by simpa [isLet] using h); omega
  have CS := Lib.hid (fun wx => rsymbol_is s[i] false hs0 wx)
  have CL := Lib.hid (fun wx => rletter_is s[i] false hl0 wx)
  have hgt : i < e1 := by rw [← he1]; exact eor_gt isDig _ i (by rw [← Lib.size_eq]; exact hi) (by rw [getD_get _ _ (by rw [← Lib.size_eq]; exact hi)]; exact hc)
  have HE1 := Lib.hid he1
  clear hc hcl hs0 hl0 he1
  have t46 : ((s[e1].toNat : Int) == 46) = true := beq_iff_eq.2 (by omega)
  have CN := Lib.hid (fun wx => rdigit_is s[e1 + 1] false hno wx)
  clear hno h46
  go_enter Try.func40, Try.ntmps40
  go_wp2_with (first | (go_at_call 61; refine (CS.out _).mono ?_; rintro e w' ⟨rfl, rfl⟩) | (go_at_call 44; refine (CL.out _).mono ?_; rintro e w' ⟨rfl, rfl⟩))
  clear CL CS
  go_loopg [6] (s.size - (i)) (fun m v wr => w = wr ∧ ∃ k : Nat, m = s.size - k ∧ i ≤ k ∧ k ≤ s.size ∧ v = .int .i64 (k : Int) ∧ Hid (eor isDig s.data.toList k = e1))
  case atStart => exact ⟨rfl, i, rfl, Nat.le_refl _, by omega, by first | rfl | go_num, HE1⟩
  case round =>
    obtain ⟨rfl, k, hgk, hk0, hk1, rfl, HE⟩ := hrel
    have HGK := Lib.hid hgk
    clear hgk
    by_cases hlt : k < s.size
    · have hlt' : k < s.data.toList.length := by rw [← Lib.size_eq]; exact hlt
      cases hw : isDig (s[k]'hlt)
      · have hke : Hid (k = e1) := by show _ = _; rw [← HE.out]; exact (eor_no isDig _ k hlt' hw).symm
        have CDk := Lib.hid (fun wx => rdigit_is (s[k]'hlt) false hw wx)
        have hwk := Lib.hid hw
        clear hw hlt'
        obtain rfl := hke.out
        have tk : (((k : Int) : Int) == (i : Int)) = false := beq_eq_false_iff_ne.2 (by omega)
        go_wp2_with (go_at_call 34; refine (CDk.out _).mono ?_; rintro e w' ⟨rfl, rfl⟩)
        refine (CN.out _).mono ?_
        rintro e w' ⟨rfl, rfl⟩
        go_wp2_with fail
        go_ret2
        exact ⟨rfl, rfl⟩

      · have HE2 : Hid (eor isDig s.data.toList (k + 1) = e1) := by show _ = _; rw [← HE.out]; exact (eor_yes isDig _ k hlt' hw).symm
        have CDk := Lib.hid (fun wx => rdigit_is (s[k]'hlt) true hw wx)
        clear hw hlt'
        go_wp2_with (go_at_call 34; refine (CDk.out _).mono ?_; rintro e w' ⟨rfl, rfl⟩)
        go_roundg (s.size - (k + 1))
        case rel => exact ⟨rfl, k + 1, rfl, by omega, by omega, by go_num, HE2⟩
        case measure => have := HGK.out; omega
    · obtain rfl : k = s.size := by omega
      have hke : Hid (s.size = e1) := by show _ = _; rw [← HE.out]; exact (eor_end isDig _ _ (by rw [← Lib.size_eq]; exact Nat.le_refl _)).symm
      obtain rfl := hke.out
      exact absurd h1 (by omega)


set_option maxRecDepth 100000 in
set_option maxHeartbeats 2000000 in
theorem rend_num3 (s : ByteArray) (i : Nat) (w : World) (hi : i < s.size) (hs : s.size ≤ 65536) (e1 e2 : Nat) (hc : isDig s[i] = true) (he1 : eor isDig s.data.toList i = e1) (h1 : e1 + 1 < s.size) (h46 : s[e1].toNat = 46) (hyes : isDig s[e1 + 1] = true) (he2 : eor isDig s.data.toList (e1 + 1) = e2) :
    Calls Try.prog 40 #[.string s, .int .i64 (i : Int)] w fun e w' => e = .returned (.tuple #[.int .i64 ((e2 : Nat) : Int), .int .i64 2]) ∧ w = w' := by
  have hcl : 48 ≤ s[i].toNat ∧ s[i].toNat ≤ 57 := by simpa [isDig] using hc
  have t : ((s[i].toNat : Int) == 10) = false := beq_eq_false_iff_ne.2 (by omega)
  have hs0 : isSym s[i] = false := by cases h : isSym s[i]; rfl; have := sym_cases _ h; omega
  have hl0 : isLet s[i] = false := by cases h : isLet s[i]; rfl; (have : (97 ≤ s[i].toNat ∧ s[i].toNat ≤ 122) ∨ (65 ≤ s[i].toNat ∧ s[i].toNat ≤ 90) := by simpa [isLet] using h); omega
  have CS := Lib.hid (fun wx => rsymbol_is s[i] false hs0 wx)
  have CL := Lib.hid (fun wx => rletter_is s[i] false hl0 wx)
  have hgt : i < e1 := by rw [← he1]; exact eor_gt isDig _ i (by rw [← Lib.size_eq]; exact hi) (by rw [getD_get _ _ (by rw [← Lib.size_eq]; exact hi)]; exact hc)
  have HE1 := Lib.hid he1
  clear hc hcl hs0 hl0 he1
  have t46 : ((s[e1].toNat : Int) == 46) = true := beq_iff_eq.2 (by omega)
  have CN := Lib.hid (fun wx => rdigit_is s[e1 + 1] true hyes wx)
  have HE2' := Lib.hid he2
  clear hyes h46 he2
  go_enter Try.func40, Try.ntmps40
  go_wp2_with (first | (go_at_call 61; refine (CS.out _).mono ?_; rintro e w' ⟨rfl, rfl⟩) | (go_at_call 44; refine (CL.out _).mono ?_; rintro e w' ⟨rfl, rfl⟩))
  clear CL CS
  go_loopg [6] (s.size - (i)) (fun m v wr => w = wr ∧ ∃ k : Nat, m = s.size - k ∧ i ≤ k ∧ k ≤ s.size ∧ v = .int .i64 (k : Int) ∧ Hid (eor isDig s.data.toList k = e1))
  case atStart => exact ⟨rfl, i, rfl, Nat.le_refl _, by omega, by first | rfl | go_num, HE1⟩
  case round =>
    obtain ⟨rfl, k, hgk, hk0, hk1, rfl, HE⟩ := hrel
    have HGK := Lib.hid hgk
    clear hgk
    by_cases hlt : k < s.size
    · have hlt' : k < s.data.toList.length := by rw [← Lib.size_eq]; exact hlt
      cases hw : isDig (s[k]'hlt)
      · have hke : Hid (k = e1) := by show _ = _; rw [← HE.out]; exact (eor_no isDig _ k hlt' hw).symm
        have CDk := Lib.hid (fun wx => rdigit_is (s[k]'hlt) false hw wx)
        have hwk := Lib.hid hw
        clear hw hlt'
        obtain rfl := hke.out
        have tk : (((k : Int) : Int) == (i : Int)) = false := beq_eq_false_iff_ne.2 (by omega)
        go_wp2_with (go_at_call 34; refine (CDk.out _).mono ?_; rintro e w' ⟨rfl, rfl⟩)
        refine (CN.out _).mono ?_
        rintro e w' ⟨rfl, rfl⟩
        go_wp2_with fail
        have HE3 : Hid (eor isDig s.data.toList (k + 1) = e2) := HE2'
        go_loopg [6] (s.size - (k + 1)) (fun m v wr => w = wr ∧ ∃ j : Nat, m = s.size - j ∧ k + 1 ≤ j ∧ j ≤ s.size ∧ v = .int .i64 (j : Int) ∧ Hid (eor isDig s.data.toList j = e2))
        case atStart => exact ⟨rfl, k + 1, rfl, Nat.le_refl _, by omega, by first | rfl | go_num, HE3⟩
        case round =>
          obtain ⟨rfl, j, hgj, hj0, hj1, rfl, HEJ⟩ := hrel
          have HGJ := Lib.hid hgj
          clear hgj
          by_cases hltj : j < s.size
          · have hltj' : j < s.data.toList.length := by rw [← Lib.size_eq]; exact hltj
            cases hwj : isDig (s[j]'hltj)
            · have hje : Hid (j = e2) := by show _ = _; rw [← HEJ.out]; exact (eor_no isDig _ j hltj' hwj).symm
              have CDj := Lib.hid (fun wx => rdigit_is (s[j]'hltj) false hwj wx)
              clear hwj hltj'
              obtain rfl := hje.out
              go_wp2_with (go_at_call 34; refine (CDj.out _).mono ?_; rintro e w' ⟨rfl, rfl⟩)
              go_ret2
              exact ⟨rfl, rfl⟩
            · have HEJ2 : Hid (eor isDig s.data.toList (j + 1) = e2) := by show _ = _; rw [← HEJ.out]; exact (eor_yes isDig _ j hltj' hwj).symm
              have CDj := Lib.hid (fun wx => rdigit_is (s[j]'hltj) true hwj wx)
              clear hwj hltj'
              go_wp2_with (go_at_call 34; refine (CDj.out _).mono ?_; rintro e w' ⟨rfl, rfl⟩)
              go_roundg (s.size - (j + 1))
              case rel => exact ⟨rfl, j + 1, rfl, by omega, by omega, by go_num, HEJ2⟩
              case measure => have := HGJ.out; omega
          · obtain rfl : j = s.size := by omega
            have hje : Hid (s.size = e2) := by show _ = _; rw [← HEJ.out]; exact (eor_end isDig _ _ (by rw [← Lib.size_eq]; exact Nat.le_refl _)).symm
            obtain rfl := hje.out
            go_wp2_with fail
            go_ret2
            exact ⟨rfl, rfl⟩

      · have HE2 : Hid (eor isDig s.data.toList (k + 1) = e1) := by show _ = _; rw [← HE.out]; exact (eor_yes isDig _ k hlt' hw).symm
        have CDk := Lib.hid (fun wx => rdigit_is (s[k]'hlt) true hw wx)
        clear hw hlt'
        go_wp2_with (go_at_call 34; refine (CDk.out _).mono ?_; rintro e w' ⟨rfl, rfl⟩)
        go_roundg (s.size - (k + 1))
        case rel => exact ⟨rfl, k + 1, rfl, by omega, by omega, by go_num, HE2⟩
        case measure => have := HGK.out; omega
    · obtain rfl : k = s.size := by omega
      have hke : Hid (s.size = e1) := by show _ = _; rw [← HE.out]; exact (eor_end isDig _ _ (by rw [← Lib.size_eq]; exact Nat.le_refl _)).symm
      obtain rfl := hke.out
      exact absurd h1 (by omega)


end Go.Proofs.Ytijgaenfhmgcoaa
