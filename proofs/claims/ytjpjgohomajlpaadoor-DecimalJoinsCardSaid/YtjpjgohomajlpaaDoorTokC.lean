/- The contract of step. -/
import Derived.Test.YtjpjgohomajlpaaDoorTokB
namespace Go.Proofs.YtjpjgohomajlpaaDoor
open Go.RowKit
set_option linter.unusedVariables false
attribute [local go_sem ↓] Go.wp_at_zero Go.wp_at_succ

theorem sym_cases (c : UInt8) (h : isSym c = true) : c.toNat = 45 ∨ c.toNat = 43 ∨ c.toNat = 58 ∨ c.toNat = 44 ∨ c.toNat = 59 ∨ c.toNat = 47 ∨ c.toNat = 61 ∨ c.toNat = 40 ∨ c.toNat = 41 ∨ c.toNat = 60 ∨ c.toNat = 62 ∨ c.toNat = 42 ∨ c.toNat = 64 ∨ c.toNat = 63 := by
  rw [isSym_iff] at h
  simp only [syms, List.mem_cons, decide_eq_true_eq, List.not_mem_nil, or_false] at h
  rcases h with h | h | h | h | h | h | h | h | h | h | h | h | h | h <;> subst h <;> simp

set_option maxRecDepth 100000 in
set_option maxHeartbeats 1000000 in
theorem step_blank (R : Nat) (s : ByteArray) (a ls line : Nat) (v : Value) (ts : List Tok) (w : World) (h : Rd w R s a line ls v ts) (h1 : ls ≤ a) (h3 : a < s.size) (hs : s.size ≤ 65536) (ht : ts.length ≤ 65536) (hl : line ≤ 65537) (hc : s[a].toNat = 32 ∨ s[a].toNat = 9) :
    Calls Tryd.prog 15 #[.pointer (some ⟨R, 0, none⟩)] w fun e w' => e = .returned (.bool true) ∧ (∃ v', Rd w' R s ((a + 1 : Nat) : Int) line ls v' ts) ∧ Below R w w' := by
  have c0 := h.c0
  have c1 := h.c1
  have f1 := h.f1
  have hR := h.lt
  have H := Lib.hid h
  have b0 : (0 : Int) ≤ (a : Int) := by omega
  have b1 : (a : Int) < (s.size : Int) := by omega
  clear h
  rcases hc with hc | hc
  · have t1 : ((s[a].toNat : Int) == 32) = true := by simp [hc]
    clear hc
    go_enter Tryd.func15, Tryd.ntmps15
    go_wp2_with fail
    go_quiet (fail)
    go_wp2_with fail
    go_ret
    exact ⟨rfl, ⟨v, (H.out.below (below_drewN (Below.refl _ _) _)).setAt _⟩, Below.setCell (p := ⟨R, 1, none⟩) (below_drewN (Below.refl R w) _) (Nat.le_refl R) _⟩
  · have t1 : ((s[a].toNat : Int) == 32) = false := by simp [hc]
    have t2 : ((s[a].toNat : Int) == 9) = true := by simp [hc]
    clear hc
    go_enter Tryd.func15, Tryd.ntmps15
    go_wp2_with fail
    go_quiet (fail)
    go_wp2_with fail
    go_ret
    exact ⟨rfl, ⟨v, (H.out.below (below_drewN (Below.refl _ _) _)).setAt _⟩, Below.setCell (p := ⟨R, 1, none⟩) (below_drewN (Below.refl R w) _) (Nat.le_refl R) _⟩

set_option maxRecDepth 100000 in
set_option maxHeartbeats 1000000 in
theorem step_nl (R : Nat) (s : ByteArray) (a ls line : Nat) (v : Value) (ts : List Tok) (w : World) (h : Rd w R s a line ls v ts) (h1 : ls ≤ a) (h3 : a < s.size) (hs : s.size ≤ 65536) (ht : ts.length ≤ 65536) (hl : line ≤ 65537) (hc : s[a].toNat = 10) :
    Calls Tryd.prog 15 #[.pointer (some ⟨R, 0, none⟩)] w fun e w' => e = .returned (.bool true) ∧ (∃ v', Rd w' R s ((a + 1 : Nat) : Int) ((line + 1 : Nat) : Int) ((a + 1 : Nat) : Int) v' (ts ++ [⟨4, [], line, (a : Int) - ls + 1⟩])) ∧ Below R w w' := by
  have c0 := h.c0
  have c1 := h.c1
  have f1 := h.f1
  have hR := h.lt
  have H := Lib.hid h
  have b0 : (0 : Int) ≤ (a : Int) := by omega
  have b1 : (a : Int) < (s.size : Int) := by omega
  clear h
  have t1 : ((s[a].toNat : Int) == 32) = false := by simp [hc]
  have t2 : ((s[a].toNat : Int) == 9) = false := by simp [hc]
  have t3 : ((s[a].toNat : Int) == 10) = true := by simp [hc]
  clear hc
  go_enter Tryd.func15, Tryd.ntmps15
  go_wp2_with fail
  go_quiet (fail)
  go_wp2_with fail
  refine (takeLine_any R s a ls line v ts _ (H.out.below (below_drewN (Below.refl _ _) _)) h1 h3 hs ht hl).mono ?_
  rintro e w1 ⟨rfl, hr, hb⟩
  have HR := Lib.hid hr
  have HB := Lib.hid hb
  clear hr hb
  go_wp2_with fail
  go_ret
  exact ⟨rfl, HR.out, (below_drewN (Below.refl _ _) _).trans HB.out⟩

set_option maxRecDepth 100000 in
set_option maxHeartbeats 1000000 in
theorem step_hash (R : Nat) (s : ByteArray) (a ls line : Nat) (v : Value) (ts : List Tok) (w : World) (h : Rd w R s a line ls v ts) (h1 : ls ≤ a) (h3 : a < s.size) (hs : s.size ≤ 65536) (ht : ts.length ≤ 65536) (hl : line ≤ 65537) (hc : s[a].toNat = 35) :
    Calls Tryd.prog 15 #[.pointer (some ⟨R, 0, none⟩)] w fun e w' => e = .returned (.bool true) ∧ (∃ v', Rd w' R s ((eor notNl s.data.toList a : Nat) : Int) line ls v' ts) ∧ Below R w w' := by
  have c0 := h.c0
  have c1 := h.c1
  have f1 := h.f1
  have hR := h.lt
  have H := Lib.hid h
  have b0 : (0 : Int) ≤ (a : Int) := by omega
  have b1 : (a : Int) < (s.size : Int) := by omega
  clear h
  have t1 : ((s[a].toNat : Int) == 32) = false := by simp [hc]
  have t2 : ((s[a].toNat : Int) == 9) = false := by simp [hc]
  have t3 : ((s[a].toNat : Int) == 10) = false := by simp [hc]
  have t4 : ((s[a].toNat : Int) == 35) = true := by simp [hc]
  have C := Lib.hid (fun wx => endOfRun_nl s a wx (by omega) (by omega))
  obtain ⟨k, hk⟩ : ∃ k, k = eor notNl s.data.toList a := ⟨_, rfl⟩
  rw [← hk] at C ⊢
  clear hc hk
  go_enter Tryd.func15, Tryd.ntmps15
  go_wp2_with fail
  go_quiet (fail)
  go_wp2_with fail
  go_region_law (first | (go_simp; go_at_call 32; refine (C.out _).mono ?_; rintro e w' ⟨rfl, rfl⟩))
  all_goals go_wp2_with fail
  all_goals go_ret
  all_goals exact ⟨rfl, ⟨v, (H.out.below (below_drewN (Below.refl _ _) _)).setAt _⟩, Below.setCell (p := ⟨R, 1, none⟩) (below_drewN (Below.refl R w) _) (Nat.le_refl R) _⟩

set_option maxRecDepth 100000 in
set_option maxHeartbeats 1000000 in
theorem step_word (R : Nat) (s : ByteArray) (a ls line : Nat) (v : Value) (ts : List Tok) (w : World) (h : Rd w R s a line ls v ts) (h1 : ls ≤ a) (h3 : a < s.size) (hs : s.size ≤ 65536) (ht : ts.length ≤ 65536) (hl : line ≤ 65537) (hc : isLet s[a] = true) (hlen : eor isWrd s.data.toList a ≤ a + 20) :
    Calls Tryd.prog 15 #[.pointer (some ⟨R, 0, none⟩)] w fun e w' => e = .returned (.bool true) ∧ (∃ v', Rd w' R s ((eor isWrd s.data.toList a : Nat) : Int) line ls v' (ts ++ [⟨1, (s.extract a (eor isWrd s.data.toList a)).data.toList, line, (a : Int) - ls + 1⟩])) ∧ Below R w w' := by
  have c0 := h.c0
  have c1 := h.c1
  have f1 := h.f1
  have hR := h.lt
  have H := Lib.hid h
  have b0 : (0 : Int) ≤ (a : Int) := by omega
  have b1 : (a : Int) < (s.size : Int) := by omega
  clear h
  have hcl : (97 ≤ s[a].toNat ∧ s[a].toNat ≤ 122) ∨ (65 ≤ s[a].toNat ∧ s[a].toNat ≤ 90) := by simpa [isLet] using hc
  have t1 : ((s[a].toNat : Int) == 32) = false := by simp; omega
  have t2 : ((s[a].toNat : Int) == 9) = false := by simp; omega
  have t3 : ((s[a].toNat : Int) == 10) = false := by simp; omega
  have t4 : ((s[a].toNat : Int) == 35) = false := by simp; omega
  have cL : ∀ wx, Calls Tryd.prog 34 #[.int .u8 (s[a].toNat : Int)] wx fun e w' => e = .returned (.bool true) ∧ wx = w' := fun wx => by rw [← hc]; exact isLetter_any _ wx
  have CL := Lib.hid cL
  have C := Lib.hid (fun wx => endOfRun_wrd s a wx (by omega) (by omega))
  have hge := eor_ge isWrd s.data.toList a
  have hle := eor_le isWrd s.data.toList a (by rw [← Lib.size_eq]; omega)
  rw [← Lib.size_eq] at hle
  obtain ⟨k, hk⟩ : ∃ k, k = eor isWrd s.data.toList a := ⟨_, rfl⟩
  rw [← hk] at C hge hle hlen ⊢
  clear hc hk cL hcl
  go_enter Tryd.func15, Tryd.ntmps15
  go_wp2_with fail
  go_quiet (fail)
  go_wp2_with (go_at_call 34; refine (CL.out _).mono ?_; rintro e w' ⟨rfl, rfl⟩)
  go_region_law (first | (go_simp; go_at_call 32; refine (C.out _).mono ?_; rintro e w' ⟨rfl, rfl⟩))
  all_goals go_wp2_with fail
  all_goals refine (take_any R s a k ls line 1 v ts _ (H.out.below (below_drewN (Below.refl _ _) _)) h1 hge hle hs ht).mono ?_
  all_goals rintro e w1 ⟨rfl, hr, hb⟩
  all_goals have HR := Lib.hid hr
  all_goals have HB := Lib.hid hb
  all_goals clear hr hb
  all_goals go_wp2_with fail
  all_goals go_ret
  all_goals exact ⟨rfl, HR.out, (below_drewN (Below.refl _ _) _).trans HB.out⟩

set_option maxRecDepth 100000 in
set_option maxHeartbeats 1000000 in
theorem step_long (R : Nat) (s : ByteArray) (a ls line : Nat) (v : Value) (ts : List Tok) (w : World) (h : Rd w R s a line ls v ts) (h1 : ls ≤ a) (h3 : a < s.size) (hs : s.size ≤ 65536) (ht : ts.length ≤ 65536) (hl : line ≤ 65537) (hc : isLet s[a] = true) (hlen : a + 20 < eor isWrd s.data.toList a) :
    Calls Tryd.prog 15 #[.pointer (some ⟨R, 0, none⟩)] w fun e w' => e = .returned (.bool false) ∧ (∃ v', Rd w' R s a line ls v' ts) ∧ Below R w w' := by
  have c0 := h.c0
  have c1 := h.c1
  have f1 := h.f1
  have hR := h.lt
  have H := Lib.hid h
  have b0 : (0 : Int) ≤ (a : Int) := by omega
  have b1 : (a : Int) < (s.size : Int) := by omega
  clear h
  have hcl : (97 ≤ s[a].toNat ∧ s[a].toNat ≤ 122) ∨ (65 ≤ s[a].toNat ∧ s[a].toNat ≤ 90) := by simpa [isLet] using hc
  have t1 : ((s[a].toNat : Int) == 32) = false := by simp; omega
  have t2 : ((s[a].toNat : Int) == 9) = false := by simp; omega
  have t3 : ((s[a].toNat : Int) == 10) = false := by simp; omega
  have t4 : ((s[a].toNat : Int) == 35) = false := by simp; omega
  have cL : ∀ wx, Calls Tryd.prog 34 #[.int .u8 (s[a].toNat : Int)] wx fun e w' => e = .returned (.bool true) ∧ wx = w' := fun wx => by rw [← hc]; exact isLetter_any _ wx
  have CL := Lib.hid cL
  have C := Lib.hid (fun wx => endOfRun_wrd s a wx (by omega) (by omega))
  have hge := eor_ge isWrd s.data.toList a
  have hle := eor_le isWrd s.data.toList a (by rw [← Lib.size_eq]; omega)
  rw [← Lib.size_eq] at hle
  obtain ⟨k, hk⟩ : ∃ k, k = eor isWrd s.data.toList a := ⟨_, rfl⟩
  rw [← hk] at C hge hle hlen
  clear hc hk cL hcl
  go_enter Tryd.func15, Tryd.ntmps15
  go_wp2_with fail
  go_quiet (fail)
  go_wp2_with (go_at_call 34; refine (CL.out _).mono ?_; rintro e w' ⟨rfl, rfl⟩)
  go_region_law (first | (go_simp; go_at_call 32; refine (C.out _).mono ?_; rintro e w' ⟨rfl, rfl⟩))
  all_goals go_wp2_with fail
  all_goals go_ret
  all_goals exact ⟨rfl, ⟨v, H.out.below (below_drewN (Below.refl _ _) _)⟩, below_drewN (Below.refl _ _) _⟩

set_option maxRecDepth 100000 in
set_option maxHeartbeats 1000000 in
theorem step_num (R : Nat) (s : ByteArray) (a ls line : Nat) (v : Value) (ts : List Tok) (w : World) (h : Rd w R s a line ls v ts) (h1 : ls ≤ a) (h3 : a < s.size) (hs : s.size ≤ 65536) (ht : ts.length ≤ 65536) (hl : line ≤ 65537) (hc : isDig s[a] = true) :
    Calls Tryd.prog 15 #[.pointer (some ⟨R, 0, none⟩)] w fun e w' => e = .returned (.bool true) ∧ (∃ v', Rd w' R s ((eon s.data.toList a : Nat) : Int) line ls v' (ts ++ [⟨2, (s.extract a (eon s.data.toList a)).data.toList, line, (a : Int) - ls + 1⟩])) ∧ Below R w w' := by
  have c0 := h.c0
  have c1 := h.c1
  have f1 := h.f1
  have hR := h.lt
  have H := Lib.hid h
  have b0 : (0 : Int) ≤ (a : Int) := by omega
  have b1 : (a : Int) < (s.size : Int) := by omega
  clear h
  have hcl : 48 ≤ s[a].toNat ∧ s[a].toNat ≤ 57 := by simpa [isDig] using hc
  have hl0 : isLet s[a] = false := by simp [isLet]; omega
  have t1 : ((s[a].toNat : Int) == 32) = false := by simp; omega
  have t2 : ((s[a].toNat : Int) == 9) = false := by simp; omega
  have t3 : ((s[a].toNat : Int) == 10) = false := by simp; omega
  have t4 : ((s[a].toNat : Int) == 35) = false := by simp; omega
  have cL : ∀ wx, Calls Tryd.prog 34 #[.int .u8 (s[a].toNat : Int)] wx fun e w' => e = .returned (.bool false) ∧ wx = w' := fun wx => by rw [← hl0]; exact isLetter_any _ wx
  have CL := Lib.hid cL
  have cD : ∀ wx, Calls Tryd.prog 36 #[.int .u8 (s[a].toNat : Int)] wx fun e w' => e = .returned (.bool true) ∧ wx = w' := fun wx => by rw [← hc]; exact isDigit_any _ wx
  have CD := Lib.hid cD
  have C := Lib.hid (fun wx => endOfNumber_any s a wx (by omega) (by omega))
  have hge := Nat.le_trans (eor_ge isDig s.data.toList a) (eon_ge s.data.toList a)
  have hle := eon_le s.data.toList a (by rw [← Lib.size_eq]; omega)
  rw [← Lib.size_eq] at hle
  obtain ⟨k, hk⟩ : ∃ k, k = eon s.data.toList a := ⟨_, rfl⟩
  rw [← hk] at C hge hle ⊢
  clear hc hk cL cD hcl hl0
  go_enter Tryd.func15, Tryd.ntmps15
  go_wp2_with fail
  go_quiet (fail)
  go_wp2_with (first | (go_at_call 34; refine (CL.out _).mono ?_; rintro e w' ⟨rfl, rfl⟩) | (go_at_call 36; refine (CD.out _).mono ?_; rintro e w' ⟨rfl, rfl⟩))
  go_region_law (first | (go_simp; go_at_call 37; refine (C.out _).mono ?_; rintro e w' ⟨rfl, rfl⟩) | (go_simp; go_at_call 17; refine (take_any R s a k ls line 2 v ts _ (H.out.below (below_drewN (Below.refl _ _) _)) h1 hge hle hs ht).mono ?_; rintro e w1 ⟨rfl, hr, hb⟩; have HR := Lib.hid hr; have HB := Lib.hid hb; clear hr hb))
  all_goals go_wp2_with fail
  all_goals go_ret
  all_goals exact ⟨rfl, HR.out, (below_drewN (Below.refl _ _) _).trans HB.out⟩

set_option maxRecDepth 100000 in
set_option maxHeartbeats 1000000 in
theorem step_sym (R : Nat) (s : ByteArray) (a ls line : Nat) (v : Value) (ts : List Tok) (w : World) (h : Rd w R s a line ls v ts) (h1 : ls ≤ a) (h3 : a < s.size) (hs : s.size ≤ 65536) (ht : ts.length ≤ 65536) (hl : line ≤ 65537) (hc : isSym s[a] = true) :
    Calls Tryd.prog 15 #[.pointer (some ⟨R, 0, none⟩)] w fun e w' => e = .returned (.bool true) ∧ (∃ v', Rd w' R s ((a + 1 : Nat) : Int) line ls v' (ts ++ [⟨3, (s.extract a (a + 1)).data.toList, line, (a : Int) - ls + 1⟩])) ∧ Below R w w' := by
  have c0 := h.c0
  have c1 := h.c1
  have f1 := h.f1
  have hR := h.lt
  have H := Lib.hid h
  have b0 : (0 : Int) ≤ (a : Int) := by omega
  have b1 : (a : Int) < (s.size : Int) := by omega
  clear h
  have hcl := sym_cases _ hc
  have hl0 : isLet s[a] = false := by simp [isLet]; omega
  have hd0 : isDig s[a] = false := by simp [isDig]; omega
  have t1 : ((s[a].toNat : Int) == 32) = false := by simp; omega
  have t2 : ((s[a].toNat : Int) == 9) = false := by simp; omega
  have t3 : ((s[a].toNat : Int) == 10) = false := by simp; omega
  have t4 : ((s[a].toNat : Int) == 35) = false := by simp; omega
  have cL : ∀ wx, Calls Tryd.prog 34 #[.int .u8 (s[a].toNat : Int)] wx fun e w' => e = .returned (.bool false) ∧ wx = w' := fun wx => by rw [← hl0]; exact isLetter_any _ wx
  have CL := Lib.hid cL
  have cD : ∀ wx, Calls Tryd.prog 36 #[.int .u8 (s[a].toNat : Int)] wx fun e w' => e = .returned (.bool false) ∧ wx = w' := fun wx => by rw [← hd0]; exact isDigit_any _ wx
  have CD := Lib.hid cD
  have cS : ∀ wx, Calls Tryd.prog 38 #[.int .u8 (s[a].toNat : Int)] wx fun e w' => e = .returned (.bool true) ∧ wx = w' := fun wx => by rw [← hc]; exact isSymbol_any _ wx
  have CS := Lib.hid cS
  clear hc cL cD cS hcl hl0 hd0
  go_enter Tryd.func15, Tryd.ntmps15
  go_wp2_with fail
  go_quiet (fail)
  go_wp2_with (first | (go_at_call 34; refine (CL.out _).mono ?_; rintro e w' ⟨rfl, rfl⟩) | (go_at_call 36; refine (CD.out _).mono ?_; rintro e w' ⟨rfl, rfl⟩) | (go_at_call 38; refine (CS.out _).mono ?_; rintro e w' ⟨rfl, rfl⟩))
  refine (take_any R s a (a + 1) ls line 3 v ts _ (H.out.below (below_drewN (Below.refl _ _) _)) h1 (by omega) (by omega) hs ht).mono ?_
  rintro e w1 ⟨rfl, hr, hb⟩
  have HR := Lib.hid hr
  have HB := Lib.hid hb
  clear hr hb
  go_wp2_with fail
  go_ret
  exact ⟨rfl, HR.out, (below_drewN (Below.refl _ _) _).trans HB.out⟩

set_option maxRecDepth 100000 in
set_option maxHeartbeats 1000000 in
theorem step_bad (R : Nat) (s : ByteArray) (a ls line : Nat) (v : Value) (ts : List Tok) (w : World) (h : Rd w R s a line ls v ts) (h1 : ls ≤ a) (h3 : a < s.size) (hs : s.size ≤ 65536) (ht : ts.length ≤ 65536) (hl : line ≤ 65537) (n1 : s[a].toNat ≠ 32) (n2 : s[a].toNat ≠ 9) (n3 : s[a].toNat ≠ 10) (n4 : s[a].toNat ≠ 35) (hl0 : isLet s[a] = false) (hd0 : isDig s[a] = false) (hc : isSym s[a] = false) :
    Calls Tryd.prog 15 #[.pointer (some ⟨R, 0, none⟩)] w fun e w' => e = .returned (.bool false) ∧ (∃ v', Rd w' R s a line ls v' ts) ∧ Below R w w' := by
  have c0 := h.c0
  have c1 := h.c1
  have f1 := h.f1
  have hR := h.lt
  have H := Lib.hid h
  have b0 : (0 : Int) ≤ (a : Int) := by omega
  have b1 : (a : Int) < (s.size : Int) := by omega
  clear h
  have t1 : ((s[a].toNat : Int) == 32) = false := by simp; omega
  have t2 : ((s[a].toNat : Int) == 9) = false := by simp; omega
  have t3 : ((s[a].toNat : Int) == 10) = false := by simp; omega
  have t4 : ((s[a].toNat : Int) == 35) = false := by simp; omega
  have cL : ∀ wx, Calls Tryd.prog 34 #[.int .u8 (s[a].toNat : Int)] wx fun e w' => e = .returned (.bool false) ∧ wx = w' := fun wx => by rw [← hl0]; exact isLetter_any _ wx
  have CL := Lib.hid cL
  have cD : ∀ wx, Calls Tryd.prog 36 #[.int .u8 (s[a].toNat : Int)] wx fun e w' => e = .returned (.bool false) ∧ wx = w' := fun wx => by rw [← hd0]; exact isDigit_any _ wx
  have CD := Lib.hid cD
  have cS : ∀ wx, Calls Tryd.prog 38 #[.int .u8 (s[a].toNat : Int)] wx fun e w' => e = .returned (.bool false) ∧ wx = w' := fun wx => by rw [← hc]; exact isSymbol_any _ wx
  have CS := Lib.hid cS
  clear hc cL cD cS hl0 hd0 n1 n2 n3 n4
  go_enter Tryd.func15, Tryd.ntmps15
  go_wp2_with fail
  go_quiet (fail)
  go_wp2_with (first | (go_at_call 34; refine (CL.out _).mono ?_; rintro e w' ⟨rfl, rfl⟩) | (go_at_call 36; refine (CD.out _).mono ?_; rintro e w' ⟨rfl, rfl⟩) | (go_at_call 38; refine (CS.out _).mono ?_; rintro e w' ⟨rfl, rfl⟩))
  go_ret
  exact ⟨rfl, ⟨v, H.out.below (below_drewN (Below.refl _ _) _)⟩, below_drewN (Below.refl _ _) _⟩

end Go.Proofs.YtjpjgohomajlpaaDoor
