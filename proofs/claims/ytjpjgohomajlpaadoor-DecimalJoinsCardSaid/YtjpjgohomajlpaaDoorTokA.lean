/- Contracts of isLetter, isSymbol, endOfNumber, Clone, and position. -/
import Derived.Test.YtjpjgohomajlpaaDoorDecI
import Derived.WalkSmall
import Derived.RegionTactic
import Derived.ChangeAlike
import Derived.BigRegion
namespace Go.Proofs.YtjpjgohomajlpaaDoor
open Go.RowKit
set_option linter.unusedVariables false

theorem isLetter_any (c : UInt8) (w : World) :
    Calls Tryd.prog 34 #[.int .u8 (c.toNat : Int)] w fun e w' => e = .returned (.bool (isLet c)) ∧ w = w' := by
  obtain ⟨n, hn⟩ : ∃ n, n = c.toNat := ⟨_, rfl⟩
  have D : Hid (isLet c = decide ((97 ≤ n ∧ n ≤ 122) ∨ (65 ≤ n ∧ n ≤ 90))) := by show isLet c = _; rw [hn]; rfl
  rw [← hn]
  clear hn
  rcases (show n < 65 ∨ (65 ≤ n ∧ n ≤ 90) ∨ (90 < n ∧ n < 97) ∨ (97 ≤ n ∧ n ≤ 122) ∨ 122 < n by omega) with h | ⟨h1, h2⟩ | ⟨h1, h2⟩ | ⟨h1, h2⟩ | h
  all_goals
    go_enter Tryd.func34, Tryd.ntmps34
    go_wp2
    go_ret
    exact ⟨ret_bool (by rw [D.out, Bool.eq_iff_iff]; simp; try omega), rfl⟩

def syms : List UInt8 := [45, 43, 58, 44, 59, 47, 61, 40, 41, 60, 62, 42, 64, 63]
def isSym (c : UInt8) : Bool := decide (0 ≤ Lib.indexByte syms c)
theorem indexByte_mem (l : List UInt8) (c : UInt8) : 0 ≤ Lib.indexByte l c ↔ c ∈ l := by
  induction l with
  | nil => simp [Lib.indexByte]
  | cons b l ih =>
    have := Lib.indexByte_ge l c
    rw [Lib.indexByte]
    by_cases h : b = c
    · subst h; simp
    · have h' : (b == c) = false := by simp [h]
      rw [h', if_neg (by simp)]
      by_cases h2 : Lib.indexByte l c = -1
      · rw [h2]
        rw [h2] at ih
        have hc : c ∉ l := by rw [← ih]; omega
        simp [hc]; exact fun e => h e.symm
      · have h3 : (Lib.indexByte l c == -1) = false := by simp [h2]
        rw [h3, if_neg (by simp)]
        have hc : c ∈ l := by rw [← ih]; omega
        simp [hc]; omega
theorem isSym_iff (c : UInt8) : isSym c = decide (c ∈ syms) := by
  unfold isSym; rw [Bool.eq_iff_iff]; simp only [decide_eq_true_eq]; exact indexByte_mem _ _

theorem isSymbol_any (c : UInt8) (w : World) :
    Calls Tryd.prog 38 #[.int .u8 (c.toNat : Int)] w fun e w' => e = .returned (.bool (isSym c)) ∧ w = w' := by
  have h : ∀ wx, Calls Tryd.prog 50 #[.string ⟨#[45, 43, 58, 44, 59, 47, 61, 40, 41, 60, 62, 42, 64, 63]⟩, .int .u8 (c.toNat : Int)] wx fun e w' => e = .returned (.int .i64 (Lib.indexByte syms c)) ∧ wx = w' := by
    intro wx
    refine (Tryd.strings_IndexByte _ _ wx).mono fun _ _ h => ⟨?_, h.2.symm⟩
    rw [h.1]
    have : ((c.toNat : Int).toNat.toUInt8) = c := by simp
    rw [this]; rfl
  have H := Lib.hid h
  have D : Hid (isSym c = decide (0 ≤ Lib.indexByte syms c)) := rfl
  clear h
  obtain ⟨i, hi⟩ : ∃ i, i = Lib.indexByte syms c := ⟨_, rfl⟩
  rw [← hi] at H D
  clear hi
  go_enter Tryd.func38, Tryd.ntmps38
  go_wp2_with (go_at_call 50; refine (H.out _).mono ?_; rintro e w' ⟨rfl, rfl⟩)
  go_ret
  exact ⟨ret_bool (by rw [D.out]; try simp), rfl⟩

/-- where a number ends -/
def eon (l : List UInt8) (a : Nat) : Nat :=
  if eor isDig l a + 1 < l.length ∧ (l.getD (eor isDig l a) 0) = 46 ∧ isDig (l.getD (eor isDig l a + 1) 0) = true then eor isDig l (eor isDig l a + 1) else eor isDig l a
theorem eon_le (l : List UInt8) (a : Nat) (h : a ≤ l.length) : eon l a ≤ l.length := by
  unfold eon; split
  · exact eor_le _ _ _ (by omega)
  · exact eor_le _ _ _ h
theorem eon_ge (l : List UInt8) (a : Nat) : eor isDig l a ≤ eon l a := by
  unfold eon; split
  · have := eor_ge isDig l (eor isDig l a + 1); omega
  · exact Nat.le_refl _

set_option maxHeartbeats 400000 in
theorem endOfNumber_any (s : ByteArray) (a : Nat) (w : World) (hs : s.size ≤ 4611686018427387904) (ha : a ≤ s.size) :
    Calls Tryd.prog 37 #[.string s, .int .i64 (a : Int)] w fun e w' => e = .returned (.int .i64 (eon s.data.toList a : Nat)) ∧ w = w' := by
  have hE := eor_le isDig s.data.toList a (by rw [← Lib.size_eq]; exact ha)
  rw [← Lib.size_eq] at hE
  have C := Lib.hid (fun wx => endOfRun_dig s a wx hs ha)
  obtain ⟨k, hk⟩ : ∃ k, k = eor isDig s.data.toList a := ⟨_, rfl⟩
  obtain ⟨r, hr⟩ : ∃ r, r = eon s.data.toList a := ⟨_, rfl⟩
  rw [← hr]
  unfold eon at hr
  rw [← hk, ← Lib.size_eq] at hr
  rw [← hk] at C hE
  clear hk
  by_cases h1 : k + 1 < s.size
  · have e1 : s.data.toList.getD k 0 = s[k] := by
      rw [List.getD_eq_getElem?_getD, List.getElem?_eq_getElem (by simpa using (show k < s.size by omega))]; rfl
    have e2 : s.data.toList.getD (k + 1) 0 = s[k + 1] := by
      rw [List.getD_eq_getElem?_getD, List.getElem?_eq_getElem (by simpa using h1)]; rfl
    rw [e1, e2] at hr
    have cD : ∀ wx, Calls Tryd.prog 36 #[.int .u8 ((s[k + 1]).toNat : Int)] wx fun e w' => e = .returned (.bool (isDig s[k + 1])) ∧ wx = w' := isDigit_any _
    by_cases h2 : s[k].toNat = 46
    · have h2' : s[k] = 46 := by rw [← UInt8.toNat_inj]; exact h2
      have h3 : ((s[k].toNat : Int) == 46) = true := by simp [h2]
      cases hd : isDig s[k + 1]
      · rw [hd] at cD hr
        obtain rfl : r = k := by rw [hr, if_neg (by simp)]
        have CD := Lib.hid cD
        clear cD hr e1 e2 hd h2 h2'
        go_enter Tryd.func37, Tryd.ntmps37
        go_wp2_with (first | (go_at_call 32; refine (C.out _).mono ?_; rintro e w' ⟨rfl, rfl⟩) | (go_at_call 36; refine (CD.out _).mono ?_; rintro e w' ⟨rfl, rfl⟩))
        go_ret
        exact ⟨rfl, rfl⟩
      · rw [hd] at cD hr
        obtain ⟨q, hq⟩ : ∃ q, q = eor isDig s.data.toList (k + 1) := ⟨_, rfl⟩
        have C2 := Lib.hid (fun wx => endOfRun_dig s (k + 1) wx hs (by omega))
        rw [← hq] at C2 hr
        obtain rfl : r = q := by rw [hr, if_pos ⟨h1, h2', rfl⟩]
        have CD := Lib.hid cD
        clear cD hr e1 e2 hd h2 h2' hq
        go_enter Tryd.func37, Tryd.ntmps37
        go_wp2_with fail
        refine (C.out _).mono ?_
        rintro e w' ⟨rfl, rfl⟩
        go_wp2_with (go_at_call 36; refine (CD.out _).mono ?_; rintro e w' ⟨rfl, rfl⟩)
        refine (C2.out _).mono ?_
        rintro e w' ⟨rfl, rfl⟩
        go_wp2_with fail
        go_ret
        exact ⟨rfl, rfl⟩
    · have h2' : ¬ s[k] = 46 := fun h => h2 (by rw [h]; rfl)
      have h3 : ((s[k].toNat : Int) == 46) = false := by simp; omega
      obtain rfl : r = k := by rw [hr, if_neg (fun h => h2' h.2.1)]
      clear cD hr e1 e2 h2 h2'
      go_enter Tryd.func37, Tryd.ntmps37
      go_wp2_with (first | (go_at_call 32; refine (C.out _).mono ?_; rintro e w' ⟨rfl, rfl⟩))
      go_ret
      exact ⟨rfl, rfl⟩
  · obtain rfl : r = k := by rw [hr, if_neg (fun h => h1 h.1)]
    clear hr
    go_enter Tryd.func37, Tryd.ntmps37
    go_wp2_with (first | (go_at_call 32; refine (C.out _).mono ?_; rintro e w' ⟨rfl, rfl⟩))
    go_ret
    exact ⟨rfl, rfl⟩

set_option maxHeartbeats 400000 in
theorem clone_any (s : ByteArray) (w : World) (hs : s.size ≤ 281474976710656) :
    Calls Tryd.prog 39 #[.string s] w fun e w' => e = .returned (.string s) ∧ Below w.heap.size w w' := by
  go_enter Tryd.func39, Tryd.ntmps39
  go_wp2_with (go_at_call 51; refine (Tryd.stringslite_Clone s _ hs).mono ?_; rintro e w' ⟨rfl, hb⟩)
  go_ret
  exact ⟨rfl, hb⟩

end Go.Proofs.YtjpjgohomajlpaaDoor
