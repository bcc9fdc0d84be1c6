/- Contracts of the reference's letter, Symbol, IsName, and of IsName. -/
import Derived.Test.YtijgaenfhmgcoaaTokD
import Derived.Test.YtijgaenfhmgcoaaPrsW
namespace Go.Proofs.Ytijgaenfhmgcoaa
open Go.RowKit
set_option linter.unusedVariables false

theorem rletter_any (c : UInt8) (w : World) :
    Calls Try.prog 44 #[.int .u8 (c.toNat : Int)] w fun e w' => e = .returned (.bool (isLet c)) ∧ w = w' := by
  obtain ⟨n, hn⟩ : ∃ n, n = c.toNat := ⟨_, rfl⟩
  have D : Hid (isLet c = decide ((97 ≤ n ∧ n ≤ 122) ∨ (65 ≤ n ∧ n ≤ 90))) := by show isLet c = _; rw [hn]; rfl
  rw [← hn]
  clear hn
  rcases (show n < 65 ∨ (65 ≤ n ∧ n ≤ 90) ∨ (90 < n ∧ n < 97) ∨ (97 ≤ n ∧ n ≤ 122) ∨ 122 < n by omega) with h | ⟨h1, h2⟩ | ⟨h1, h2⟩ | ⟨h1, h2⟩ | h
  all_goals
    go_enter Try.func44, Try.ntmps44
    go_wp2
    go_ret
    exact ⟨ret_bool (by rw [D.out, Bool.eq_iff_iff]; simp; try omega), rfl⟩
theorem rletter_is (c : UInt8) (b : Bool) (h : isLet c = b) (w : World) : Calls Try.prog 44 #[.int .u8 (c.toNat : Int)] w fun e w' => e = .returned (.bool b) ∧ w = w' := by
  have := rletter_any c w; rw [h] at this; exact this
theorem rdigit_is (c : UInt8) (b : Bool) (h : isDig c = b) (w : World) : Calls Try.prog 34 #[.int .u8 (c.toNat : Int)] w fun e w' => e = .returned (.bool b) ∧ w = w' := by
  have := rdigit_any c w; rw [h] at this; exact this

theorem isSym_not (c : UInt8) (h : ∀ j, j < 14 → (syms.getD j 0).toNat ≠ c.toNat) : isSym c = false := by
  rw [isSym_iff]
  simp only [decide_eq_false_iff_not]
  intro hm
  obtain ⟨j, hj, e⟩ := List.getElem_of_mem hm
  have h14 : j < 14 := hj
  refine h j h14 ?_
  rw [List.getD_eq_getElem?_getD, List.getElem?_eq_getElem hj]
  simp [e]
theorem isSym_at (c : UInt8) (j : Nat) (hj : j < 14) (h : (syms.getD j 0).toNat = c.toNat) : isSym c = true := by
  rw [isSym_iff, decide_eq_true_eq]
  have e : syms.getD j 0 = c := by rw [← UInt8.toNat_inj]; exact h
  have hl : j < syms.length := hj
  rw [← e, List.getD_eq_getElem?_getD, List.getElem?_eq_getElem hl]
  exact List.getElem_mem hl

set_option maxHeartbeats 2000000 in
theorem rsymbol_any (c : UInt8) (w : World) :
    Calls Try.prog 61 #[.int .u8 (c.toNat : Int)] w fun e w' => e = .returned (.bool (isSym c)) ∧ w = w' := by
  have NO := Lib.hid (isSym_not c)
  have AT := Lib.hid (isSym_at c)
  obtain ⟨n, hn⟩ : ∃ n, n = c.toNat := ⟨_, rfl⟩
  rw [← hn] at NO AT ⊢
  obtain ⟨b, hb⟩ : ∃ b, b = isSym c := ⟨_, rfl⟩
  rw [← hb] at NO AT ⊢
  clear hn hb
  go_enter Try.func61, Try.ntmps61
  go_wp2_with fail
  go_loopg [4] 14 (fun m v wr => w = wr ∧ ∃ i : Nat, m = 14 - i ∧ i ≤ 14 ∧ v = .int .i64 (i : Int) ∧ Hid (∀ j, j < i → (syms.getD j 0).toNat ≠ n))
  case atStart => exact ⟨rfl, 0, rfl, by omega, rfl, fun j hj => absurd hj (by omega)⟩
  case round =>
    obtain ⟨rfl, i, hgk, hi, rfl, HJ⟩ := hrel
    have HGK := Lib.hid hgk
    clear hgk
    by_cases hlt : i < 14
    · have hlt' : i < (ByteArray.mk #[45, 43, 58, 44, 59, 47, 61, 40, 41, 60, 62, 42, 64, 63]).size := hlt
      have he : (syms.getD i 0).toNat = ((ByteArray.mk #[45, 43, 58, 44, 59, 47, 61, 40, 41, 60, 62, 42, 64, 63])[i]'hlt').toNat := by
        have : syms.getD i 0 = syms[i]'hlt := getD_get syms i hlt
        rw [this]; rfl
      by_cases hc : (syms.getD i 0).toNat = n
      · obtain rfl : b = true := AT.out i hlt hc
        have t : ((((ByteArray.mk #[45, 43, 58, 44, 59, 47, 61, 40, 41, 60, 62, 42, 64, 63])[i]'hlt').toNat : Int) == (n : Int)) = true := beq_iff_eq.2 (by rw [← he, hc])
        clear hc he
        go_wp2_with fail
        go_ret
        exact ⟨rfl, rfl⟩
      · have t : ((((ByteArray.mk #[45, 43, 58, 44, 59, 47, 61, 40, 41, 60, 62, 42, 64, 63])[i]'hlt').toNat : Int) == (n : Int)) = false := beq_eq_false_iff_ne.2 (by rw [← he]; exact fun e => hc (Int.ofNat_inj.1 e))
        have HC := Lib.hid hc
        clear hc he
        go_wp2_with fail
        go_roundg (14 - (i + 1))
        case rel => exact ⟨rfl, i + 1, rfl, by omega, by go_num, fun j hj => by
          rcases Nat.lt_or_ge j i with h | h
          · exact HJ.out j h
          · obtain rfl : j = i := by omega
            exact HC.out⟩
        case measure => have := HGK.out; omega
    · obtain rfl : i = 14 := by omega
      obtain rfl : b = false := NO.out HJ.out
      go_wp2_with fail
      go_ret
      exact ⟨rfl, rfl⟩

/-- whether a string is a name -/
def nameB (l : List UInt8) : Bool := decide (l ≠ []) && decide (l.length ≤ 20) && isLet (l.getD 0 0) && l.all isWrd

set_option maxHeartbeats 1000000 in
theorem isName_any (s : ByteArray) (w : World) (hs : s.size ≤ 4611686018427387904) :
    Calls Try.prog 21 #[.string s] w fun e w' => e = .returned (.bool (nameB s.data.toList)) ∧ w = w' := by
  have hsz := Lib.size_eq s
  have hem : s.toList.isEmpty = decide (s.size = 0) := by
    rw [Lib.toList_data, hsz]
    cases s.data.toList <;> simp
  by_cases h0 : s.size = 0
  · have D : Hid (nameB s.data.toList = false) := by
      show _ = _
      have : s.data.toList = [] := by rw [← List.length_eq_zero_iff, ← hsz]; exact h0
      rw [this]; rfl
    have e1 : (!s.toList.isEmpty) = false := by rw [hem]; simp [h0]
    clear h0 hem hsz
    go_enter Try.func21, Try.ntmps21
    go_wp2_with fail
    go_ret
    exact ⟨ret_bool (by rw [D.out]), rfl⟩
  have e1 : (!s.toList.isEmpty) = true := by rw [hem]; simp [h0]
  have hpos : 0 < s.size := by omega
  have hne : decide (s.data.toList ≠ []) = true := by
    rw [decide_eq_true_eq]; intro e; rw [hsz, e] at hpos; exact absurd hpos (by simp)
  by_cases h20 : 20 < s.size
  · have D : Hid (nameB s.data.toList = false) := by
      show _ = _
      unfold nameB
      have : decide (s.data.toList.length ≤ 20) = false := by rw [← hsz]; simp; omega
      rw [this]; simp
    clear h0 hem hsz hne
    go_enter Try.func21, Try.ntmps21
    go_wp2_with fail
    go_ret
    exact ⟨ret_bool (by rw [D.out]), rfl⟩
  have hle : s.size ≤ 20 := by omega
  have h20' : decide (s.data.toList.length ≤ 20) = true := by rw [← hsz]; simp; omega
  have hg0 : s.data.toList.getD 0 0 = s[0] := getD_get _ _ (by rw [← hsz]; exact hpos)
  cases hl : isLet s[0]
  · have D : Hid (nameB s.data.toList = false) := by show _ = _; unfold nameB; rw [hg0, hl]; simp
    have CL : Hid (∀ wx, Calls Try.prog 41 #[.int .u8 ((s[0]).toNat : Int)] wx fun e w' => e = .returned (.bool false) ∧ wx = w') := by intro wx; have := isLetter_any s[0] wx; rw [hl] at this; exact this
    clear h0 hem hsz hne h20' hg0 hl h20
    go_enter Try.func21, Try.ntmps21
    go_wp2_with (go_at_call 41; refine (CL.out _).mono ?_; rintro e w' ⟨rfl, rfl⟩)
    go_ret
    exact ⟨ret_bool (by rw [D.out]), rfl⟩
  · have D : Hid (nameB s.data.toList = decide (eor isWrd s.data.toList 0 = s.size)) := by
      show _ = _
      have e := eor_zero isWrd s.data.toList
      rw [← hsz] at e
      unfold nameB; rw [hg0, hl, hne, h20', e]; rfl
    have CL : Hid (∀ wx, Calls Try.prog 41 #[.int .u8 ((s[0]).toNat : Int)] wx fun e w' => e = .returned (.bool true) ∧ wx = w') := by intro wx; have := isLetter_any s[0] wx; rw [hl] at this; exact this
    have CR := Lib.hid (fun wx => endOfRun_wrd s 0 wx hs (by omega))
    have hle2 := eor_le isWrd s.data.toList 0 (by omega)
    rw [← hsz] at hle2
    clear h0 hem hsz hne h20' hg0 hl h20
    go_enter Try.func21, Try.ntmps21
    go_wp2_with (first | (go_at_call 41; refine (CL.out _).mono ?_; rintro e w' ⟨rfl, rfl⟩) | (go_at_call 42; refine (CR.out _).mono ?_; rintro e w' ⟨rfl, rfl⟩))
    go_ret
    exact ⟨ret_bool (by rw [D.out, Bool.eq_iff_iff]; simp; try omega), rfl⟩

theorem wrd_split (c : UInt8) : isWrd c = true ↔ isLet c = true ∨ isDig c = true ∨ c.toNat = 95 := by simp [isWrd, isLet, isDig]

set_option maxHeartbeats 1000000 in
theorem rIsName_any (s : ByteArray) (w : World) (hs : s.size ≤ 4611686018427387904) :
    Calls Try.prog 22 #[.string s] w fun e w' => e = .returned (.bool (nameB s.data.toList)) ∧ w = w' := by
  have hsz := Lib.size_eq s
  by_cases h0 : s.size = 0
  · have D : Hid (nameB s.data.toList = false) := by
      show _ = _
      have : s.data.toList = [] := by rw [← List.length_eq_zero_iff, ← hsz]; exact h0
      rw [this]; rfl
    have e1 : ((s.size : Int) == 0) = true := by simp [h0]
    have H0 := Lib.hid h0
    clear h0 hsz
    go_enter Try.func22, Try.ntmps22
    go_wp2_with fail
    go_ret
    exact ⟨ret_bool (by rw [D.out]), rfl⟩
  have e1 : ((s.size : Int) == 0) = false := beq_eq_false_iff_ne.2 (by omega)
  have hpos : 0 < s.size := by omega
  have hne : decide (s.data.toList ≠ []) = true := by
    rw [decide_eq_true_eq]; intro e; rw [hsz, e] at hpos; exact absurd hpos (by simp)
  by_cases h20 : 20 < s.size
  · have D : Hid (nameB s.data.toList = false) := by
      show _ = _
      unfold nameB
      have : decide (s.data.toList.length ≤ 20) = false := by rw [← hsz]; simp; omega
      rw [this]; simp
    clear h0 hsz hne
    go_enter Try.func22, Try.ntmps22
    go_wp2_with fail
    go_ret
    exact ⟨ret_bool (by rw [D.out]), rfl⟩
  have hle : s.size ≤ 20 := by omega
  have h20' : decide (s.data.toList.length ≤ 20) = true := by rw [← hsz]; simp; omega
  have hg0 : s.data.toList.getD 0 0 = s[0] := getD_get _ _ (by rw [← hsz]; exact hpos)
  cases hl : isLet s[0]
  · have D : Hid (nameB s.data.toList = false) := by show _ = _; unfold nameB; rw [hg0, hl]; simp
    have CL := Lib.hid (fun wx => rletter_is s[0] false hl wx)
    clear h0 hsz hne h20' hg0 hl h20
    go_enter Try.func22, Try.ntmps22
    go_wp2_with (go_at_call 44; refine (CL.out _).mono ?_; rintro e w' ⟨rfl, rfl⟩)
    go_ret
    exact ⟨ret_bool (by rw [D.out]), rfl⟩
  · have D : Hid (nameB s.data.toList = s.data.toList.all isWrd) := by
      show _ = _
      unfold nameB; rw [hg0, hl, hne, h20']; rfl
    have CL := Lib.hid (fun wx => rletter_is s[0] true hl wx)
    have HSZ := Lib.hid hsz
    clear h0 hsz hne h20' hg0 hl h20
    go_enter Try.func22, Try.ntmps22
    go_wp2_with (go_at_call 44; refine (CL.out _).mono ?_; rintro e w' ⟨rfl, rfl⟩)
    go_loopg [3] s.size (fun m v wr => w = wr ∧ ∃ i : Nat, m = s.size - i ∧ i ≤ s.size ∧ v = .int .i64 (i : Int) ∧ Hid ((s.data.toList.take i).all isWrd = true))
    case atStart => exact ⟨rfl, 0, rfl, by omega, rfl, rfl⟩
    case round =>
      obtain ⟨rfl, i, hgk, hi, rfl, HA⟩ := hrel
      have HGK := Lib.hid hgk
      clear hgk CL
      by_cases hlt : i < s.size
      · have hlt' : i < s.data.toList.length := by rw [← HSZ.out]; exact hlt
        have hst : Hid (s.data.toList.take (i + 1) = s.data.toList.take i ++ [s[i]'hlt]) := by show _ = _; rw [List.take_succ_eq_append_getElem hlt']; rfl
        have hmem : Hid (s[i]'hlt ∈ s.data.toList) := List.getElem_mem hlt'
        clear hlt'
        cases hw : isWrd (s[i]'hlt)
        · have D2 : Hid (s.data.toList.all isWrd = false) := by
            show _ = _
            rw [List.all_eq_false]
            exact ⟨_, hmem.out, by simp [hw]⟩
          have n1 : isLet (s[i]'hlt) = false := by cases h : isLet (s[i]'hlt); rfl; rw [(wrd_split _).2 (Or.inl h)] at hw; cases hw
          have n2 : isDig (s[i]'hlt) = false := by cases h : isDig (s[i]'hlt); rfl; rw [(wrd_split _).2 (Or.inr (Or.inl h))] at hw; cases hw
          have n3 : (((s[i]'hlt).toNat : Int) != 95) = true := by rw [bne_iff_ne]; intro e; rw [(wrd_split _).2 (Or.inr (Or.inr (by omega)))] at hw; cases hw
          have CL := Lib.hid (fun wx => rletter_is (s[i]'hlt) false n1 wx)
          have CD := Lib.hid (fun wx => rdigit_is (s[i]'hlt) false n2 wx)
          clear n1 n2 hw
          go_wp2_with (first | (go_at_call 44; refine (CL.out _).mono ?_; rintro e w' ⟨rfl, rfl⟩) | (go_at_call 34; refine (CD.out _).mono ?_; rintro e w' ⟨rfl, rfl⟩))
          go_ret
          exact ⟨ret_bool (by rw [D.out, D2.out]), rfl⟩
        · have HA2 : Hid ((s.data.toList.take (i + 1)).all isWrd = true) := by show _ = _; rw [hst.out, List.all_append, HA.out]; simp [hw]
          have CL := Lib.hid (fun wx => rletter_any (s[i]'hlt) wx)
          have CD := Lib.hid (fun wx => rdigit_any (s[i]'hlt) wx)
          have hcl := (wrd_split _).1 hw
          clear hw
          cases n1 : isLet (s[i]'hlt)
          · rw [n1] at CL
            cases n2 : isDig (s[i]'hlt)
            · rw [n2] at CD
              have n3 : (((s[i]'hlt).toNat : Int) != 95) = false := by
                rcases hcl with h | h | h
                · rw [n1] at h; cases h
                · rw [n2] at h; cases h
                · rw [h]; rfl
              clear n1 n2 hcl
              go_wp2_with (first | (go_at_call 44; refine (CL.out _).mono ?_; rintro e w' ⟨rfl, rfl⟩) | (go_at_call 34; refine (CD.out _).mono ?_; rintro e w' ⟨rfl, rfl⟩))
              go_roundg (s.size - (i + 1))
              case rel => exact ⟨rfl, i + 1, rfl, by omega, by go_num, HA2⟩
              case measure => have := HGK.out; omega
            · rw [n2] at CD
              clear n1 n2 hcl
              go_wp2_with (first | (go_at_call 44; refine (CL.out _).mono ?_; rintro e w' ⟨rfl, rfl⟩) | (go_at_call 34; refine (CD.out _).mono ?_; rintro e w' ⟨rfl, rfl⟩))
              go_roundg (s.size - (i + 1))
              case rel => exact ⟨rfl, i + 1, rfl, by omega, by go_num, HA2⟩
              case measure => have := HGK.out; omega
          · rw [n1] at CL
            clear n1 hcl
            go_wp2_with (first | (go_at_call 44; refine (CL.out _).mono ?_; rintro e w' ⟨rfl, rfl⟩) | (go_at_call 34; refine (CD.out _).mono ?_; rintro e w' ⟨rfl, rfl⟩))
            go_roundg (s.size - (i + 1))
            case rel => exact ⟨rfl, i + 1, rfl, by omega, by go_num, HA2⟩
            case measure => have := HGK.out; omega
      · have D2 : Hid (s.data.toList.all isWrd = true) := by
          show _ = _
          have := HA.out
          rw [List.take_of_length_le (by rw [← HSZ.out]; omega)] at this
          exact this
        have hge : s.size ≤ i := by omega
        go_wp2_with fail
        go_ret
        exact ⟨ret_bool (by rw [D.out, D2.out]), rfl⟩

end Go.Proofs.Ytijgaenfhmgcoaa
