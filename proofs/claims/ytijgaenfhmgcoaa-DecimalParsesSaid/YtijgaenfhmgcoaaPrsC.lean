/- The contract of the reference's Parse, joined; and that what Parse returns fits. -/
import Derived.Test.YtijgaenfhmgcoaaPrsE0
import Derived.Test.YtijgaenfhmgcoaaPrsE1
import Derived.Test.YtijgaenfhmgcoaaPrsR0
import Derived.Test.YtijgaenfhmgcoaaPrsR1
namespace Go.Proofs.Ytijgaenfhmgcoaa
open Go.RowKit
set_option linter.unusedVariables false

theorem rparse_b0 (s : ByteArray) (u D R : List UInt8) (d : Nat) (pe pv : Int) (w : World) (hP : PS 0 false s u D R d pe pv) :
    Calls Try.prog 13 #[.string s, .int .i64 (d : Int)] w fun e w' => e = .returned (.tuple #[.int .i64 pv, .int .i64 pe]) ∧ w = w' := by
  obtain ⟨q, hq⟩ : ∃ q, q = 0 + D.length := ⟨_, rfl⟩
  have hul := hP.hul
  have hAR := hP.hAR
  rw [← hq] at hAR
  have hend : s.size ≤ q ∨ ∃ h : q < s.size, isDig (s[q]'h) = false := by
    cases hRc : R with
    | nil => left; rw [hRc] at hul; simp at hul; omega
    | cons r Y =>
      right
      rw [hRc] at hAR
      obtain ⟨⟨h, e⟩, _⟩ := hAR.cons
      exact ⟨h, by rw [e]; exact hP.hRH r Y hRc⟩
  by_cases h0 : D = []
  · exact rp0_none s u D R d q pe pv w hP hq (by rw [hq, h0]; simp) hend (hP.hE7 (e7_head u d (Or.inl (hP.hD.symm.trans h0))))
  have hDpos : 0 < D.length := List.length_pos_iff.2 h0
  obtain ⟨hbs, hbe⟩ := hP.hAD.get 0 (Nat.le_refl _) (by omega)
  have hhd : D.head? = some (s[0]'hbs) := by
    rw [hbe, List.head?_eq_getElem?, List.getElem?_eq_getElem hDpos]
  by_cases h1 : 1 < D.length ∧ D.head? = some 48
  · refine rp0_zero s u D R d q pe pv w hP hq (by omega) hbs ?_ hend (hP.hE7 (e7_head u d (Or.inr (by rw [← hP.hD]; exact h1))))
    have := hhd.symm.trans h1.2
    simp only [Option.some.injEq] at this
    simp [this]
  have hf : q ≤ 0 + 1 ∨ (0 + 1 < q ∧ ((s[0].toNat : Int) == 48) = false) := by
    by_cases h2 : 1 < D.length
    · right
      have h3 : s[0] ≠ 48 := fun e => h1 ⟨h2, by rw [hhd, e]⟩
      have h4 : s[0].toNat ≠ 48 := fun e => h3 (by rw [← UInt8.toNat_inj]; exact e)
      exact ⟨by omega, by simp; omega⟩
    · left; omega
  have H0 : dg u ≠ [] := by rw [← hP.hD]; exact h0
  have H1 : ¬ (1 < (dg u).length ∧ (dg u).head? = some 48) := by rw [← hP.hD]; exact h1
  have hq0 : 0 < q := by omega
  cases hRc : R with
  | nil =>
    have hR0 : rs u = [] := hP.hR.symm.trans hRc
    have hok := ok_whole u d H0 H1 hR0
    have hOK := hP.hOK hok.1
    rw [hok.2, ← hP.hD] at hOK
    exact rp0_whole s u D R d q pe pv w hP hq hq0 hbs hf (by rw [hRc] at hul; simp at hul; omega) _ rfl (by simpa using hOK)
  | cons r Y =>
    have hrd := hP.hRH r Y hRc
    have hRr : rs u = r :: Y := hP.hR.symm.trans hRc
    rw [hRc] at hAR
    obtain ⟨⟨hqs, hqe⟩, hAY⟩ := hAR.cons
    have hYl : q + 1 + Y.length = s.size := by rw [hRc] at hul; simp at hul; omega
    have hnd : isDig s[q] = false := by rw [hqe]; exact hrd
    by_cases h46 : r = 46
    · subst h46
      have t46 : ((s[q].toNat : Int) != 46) = false := by rw [hqe]; rfl
      by_cases hbad : Y = [] ∨ d < Y.length
      · refine rp0_len s u D R d q pe pv w hP hq hq0 hbs hf hqs hnd t46 ?_ (hP.hE7 (e7_frac u d Y hRr (hbad.elim Or.inl (fun h => Or.inr (Or.inl h)))))
        rcases hbad with h | h
        · left; rw [h] at hYl; simp at hYl; omega
        · right; omega
      have hY0 : Y ≠ [] := fun h => hbad (Or.inl h)
      have hYd : Y.length ≤ d := Nat.le_of_not_lt (fun h => hbad (Or.inr h))
      have hYp := List.length_pos_iff.2 hY0
      cases hYa : Y.all isDig
      · have hyr := dg_rs Y
        have hza := dg_all Y
        cases hr2 : rs Y with
        | nil => rw [hr2, List.append_nil] at hyr; rw [← hyr, hza] at hYa; cases hYa
        | cons r2 Y2 =>
        have hr2d := rs_head hr2
        rw [hr2] at hyr
        have hAY' := hAY
        rw [← hyr] at hAY'
        obtain ⟨hAZ, hAR2⟩ := hAY'.app
        obtain ⟨⟨hxs, hxe⟩, _⟩ := hAR2.cons
        have hzl := congrArg List.length hyr
        simp at hzl
        exact rp0_bad s u D R d q pe pv w hP hq hq0 hbs hf hqs hnd t46 (by omega) (by omega) (dg Y) hAZ hza hxs (fun h => by rw [hxe]; exact hr2d) (by omega) (hP.hE7 (e7_frac u d Y hRr (Or.inr (Or.inr hYa))))
      · have hok := ok_frac u d Y H0 H1 hRr hY0 hYd hYa
        have hOK := hP.hOK hok.1
        rw [hok.2, ← hP.hD] at hOK
        exact rp0_frac s u D R d q pe pv w hP hq hq0 hbs hf hqs hnd t46 (by omega) (by omega) Y hAY hYa hYl hYd _ rfl (by simpa using hOK)
    · refine rp0_other s u D R d q pe pv w hP hq hq0 hbs hf hqs hnd ?_ (hP.hE7 (e7_other u d r Y hRr h46))
      rw [hqe, bne_iff_ne]
      intro e
      have h3 : r.toNat = 46 := by omega
      exact h46 (by rw [← UInt8.toNat_inj]; exact h3)

theorem rparse_b1 (s : ByteArray) (u D R : List UInt8) (d : Nat) (pe pv : Int) (w : World) (hP : PS 1 true s u D R d pe pv) :
    Calls Try.prog 13 #[.string s, .int .i64 (d : Int)] w fun e w' => e = .returned (.tuple #[.int .i64 pv, .int .i64 pe]) ∧ w = w' := by
  obtain ⟨q, hq⟩ : ∃ q, q = 1 + D.length := ⟨_, rfl⟩
  have hul := hP.hul
  have hAR := hP.hAR
  rw [← hq] at hAR
  have hend : s.size ≤ q ∨ ∃ h : q < s.size, isDig (s[q]'h) = false := by
    cases hRc : R with
    | nil => left; rw [hRc] at hul; simp at hul; omega
    | cons r Y =>
      right
      rw [hRc] at hAR
      obtain ⟨⟨h, e⟩, _⟩ := hAR.cons
      exact ⟨h, by rw [e]; exact hP.hRH r Y hRc⟩
  by_cases h0 : D = []
  · exact rp1_none s u D R d q pe pv w hP hq (by rw [hq, h0]; simp) hend (hP.hE7 (e7_head u d (Or.inl (hP.hD.symm.trans h0))))
  have hDpos : 0 < D.length := List.length_pos_iff.2 h0
  obtain ⟨hbs, hbe⟩ := hP.hAD.get 1 (Nat.le_refl _) (by omega)
  have hhd : D.head? = some (s[1]'hbs) := by
    rw [hbe, List.head?_eq_getElem?, List.getElem?_eq_getElem hDpos]
  by_cases h1 : 1 < D.length ∧ D.head? = some 48
  · refine rp1_zero s u D R d q pe pv w hP hq (by omega) hbs ?_ hend (hP.hE7 (e7_head u d (Or.inr (by rw [← hP.hD]; exact h1))))
    have := hhd.symm.trans h1.2
    simp only [Option.some.injEq] at this
    simp [this]
  have hf : q ≤ 1 + 1 ∨ (1 + 1 < q ∧ ((s[1].toNat : Int) == 48) = false) := by
    by_cases h2 : 1 < D.length
    · right
      have h3 : s[1] ≠ 48 := fun e => h1 ⟨h2, by rw [hhd, e]⟩
      have h4 : s[1].toNat ≠ 48 := fun e => h3 (by rw [← UInt8.toNat_inj]; exact e)
      exact ⟨by omega, by simp; omega⟩
    · left; omega
  have H0 : dg u ≠ [] := by rw [← hP.hD]; exact h0
  have H1 : ¬ (1 < (dg u).length ∧ (dg u).head? = some 48) := by rw [← hP.hD]; exact h1
  have hq0 : 1 < q := by omega
  cases hRc : R with
  | nil =>
    have hR0 : rs u = [] := hP.hR.symm.trans hRc
    have hok := ok_whole u d H0 H1 hR0
    have hOK := hP.hOK hok.1
    rw [hok.2, ← hP.hD] at hOK
    exact rp1_whole s u D R d q pe pv w hP hq hq0 hbs hf (by rw [hRc] at hul; simp at hul; omega) _ rfl (by simpa using hOK)
  | cons r Y =>
    have hrd := hP.hRH r Y hRc
    have hRr : rs u = r :: Y := hP.hR.symm.trans hRc
    rw [hRc] at hAR
    obtain ⟨⟨hqs, hqe⟩, hAY⟩ := hAR.cons
    have hYl : q + 1 + Y.length = s.size := by rw [hRc] at hul; simp at hul; omega
    have hnd : isDig s[q] = false := by rw [hqe]; exact hrd
    by_cases h46 : r = 46
    · subst h46
      have t46 : ((s[q].toNat : Int) != 46) = false := by rw [hqe]; rfl
      by_cases hbad : Y = [] ∨ d < Y.length
      · refine rp1_len s u D R d q pe pv w hP hq hq0 hbs hf hqs hnd t46 ?_ (hP.hE7 (e7_frac u d Y hRr (hbad.elim Or.inl (fun h => Or.inr (Or.inl h)))))
        rcases hbad with h | h
        · left; rw [h] at hYl; simp at hYl; omega
        · right; omega
      have hY0 : Y ≠ [] := fun h => hbad (Or.inl h)
      have hYd : Y.length ≤ d := Nat.le_of_not_lt (fun h => hbad (Or.inr h))
      have hYp := List.length_pos_iff.2 hY0
      cases hYa : Y.all isDig
      · have hyr := dg_rs Y
        have hza := dg_all Y
        cases hr2 : rs Y with
        | nil => rw [hr2, List.append_nil] at hyr; rw [← hyr, hza] at hYa; cases hYa
        | cons r2 Y2 =>
        have hr2d := rs_head hr2
        rw [hr2] at hyr
        have hAY' := hAY
        rw [← hyr] at hAY'
        obtain ⟨hAZ, hAR2⟩ := hAY'.app
        obtain ⟨⟨hxs, hxe⟩, _⟩ := hAR2.cons
        have hzl := congrArg List.length hyr
        simp at hzl
        exact rp1_bad s u D R d q pe pv w hP hq hq0 hbs hf hqs hnd t46 (by omega) (by omega) (dg Y) hAZ hza hxs (fun h => by rw [hxe]; exact hr2d) (by omega) (hP.hE7 (e7_frac u d Y hRr (Or.inr (Or.inr hYa))))
      · have hok := ok_frac u d Y H0 H1 hRr hY0 hYd hYa
        have hOK := hP.hOK hok.1
        rw [hok.2, ← hP.hD] at hOK
        exact rp1_frac s u D R d q pe pv w hP hq hq0 hbs hf hqs hnd t46 (by omega) (by omega) Y hAY hYa hYl hYd _ rfl (by simpa using hOK)
    · refine rp1_other s u D R d q pe pv w hP hq hq0 hbs hf hqs hnd ?_ (hP.hE7 (e7_other u d r Y hRr h46))
      rw [hqe, bne_iff_ne]
      intro e
      have h3 : r.toNat = 46 := by omega
      exact h46 (by rw [← UInt8.toNat_inj]; exact h3)

theorem rparse_any (s : ByteArray) (d : Nat) (w : World) (hs : s.size ≤ 1000000) (hd : d ≤ 9) :
    Calls Try.prog 13 #[.string s, .int .i64 (d : Int)] w fun e w' => e = .returned (.tuple #[.int .i64 (pVal s.data.toList d), .int .i64 (pErr s.data.toList d)]) ∧ w = w' := by
  obtain ⟨b, u, D, R, hb, hP⟩ := ps_of s d hs hd
  rcases hb with rfl | rfl
  · exact rparse_b0 s u D R d _ _ w hP
  · exact rparse_b1 s u D R d _ _ w hP

theorem pVal_fits (l : List UInt8) (d : Nat) : fitsB (pVal l d) = true := by
  rw [fits_iff]
  unfold pVal
  by_cases h : pErr l d = 0
  · rw [if_pos h]
    have hm : magB (pAll l d) = true := by
      unfold pErr at h
      split at h
      · cases h
      · split at h
        · assumption
        · cases h
    unfold magB at hm
    rw [decide_eq_true_eq] at hm
    split <;> omega
  · rw [if_neg h]; omega

end Go.Proofs.Ytijgaenfhmgcoaa
