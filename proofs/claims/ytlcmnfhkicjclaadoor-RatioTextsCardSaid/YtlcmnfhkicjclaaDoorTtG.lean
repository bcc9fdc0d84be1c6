/- The reference's Parse, by the text. -/
import Derived.Test.YtlcmnfhkicjclaaDoorTtF
namespace Go.Proofs.YtlcmnfhkicjclaaDoor
open Go.RowKit
set_option linter.unusedVariables false

theorem run_pre (m : Nat) (R : List UInt8) (hm : m ≤ 1073741824) (hR : R = [] ∨ ∃ Y, R = 47 :: Y) : run 11 (Lib.decDigits m ++ R) 0 = (m, (Lib.decDigits m).length) := by
  have hl := dec_len m 9 (by omega)
  rcases hR with rfl | ⟨Y, rfl⟩
  · rw [List.append_nil]; exact run_dec m 11 (by omega)
  · rw [run_end _ _ _ not_dgt_47 11 0 (by omega) (dec_all m)]
    exact run_dec m 11 (by omega)
/-- what stands behind the numerator -/
def tl (d : Int) : List UInt8 := if d = 1 then [] else 47 :: Lib.decDigits d.toNat
theorem tl_case (d : Int) : tl d = [] ∨ ∃ Y, tl d = 47 :: Y := by
  unfold tl
  split
  · exact Or.inl rfl
  · exact Or.inr ⟨_, rfl⟩
theorem rtx_tl (n d : Int) (h : 1 ≤ d) : rtx n d = Lib.itoa n ++ tl d := by
  have e : Lib.itoa d = Lib.decDigits d.toNat := by unfold Lib.itoa; rw [if_neg (by omega)]
  unfold rtx tl
  split
  · simp
  · rw [e]
/-- behind the numerator: the candidate's denominator and end -/
theorem tail_yes (s : ByteArray) (n d : Int) (p : List UInt8) (m : Nat) (hs : s.data.toList = p ++ (Lib.decDigits m ++ tl d)) (h3 : 1 ≤ d) (h4 : d ≤ 1073741824) :
    ∃ (D2 : Int) (N2 K2 K : Nat), D2 = d ∧ K = s.size ∧ ((D2 = 1 ∧ K = p.length + (Lib.decDigits m).length ∧ (s.size ≤ p.length + (Lib.decDigits m).length ∨ ∃ h : p.length + (Lib.decDigits m).length < s.size, (s[p.length + (Lib.decDigits m).length]'h).toNat ≠ 47)) ∨
      (D2 = (N2 : Int) ∧ K = K2 ∧ (run 11 (s.data.toList.drop (p.length + (Lib.decDigits m).length + 1)) 0).1 = N2 ∧ (p.length + (Lib.decDigits m).length + 1) + (run 11 (s.data.toList.drop (p.length + (Lib.decDigits m).length + 1)) 0).2 = K2 ∧ ∃ h : p.length + (Lib.decDigits m).length < s.size, (s[p.length + (Lib.decDigits m).length]'h).toNat = 47)) := by
  have hsz : s.size = s.data.toList.length := by simp
  by_cases h1 : d = 1
  · have ht : tl d = [] := by unfold tl; rw [if_pos h1]
    rw [ht] at hs
    have hl : s.size = p.length + (Lib.decDigits m).length := by rw [hsz, hs]; simp
    exact ⟨d, 0, 0, s.size, rfl, rfl, Or.inl ⟨h1, hl, Or.inl (by omega)⟩⟩
  · have ht : tl d = 47 :: Lib.decDigits d.toNat := by unfold tl; rw [if_neg h1]
    rw [ht] at hs
    have hl : s.size = p.length + (Lib.decDigits m).length + 1 + (Lib.decDigits d.toNat).length := by rw [hsz, hs]; simp; omega
    have hd : s.data.toList.drop (p.length + (Lib.decDigits m).length + 1) = Lib.decDigits d.toNat := by
      rw [hs, ← List.append_assoc, show p.length + (Lib.decDigits m).length + 1 = (p ++ Lib.decDigits m).length + 1 by simp, List.drop_append]
      simp
    have hk : p.length + (Lib.decDigits m).length < s.size := by omega
    have h47 : s[p.length + (Lib.decDigits m).length]'hk = 47 := by
      have e : s[p.length + (Lib.decDigits m).length]'hk = s.data.toList[p.length + (Lib.decDigits m).length]'(by rw [← hsz]; exact hk) := rfl
      rw [e]
      simp only [hs]
      rw [List.getElem_append_right (by omega), List.getElem_append_right (by omega)]
      simp
    have hr := run_dec d.toNat 11 (by have := dec_len d.toNat 9 (by omega); omega)
    refine ⟨d, d.toNat, s.size, s.size, rfl, rfl, Or.inr ⟨by omega, rfl, ?_, ?_, hk, by rw [h47]; rfl⟩⟩
    · rw [hd, hr]
    · rw [hd, hr]; show _ + (Lib.decDigits d.toNat).length = _; omega
theorem ba_toList (l : List UInt8) : (ba l).data.toList = l := by simp [ba]
theorem ba_of (s : ByteArray) (l : List UInt8) (h : s.data.toList = l) : ba l = s := by
  subst h
  unfold ba
  apply ByteArray.ext
  simp

theorem rparse_yes (n d : Int) (w : World) (hk : rok n d = true) :
    Calls Tryd.prog 38 #[.string (ba (rtx n d))] w fun e w' => e = .returned (.tuple #[.agg #[.int .i64 n, .int .i64 d], .bool true]) ∧ Below w.heap.size w w' := by
  have hk2 := (rok_iff _ _).1 hk
  obtain ⟨k1, k2, k3, k4, -⟩ := hk2
  obtain ⟨s, hs⟩ : ∃ s, s = ba (rtx n d) := ⟨_, rfl⟩
  rw [← hs]
  have hl : s.data.toList = Lib.itoa n ++ tl d := by rw [hs, ba_toList, rtx_tl n d k3]
  have hlen : s.size ≤ 100 := by rw [hs, ba_size]; exact rtx_len n d k1 k2 k3 k4
  have hsz : s.size = s.data.toList.length := by simp
  by_cases hn : n < 0
  · have e : Lib.itoa n = [45] ++ Lib.decDigits n.natAbs := by unfold Lib.itoa; rw [if_pos hn]; rfl
    rw [e, List.append_assoc] at hl
    obtain ⟨D2, N2, K2, K, e1, e2, e3⟩ := tail_yes s n d [45] n.natAbs hl k3 k4
    have hp : 0 < s.size := by rw [hsz, hl]; simp
    have h0 : s[0]'hp = 45 := by
      have e : s[0]'hp = s.data.toList[0]'(by rw [← hsz]; exact hp) := rfl
      rw [e]; simp only [hl]; rfl
    have hr : run 11 (s.data.toList.drop 1) 0 = (n.natAbs, (Lib.decDigits n.natAbs).length) := by
      rw [hl]; exact run_pre _ _ (by omega) (tl_case d)
    exact rp_2 s w (by omega) hp (by rw [h0]; rfl) n D2 n d n.natAbs (1 + (Lib.decDigits n.natAbs).length) N2 K2 K true (by rw [hr]) (by rw [hr]) (by omega) e3 (by subst e1; exact Or.inr (Or.inr (Or.inr ⟨e2, hk, hs.symm, rfl, rfl, rfl⟩)))
  · have e : Lib.itoa n = [] ++ Lib.decDigits n.toNat := by unfold Lib.itoa; rw [if_neg hn]; rfl
    rw [e, List.append_assoc] at hl
    obtain ⟨D2, N2, K2, K, e1, e2, e3⟩ := tail_yes s n d [] n.toNat hl k3 k4
    have hd1 := dec_pos n.toNat
    have hp : 0 < s.size := by rw [hsz, hl]; simp; omega
    have h0 : (s[0]'hp).toNat ≠ 45 := by
      have e : s[0]'hp = s.data.toList[0]'(by rw [← hsz]; exact hp) := rfl
      rw [e]
      have : s.data.toList[0]'(by rw [← hsz]; exact hp) = (Lib.decDigits n.toNat)[0]'(by omega) := by
        simp only [hl, List.nil_append]
        rw [List.getElem_append_left]
      rw [this]
      exact (dgt_ne (List.all_eq_true.1 (dec_all n.toNat) _ (List.getElem_mem _))).2.1
    have hr : run 11 (s.data.toList.drop 0) 0 = (n.toNat, (Lib.decDigits n.toNat).length) := by
      rw [hl]; exact run_pre _ _ (by omega) (tl_case d)
    simp only [List.length_nil, Nat.zero_add] at e3
    exact rp_1 s w (by omega) hp h0 n D2 n d n.toNat (Lib.decDigits n.toNat).length N2 K2 K true (by rw [hr]) (by rw [hr]; simp) (by omega) e3 (by subst e1; exact Or.inr (Or.inr (Or.inr ⟨e2, hk, hs.symm, rfl, rfl, rfl⟩)))

theorem tail_no (s : ByteArray) (n : Int) (K1 : Nat) (hno : ∀ n d, rok n d = true → ba (rtx n d) ≠ s) :
    ∃ (D2 : Int) (N2 K2 K : Nat), ((D2 = 1 ∧ K = K1 ∧ (s.size ≤ K1 ∨ ∃ h : K1 < s.size, (s[K1]'h).toNat ≠ 47)) ∨ (D2 = (N2 : Int) ∧ K = K2 ∧ (run 11 (s.data.toList.drop (K1 + 1)) 0).1 = N2 ∧ (K1 + 1) + (run 11 (s.data.toList.drop (K1 + 1)) 0).2 = K2 ∧ ∃ h : K1 < s.size, (s[K1]'h).toNat = 47)) ∧
      ((K ≠ s.size ∧ (0 : Int) = 0 ∧ (0 : Int) = 0 ∧ false = false) ∨ (K = s.size ∧ rok n D2 = false ∧ (0 : Int) = 0 ∧ (0 : Int) = 0 ∧ false = false) ∨ (K = s.size ∧ rok n D2 = true ∧ ba (rtx n D2) ≠ s ∧ (0 : Int) = 0 ∧ (0 : Int) = 0 ∧ false = false) ∨ (K = s.size ∧ rok n D2 = true ∧ ba (rtx n D2) = s ∧ (0 : Int) = n ∧ (0 : Int) = D2 ∧ false = true)) := by
  have fin : ∀ (D2 : Int) (K : Nat), ((K ≠ s.size ∧ (0 : Int) = 0 ∧ (0 : Int) = 0 ∧ false = false) ∨ (K = s.size ∧ rok n D2 = false ∧ (0 : Int) = 0 ∧ (0 : Int) = 0 ∧ false = false) ∨ (K = s.size ∧ rok n D2 = true ∧ ba (rtx n D2) ≠ s ∧ (0 : Int) = 0 ∧ (0 : Int) = 0 ∧ false = false) ∨ (K = s.size ∧ rok n D2 = true ∧ ba (rtx n D2) = s ∧ (0 : Int) = n ∧ (0 : Int) = D2 ∧ false = true)) := by
    intro D2 K
    by_cases hK : K = s.size
    · cases hr : rok n D2
      · exact Or.inr (Or.inl ⟨hK, rfl, rfl, rfl, rfl⟩)
      · exact Or.inr (Or.inr (Or.inl ⟨hK, rfl, hno n D2 hr, rfl, rfl, rfl⟩))
    · exact Or.inl ⟨hK, rfl, rfl, rfl⟩
  by_cases h : K1 < s.size
  · by_cases h47 : (s[K1]'h).toNat = 47
    · exact ⟨_, _, _, _, Or.inr ⟨rfl, rfl, rfl, rfl, h, h47⟩, fin _ _⟩
    · exact ⟨1, 0, 0, K1, Or.inl ⟨rfl, rfl, Or.inr ⟨h, h47⟩⟩, fin _ _⟩
  · exact ⟨1, 0, 0, K1, Or.inl ⟨rfl, rfl, Or.inl (by omega)⟩, fin _ _⟩
theorem rparse_no (s : ByteArray) (w : World) (hs : s.size ≤ 4294967000) (hno : ∀ n d, rok n d = true → ba (rtx n d) ≠ s) :
    Calls Tryd.prog 38 #[.string s] w fun e w' => e = .returned (.tuple #[.agg #[.int .i64 0, .int .i64 0], .bool false]) ∧ Below w.heap.size w w' := by
  by_cases hp : 0 < s.size
  · by_cases h0 : (s[0]'hp).toNat = 45
    · obtain ⟨D2, N2, K2, K, e1, e2⟩ := tail_no s (-((run 11 (s.data.toList.drop 1) 0).1 : Int)) (1 + (run 11 (s.data.toList.drop 1) 0).2) hno
      exact rp_2 s w hs hp h0 _ D2 0 0 _ _ N2 K2 K false rfl rfl rfl e1 e2
    · obtain ⟨D2, N2, K2, K, e1, e2⟩ := tail_no s ((run 11 (s.data.toList.drop 0) 0).1 : Int) (0 + (run 11 (s.data.toList.drop 0) 0).2) hno
      exact rp_1 s w hs hp h0 _ D2 0 0 _ _ N2 K2 K false rfl rfl rfl e1 e2
  · have e : s = ⟨#[]⟩ := by
      apply ByteArray.ext
      exact Array.eq_empty_of_size_eq_zero (by have : s.data.size = s.size := rfl; omega)
    subst e
    exact rp_0 w
end Go.Proofs.YtlcmnfhkicjclaaDoor
