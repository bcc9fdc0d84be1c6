/- The contract of the reference's Parse. -/
import Derived.Test.YtijgaenfhmgcoaaPrsM
import Derived.Test.YtijgaenfhmgcoaaDecH
import Derived.Deep.LoopGhost
namespace Go.Proofs.Ytijgaenfhmgcoaa
open Go.RowKit
set_option linter.unusedVariables false

theorem rdigit_any (c : UInt8) (w : World) :
    Calls Try.prog 34 #[.int .u8 (c.toNat : Int)] w fun e w' => e = .returned (.bool (isDig c)) ∧ w = w' := by
  obtain ⟨n, hn⟩ : ∃ n, n = c.toNat := ⟨_, rfl⟩
  have D : Hid (isDig c = decide (48 ≤ n ∧ n ≤ 57)) := by show isDig c = _; rw [hn]; rfl
  rw [← hn]
  clear hn
  rcases (show n < 48 ∨ (48 ≤ n ∧ n ≤ 57) ∨ 57 < n by omega) with h | ⟨h1, h2⟩ | h
  all_goals
    go_enter Try.func34, Try.ntmps34
    go_wp2
    go_ret
    exact ⟨ret_bool (by rw [D.out, Bool.eq_iff_iff]; simp; try omega), rfl⟩
theorem rdigit_yes (c : UInt8) (h : isDig c = true) (w : World) : Calls Try.prog 34 #[.int .u8 (c.toNat : Int)] w fun e w' => e = .returned (.bool true) ∧ w = w' := by
  have := rdigit_any c w; rw [h] at this; exact this
theorem rdigit_no (c : UInt8) (h : isDig c = false) (w : World) : Calls Try.prog 34 #[.int .u8 (c.toNat : Int)] w fun e w' => e = .returned (.bool false) ∧ w = w' := by
  have := rdigit_any c w; rw [h] at this; exact this

/-- a step of the accumulator, in the two cases -/
theorem acc_over {W : List UInt8} {c : UInt8} (h : 115292150460684697 < (accF W).1) : accF (W ++ [c]) = ((accF W).1, true) := by rw [accF_snoc]; unfold accS; rw [if_pos h]
theorem acc_add {W : List UInt8} {c : UInt8} (h : ¬ 115292150460684697 < (accF W).1) : accF (W ++ [c]) = (10 * (accF W).1 + (c.toNat - 48), (accF W).2) := by rw [accF_snoc]; unfold accS; rw [if_neg h]
theorem take_snoc' (D : List UInt8) (j : Nat) (h : j < D.length) : D.take (j + 1) = D.take j ++ [D[j]] := List.take_succ_eq_append_getElem h
theorem rep_snoc (k : Nat) : List.replicate (k + 1) (48 : UInt8) = List.replicate k 48 ++ [48] := List.replicate_succ'
theorem all_take {D : List UInt8} (h : D.all isDig = true) (j : Nat) : (D.take j).all isDig = true := by
  rw [List.all_eq_true] at h ⊢; exact fun c hc => h c (List.mem_of_mem_take hc)
theorem all_rep (k : Nat) : (List.replicate k (48 : UInt8)).all isDig = true := by simp [isDig]
theorem all_app {a b : List UInt8} (h : a.all isDig = true) (k : b.all isDig = true) : (a ++ b).all isDig = true := by rw [List.all_append, h, k]; rfl

/-- the bytes L stand in the string from place a on -/
def LAt (s : ByteArray) (a : Nat) (L : List UInt8) : Prop := ∃ P Q, s.data.toList = P ++ (L ++ Q) ∧ P.length = a
theorem LAt.whole (s : ByteArray) : LAt s 0 s.data.toList := ⟨[], [], by simp, rfl⟩
theorem LAt.le {s : ByteArray} {a : Nat} {L : List UInt8} (h : LAt s a L) : a + L.length ≤ s.size := by
  obtain ⟨P, Q, h1, h2⟩ := h
  rw [Lib.size_eq, h1]; simp; omega
theorem LAt.app {s : ByteArray} {a : Nat} {L M : List UInt8} (h : LAt s a (L ++ M)) : LAt s a L ∧ LAt s (a + L.length) M := by
  obtain ⟨P, Q, h1, h2⟩ := h
  exact ⟨⟨P, M ++ Q, by rw [h1]; simp, h2⟩, ⟨P ++ L, Q, by rw [h1]; simp, by simp [h2]⟩⟩
theorem LAt.get {s : ByteArray} {a : Nat} {L : List UInt8} (h : LAt s a L) (i : Nat) (h1 : a ≤ i) (h2 : i < a + L.length) : ∃ h : i < s.size, s[i]'h = L[i - a]'(by omega) := by
  have hle := h.le
  obtain ⟨P, Q, e, hp⟩ := h
  refine ⟨by omega, ?_⟩
  have : s[i]'(by omega) = s.data.toList[i]'(by rw [← Lib.size_eq]; omega) := rfl
  rw [this]
  simp only [e]
  rw [List.getElem_append_right (by omega), List.getElem_append_left (by omega)]
  congr 1; omega
theorem LAt.step {s : ByteArray} {a : Nat} {L : List UInt8} (h : LAt s a L) (i : Nat) (h1 : a ≤ i) (h2 : i < a + L.length) : ∃ h : i < s.size, L.take (i + 1 - a) = L.take (i - a) ++ [s[i]'h] ∧ s[i]'h ∈ L := by
  obtain ⟨hi, e⟩ := h.get i h1 h2
  refine ⟨hi, ?_, by rw [e]; exact List.getElem_mem _⟩
  rw [e, show i + 1 - a = (i - a) + 1 by omega]
  exact List.take_succ_eq_append_getElem (by omega)
theorem LAt.cons {s : ByteArray} {a : Nat} {c : UInt8} {L : List UInt8} (h : LAt s a (c :: L)) : (∃ h : a < s.size, s[a]'h = c) ∧ LAt s (a + 1) L := by
  obtain ⟨hi, e⟩ := h.get a (Nat.le_refl _) (by simp)
  exact ⟨⟨hi, by rw [e]; simp⟩, (LAt.app (L := [c]) (M := L) h).2⟩


/-- what is known of the string before the reference reads it: it is b bytes of a sign, the digits D, and the rest R -/
structure PS (b : Nat) (neg : Bool) (s : ByteArray) (u D R : List UInt8) (d : Nat) (pe pv : Int) : Prop where
  hs : s.size ≤ 1000000
  hd : d ≤ 9
  hAD : LAt s b D
  hAR : LAt s (b + D.length) R
  hDA : D.all isDig = true
  hD : D = dg u
  hR : R = rs u
  hRH : ∀ r Y, R = r :: Y → isDig r = false
  hul : b + (D.length + R.length) = s.size
  hE7 : E7 u d → pe = 7 ∧ pv = 0
  hOK : ¬ E7 u d → pe = (if magB (pAllU u d) = true then 0 else 5) ∧ pv = (if magB (pAllU u d) = true then (if neg = true then -(val (pAllU u d) : Int) else val (pAllU u d)) else 0)
  h0 : b = 0 → ∀ h : 0 < s.size, (s[0]'h).toNat ≠ 45
  h1 : b = 1 → ∃ h : 0 < s.size, (s[0]'h).toNat = 45

theorem ps_of (s : ByteArray) (d : Nat) (hs : s.size ≤ 1000000) (hd : d ≤ 9) : ∃ b u D R, (b = 0 ∨ b = 1) ∧ PS b (decide (b = 1)) s u D R d (pErr s.data.toList d) (pVal s.data.toList d) := by
  have hsz := Lib.size_eq s
  have hwh := LAt.whole s
  obtain ⟨l, hl⟩ : ∃ l, l = s.data.toList := ⟨_, rfl⟩
  rw [← hl] at hsz hwh ⊢
  have key : ∃ b, (b = 0 ∨ b = 1) ∧ Lib.hasPrefix l [45] = decide (b = 1) ∧ LAt s b (pU l) ∧ b + (pU l).length = s.size ∧ (b = 0 → ∀ h : 0 < s.size, (s[0]'h).toNat ≠ 45) ∧ (b = 1 → ∃ h : 0 < s.size, (s[0]'h).toNat = 45) := by
    cases hp : Lib.hasPrefix l [45]
    · have hu : pU l = l := by unfold pU Lib.trimPrefix; rw [hp]; rfl
      refine ⟨0, Or.inl rfl, rfl, by rw [hu]; exact hwh, by rw [hu, hsz]; omega, fun _ h => ?_, fun h => by cases h⟩
      cases l with
      | nil => exact absurd h (by rw [hsz]; simp)
      | cons c r =>
        obtain ⟨h', e⟩ := hwh.cons.1
        rw [e]
        intro e3
        have : c = 45 := by rw [← UInt8.toNat_inj]; exact e3
        subst this; simp [Lib.hasPrefix, List.isPrefixOf] at hp
    · have hpos : ∃ r, l = 45 :: r := by
        cases l with
        | nil => simp [Lib.hasPrefix, List.isPrefixOf] at hp
        | cons c r =>
          have : c = 45 := by simp [Lib.hasPrefix, List.isPrefixOf] at hp; exact hp.symm
          subst this; exact ⟨r, rfl⟩
      obtain ⟨r, hlr⟩ := hpos
      rw [hlr] at hwh
      obtain ⟨⟨hp0, hp1⟩, hwr⟩ := hwh.cons
      have hu : pU l = r := by unfold pU Lib.trimPrefix; rw [hp, hlr]; rfl
      exact ⟨1, Or.inr rfl, rfl, by rw [hu]; exact hwr, by rw [hu, hsz, hlr]; simp; omega, (fun h => by cases h), fun _ => ⟨hp0, by rw [hp1]; rfl⟩⟩
  obtain ⟨b, hb, hp, hwu, hul, k0, k1⟩ := key
  have hE7 := fun h => p_e7 l d h
  have hOK := fun h => p_ok l d h
  rw [hp] at hOK
  obtain ⟨u, hu0⟩ : ∃ u, u = pU l := ⟨_, rfl⟩
  rw [← hu0] at hE7 hOK hwu hul
  have hdr := dg_rs u
  rw [← hdr] at hwu hul
  rw [List.length_append] at hul
  obtain ⟨hAD, hAR⟩ := hwu.app
  exact ⟨b, u, dg u, rs u, hb, hs, hd, hAD, hAR, dg_all u, rfl, rfl, fun r Y h => rs_head h, hul, hE7, hOK, k0, k1⟩

end Go.Proofs.Ytijgaenfhmgcoaa
