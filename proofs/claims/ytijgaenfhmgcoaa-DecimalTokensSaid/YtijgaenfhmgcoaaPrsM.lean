/- How the reference reads a number, as plain functions; and that Parse's plain function says the same. -/
import Derived.Test.YtijgaenfhmgcoaaFmtM
namespace Go.Proofs.Ytijgaenfhmgcoaa
open Go.RowKit
set_option linter.unusedVariables false

/-- the reference's accumulator: a number, and whether it was too great -/
def accS (x : Nat × Bool) (c : UInt8) : Nat × Bool := if 115292150460684697 < x.1 then (x.1, true) else (10 * x.1 + (c.toNat - 48), x.2)
def accF (l : List UInt8) : Nat × Bool := l.foldl accS (0, false)
theorem accF_snoc (l : List UInt8) (c : UInt8) : accF (l ++ [c]) = accS (accF l) c := by unfold accF; simp
theorem isDig_iff {c : UInt8} : isDig c = true ↔ 48 ≤ c.toNat ∧ c.toNat ≤ 57 := by unfold isDig; rw [decide_eq_true_eq]

theorem snoc_ind {p : List UInt8 → Prop} (h0 : p []) (h1 : ∀ l c, p l → p (l ++ [c])) (l : List UInt8) : p l := by
  have : ∀ n (l : List UInt8), l.length = n → p l := by
    intro n
    induction n with
    | zero => intro l h; rw [List.length_eq_zero_iff] at h; subst h; exact h0
    | succ n ih =>
      intro l h
      obtain ⟨q, x, rfl⟩ : ∃ q x, l = q ++ [x] := ⟨l.dropLast, l.getLast (by intro e; simp [e] at h), (List.dropLast_concat_getLast _).symm⟩
      exact h1 q x (ih q (by simpa using h))
  exact this _ l rfl

/-- what the accumulator is worth -/
theorem accF_spec (l : List UInt8) (h : l.all isDig = true) :
    (accF l).1 ≤ 1152921504606846979 ∧ ((accF l).2 = false → (accF l).1 = val l) ∧ ((accF l).2 = true → 1152921504606846976 < val l ∧ 115292150460684697 < (accF l).1) := by
  revert h
  refine snoc_ind (p := fun l => l.all isDig = true → (accF l).1 ≤ 1152921504606846979 ∧ ((accF l).2 = false → (accF l).1 = val l) ∧ ((accF l).2 = true → 1152921504606846976 < val l ∧ 115292150460684697 < (accF l).1)) ?_ ?_ l
  · intro _; simp [accF, val]
  · intro l c ih h
    simp only [List.all_append, List.all_cons, List.all_nil, Bool.and_true, Bool.and_eq_true] at h
    obtain ⟨i1, i2, i3⟩ := ih h.1
    have hc := isDig_iff.1 h.2
    rw [accF_snoc, val_snoc]
    generalize accF l = x at *
    obtain ⟨n, b⟩ := x
    simp only at i1 i2 i3
    unfold accS
    simp only
    split
    · rename_i hb
      refine ⟨i1, (fun h => by cases h), fun _ => ⟨?_, hb⟩⟩
      cases b
      · have := i2 rfl; omega
      · have := i3 rfl; omega
    · rename_i hb
      refine ⟨by simp only; omega, ?_, ?_⟩
      · intro hf; simp only at hf ⊢; rw [i2 hf]
      · intro hf; simp only at hf; have := i3 hf; omega
theorem acc_big (l : List UInt8) (h : l.all isDig = true) : ((accF l).2 = true ∨ 1152921504606846976 < (accF l).1) ↔ 1152921504606846976 < val l := by
  obtain ⟨h1, h2, h3⟩ := accF_spec l h
  cases hb : (accF l).2
  · rw [h2 hb]; simp
  · simp [(h3 hb).1]

/-- the form of the unsigned part is wrong -/
def E7 (u : List UInt8) (d : Nat) : Prop := whlB (Lib.cut u [46]).1 = false ∨ ((Lib.cut u [46]).2.2 = true ∧ frcB (Lib.cut u [46]).2.1 d = false)
def pAllU (u : List UInt8) (d : Nat) : List UInt8 := (Lib.cut u [46]).1 ++ (Lib.cut u [46]).2.1 ++ List.replicate (d - (Lib.cut u [46]).2.1.length) 48

def dg (u : List UInt8) : List UInt8 := u.takeWhile isDig
def rs (u : List UInt8) : List UInt8 := u.dropWhile isDig
theorem dg_rs (u : List UInt8) : dg u ++ rs u = u := List.takeWhile_append_dropWhile
theorem dg_all (u : List UInt8) : (dg u).all isDig = true := List.all_takeWhile
theorem rs_head {u : List UInt8} {r : UInt8} {Y : List UInt8} (h : rs u = r :: Y) : isDig r = false := by
  unfold rs at h
  have := List.head?_dropWhile_not (p := isDig) (l := u)
  rw [h] at this
  simpa using this

theorem cut_dot (D Y : List UInt8) (h : D.all isDig = true) : Lib.cut (D ++ 46 :: Y) [46] = (D, Y, true) := by
  rw [cut_pt]
  have t := takeW D Y (all_npt h)
  rw [t.1, t.2.1, t.2.2]; rfl
theorem cut_all (D : List UInt8) (h : D.all isDig = true) : Lib.cut D [46] = (D, [], false) := by
  rw [cut_pt, take_all _ _ (all_npt h), drop_all _ _ (all_npt h), all_npt h]; rfl
theorem whl_no {l : List UInt8} (h : l.all isDig = false) : whlB l = false := by unfold whlB digB; rw [h]; simp
theorem cut_other (D Y : List UInt8) (r : UInt8) (h : D.all isDig = true) (hr : isDig r = false) (h46 : r ≠ 46) : whlB (Lib.cut (D ++ r :: Y) [46]).1 = false := by
  apply whl_no
  rw [cut_pt]
  have hn : nPt r = true := by unfold nPt; rw [bne_iff_ne]; exact h46
  have : (D ++ r :: Y).takeWhile nPt = D ++ r :: Y.takeWhile nPt := by
    rw [List.takeWhile_append_of_pos (fun x hx => List.all_eq_true.1 (all_npt h) x hx), List.takeWhile_cons, if_pos hn]
  simp only [this, List.all_append, List.all_cons, hr, Bool.false_and, Bool.and_false]

theorem e7_head (u : List UInt8) (d : Nat) (h : dg u = [] ∨ (1 < (dg u).length ∧ (dg u).head? = some 48)) : E7 u d := by
  left
  have e := dg_rs u
  have ha := dg_all u
  have hw : whlB (dg u) = false := by
    rcases h with h | h
    · rw [h]; rfl
    · unfold whlB; rw [h.2]; simp; intro _; omega
  cases hR : rs u with
  | nil => rw [hR, List.append_nil] at e; rw [← e, cut_all _ ha]; exact hw
  | cons r Y =>
    rw [hR] at e
    by_cases h46 : r = 46
    · subst h46; rw [← e, cut_dot _ _ ha]; exact hw
    · rw [← e]; exact cut_other _ _ _ ha (rs_head hR) h46
theorem e7_other (u : List UInt8) (d : Nat) (r : UInt8) (Y : List UInt8) (hR : rs u = r :: Y) (h46 : r ≠ 46) : E7 u d := by
  left
  have e := dg_rs u
  rw [hR] at e
  rw [← e]; exact cut_other _ _ _ (dg_all u) (rs_head hR) h46
theorem e7_frac (u : List UInt8) (d : Nat) (Y : List UInt8) (hR : rs u = 46 :: Y) (h : Y = [] ∨ d < Y.length ∨ Y.all isDig = false) : E7 u d := by
  right
  have e := dg_rs u
  rw [hR] at e
  rw [← e, cut_dot _ _ (dg_all u)]
  refine ⟨rfl, ?_⟩
  unfold frcB digB
  rcases h with h | h | h
  · subst h; rfl
  · have : decide (Y.length ≤ d) = false := by simp; omega
    simp only [this, Bool.and_false]
  · simp only [h, Bool.and_false, Bool.false_and]
theorem whl_yes (u : List UInt8) (h0 : dg u ≠ []) (h1 : ¬ (1 < (dg u).length ∧ (dg u).head? = some 48)) : whlB (dg u) = true := by
  unfold whlB digB
  rw [dg_all]
  cases hd : dg u with
  | nil => exact absurd hd h0
  | cons c r =>
    rw [hd] at h1
    simp only [List.length_cons, List.head?_cons, Option.some.injEq] at h1
    simp only [List.isEmpty_cons, Bool.not_false, Bool.and_true, Bool.true_and, List.length_cons, List.head?_cons, Bool.or_eq_true, decide_eq_true_eq, ne_eq, Option.some.injEq]
    by_cases hc : c = 48
    · left
      rcases Nat.eq_zero_or_pos r.length with h | h
      · omega
      · exact absurd ⟨by omega, hc⟩ h1
    · right; exact hc
theorem ok_whole (u : List UInt8) (d : Nat) (h0 : dg u ≠ []) (h1 : ¬ (1 < (dg u).length ∧ (dg u).head? = some 48)) (hR : rs u = []) : ¬ E7 u d ∧ pAllU u d = dg u ++ List.replicate d 48 := by
  have e := dg_rs u
  rw [hR, List.append_nil] at e
  have hw := whl_yes u h0 h1
  have hc : Lib.cut u [46] = (dg u, [], false) := by conv => lhs; rw [← e]
                                                     exact cut_all _ (dg_all u)
  unfold E7 pAllU
  rw [hc]
  refine ⟨?_, by simp⟩
  rintro (h | ⟨h, _⟩)
  · rw [hw] at h; cases h
  · cases h
theorem ok_frac (u : List UInt8) (d : Nat) (Y : List UInt8) (h0 : dg u ≠ []) (h1 : ¬ (1 < (dg u).length ∧ (dg u).head? = some 48)) (hR : rs u = 46 :: Y) (hY0 : Y ≠ []) (hYd : Y.length ≤ d) (hYa : Y.all isDig = true) :
    ¬ E7 u d ∧ pAllU u d = dg u ++ Y ++ List.replicate (d - Y.length) 48 := by
  have e := dg_rs u
  rw [hR] at e
  have hw := whl_yes u h0 h1
  have hc : Lib.cut u [46] = (dg u, Y, true) := by conv => lhs; rw [← e]
                                                   exact cut_dot _ _ (dg_all u)
  unfold E7 pAllU
  rw [hc]
  refine ⟨?_, rfl⟩
  rintro (h | ⟨_, h⟩)
  · rw [hw] at h; cases h
  · have : frcB Y d = true := by
      unfold frcB digB; rw [hYa]
      cases Y with
      | nil => exact absurd rfl hY0
      | cons a b => simpa using hYd
    rw [this] at h; cases h

/-- Parse's plain function, by the form of the unsigned part -/
theorem p_e7 (l : List UInt8) (d : Nat) (h : E7 (pU l) d) : pErr l d = 7 ∧ pVal l d = 0 := by
  have he : pErr l d = 7 := by unfold pErr; exact if_pos h
  exact ⟨he, by unfold pVal; rw [he]; rfl⟩
theorem p_ok (l : List UInt8) (d : Nat) (h : ¬ E7 (pU l) d) : pErr l d = (if magB (pAllU (pU l) d) = true then 0 else 5) ∧ pVal l d = (if magB (pAllU (pU l) d) = true then (if Lib.hasPrefix l [45] = true then -(val (pAllU (pU l) d) : Int) else val (pAllU (pU l) d)) else 0) := by
  have he : pErr l d = (if magB (pAllU (pU l) d) = true then 0 else 5) := by unfold pErr; exact if_neg h
  refine ⟨he, ?_⟩
  unfold pVal
  rw [he]
  cases magB (pAllU (pU l) d)
  · rfl
  · rfl

end Go.Proofs.Ytijgaenfhmgcoaa
