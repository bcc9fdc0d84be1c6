/- Angle: what the reference's Parse reads, as plain lists of bytes; its digit. -/
import Derived.Test.YtgcoddjjkcdfmaaGreatDoorAnH
namespace Go.Proofs.YtgcoddjjkcdfmaaGreatDoor
open Go.RowKit
set_option linter.unusedVariables false

theorem rdigit (X : Nat) (w : World) :
    Calls Tryz.prog 62 #[.int .u8 (X : Int)] w fun e w' => e = .returned (.bool (decide (48 ≤ X ∧ X ≤ 57))) ∧ w' = w := by
  obtain ⟨r, hr⟩ : ∃ r, decide (48 ≤ X ∧ X ≤ 57) = r := ⟨_, rfl⟩
  rw [hr]
  have D := Lib.hid hr
  clear hr
  rcases (show X < 48 ∨ (48 ≤ X ∧ X ≤ 57) ∨ 57 < X by omega) with h | ⟨h1, h2⟩ | h
  all_goals
    go_enter Tryz.func62, Tryz.ntmps62
    go_wp2
    go_ret
    exact ⟨ret_bool (by rw [← D.out, Bool.eq_iff_iff]; simp; try omega), rfl⟩
theorem rdigit_is (X : Nat) (r : Bool) (h : decide (48 ≤ X ∧ X ≤ 57) = r) (w : World) :
    Calls Tryz.prog 62 #[.int .u8 (X : Int)] w fun e w' => e = .returned (.bool r) ∧ w' = w := h ▸ rdigit X w
theorem isDig_is (c : UInt8) : isDig c = decide (48 ≤ c.toNat ∧ c.toNat ≤ 57) := rfl

/-- the degrees, as far as they are kept -/
def accD (l : List UInt8) : Nat := l.foldl (fun d c => if d ≤ 1099511627776 then 10 * d + (c.toNat - 48) else d) 0
theorem accD_snoc (l : List UInt8) (c : UInt8) : accD (l ++ [c]) = if accD l ≤ 1099511627776 then 10 * accD l + (c.toNat - 48) else accD l := by unfold accD; simp
theorem snoc_ind {p : List UInt8 → Prop} (h0 : p []) (h1 : ∀ l c, p l → p (l ++ [c])) (l : List UInt8) : p l := by
  have : ∀ r : List UInt8, p r.reverse := by
    intro r
    induction r with
    | nil => exact h0
    | cons c r ih => rw [List.reverse_cons]; exact h1 _ _ ih
  have := this l.reverse
  rw [List.reverse_reverse] at this
  exact this
theorem accD_bd (l : List UInt8) : accD l ≤ 10995116278000 := by
  refine snoc_ind (p := fun l => accD l ≤ 10995116278000) (by decide) (fun l c ih => ?_) l
  rw [accD_snoc]
  have : c.toNat < 256 := c.toNat_lt
  split <;> omega
theorem accD_val (l : List UInt8) : accD l = val l ∨ (1099511627776 < accD l ∧ 1099511627776 < val l) := by
  refine snoc_ind (p := fun l => accD l = val l ∨ (1099511627776 < accD l ∧ 1099511627776 < val l)) (.inl rfl) (fun l c ih => ?_) l
  rw [accD_snoc, val_snoc]
  split <;> omega
theorem accD_big (l : List UInt8) : 18325193 < accD l ↔ 18325193 < val l := by have := accD_val l; omega
theorem accD_ok (l : List UInt8) (h : ¬ 18325193 < accD l) : accD l = val l := by have := accD_val l; omega

/-- the bytes L stand in the string from place a on -/
def LAt (s : ByteArray) (a : Nat) (L : List UInt8) : Prop := ∃ P Q, s.data.toList = P ++ (L ++ Q) ∧ P.length = a
theorem LAt.whole (s : ByteArray) : LAt s 0 s.data.toList := ⟨[], [], by simp, rfl⟩
theorem sz_eq (s : ByteArray) : s.size = s.data.toList.length := by simp
theorem LAt.le {s : ByteArray} {a : Nat} {L : List UInt8} (h : LAt s a L) : a + L.length ≤ s.size := by
  obtain ⟨P, Q, h1, h2⟩ := h
  rw [sz_eq, h1]; simp; omega
theorem LAt.app {s : ByteArray} {a : Nat} {L M : List UInt8} (h : LAt s a (L ++ M)) : LAt s a L ∧ LAt s (a + L.length) M := by
  obtain ⟨P, Q, h1, h2⟩ := h
  exact ⟨⟨P, M ++ Q, by rw [h1]; simp, h2⟩, ⟨P ++ L, Q, by rw [h1]; simp, by simp [h2]⟩⟩
theorem LAt.get {s : ByteArray} {a : Nat} {L : List UInt8} (h : LAt s a L) (i : Nat) (h1 : a ≤ i) (h2 : i < a + L.length) : ∃ h : i < s.size, s[i]'h = L[i - a]'(by omega) := by
  have hle := h.le
  obtain ⟨P, Q, e, hp⟩ := h
  refine ⟨by omega, ?_⟩
  have : s[i]'(by omega) = s.data.toList[i]'(by rw [← sz_eq]; omega) := rfl
  rw [this]
  simp only [e]
  rw [List.getElem_append_right (by omega), List.getElem_append_left (by omega)]
  congr 1; omega
theorem LAt.step {s : ByteArray} {a : Nat} {L : List UInt8} (h : LAt s a L) (i : Nat) (h1 : a ≤ i) (h2 : i < a + L.length) : ∃ h : i < s.size, L.take (i + 1 - a) = L.take (i - a) ++ [s[i]'h] ∧ s[i]'h ∈ L := by
  obtain ⟨hi, e⟩ := h.get i h1 h2
  refine ⟨hi, ?_, by rw [e]; exact List.getElem_mem _⟩
  rw [e, show i + 1 - a = (i - a) + 1 by omega]
  exact List.take_succ_eq_append_getElem (by omega)
theorem LAt.cons {s : ByteArray} {a : Nat} {c : UInt8} {L : List UInt8} (h : LAt s a (c :: L)) : (∃ h : a < s.size, s[a]'h = c) ∧ LAt s (a + 1) L := by
  obtain ⟨hi, e⟩ := h.get a (Nat.le_refl _) (by simp)
  exact ⟨⟨hi, by rw [e]; simp⟩, (LAt.app (L := [c]) (M := L) h).2⟩

/-- the answer, by what the part behind the sign stands for -/
def ansV (o : Option (Nat × Nat × Nat)) (neg : Bool) : Int := match o with
  | none => 0
  | some (d, m, f) => if 18325193 < d ∨ 1099511627776 < d * 60000 + m * 1000 + f then 0 else if neg = true then -((d * 60000 + m * 1000 + f : Nat) : Int) else ((d * 60000 + m * 1000 + f : Nat) : Int)
def ansE (o : Option (Nat × Nat × Nat)) : Int := match o with
  | none => 7
  | some (d, m, f) => if 18325193 < d ∨ 1099511627776 < d * 60000 + m * 1000 + f then 5 else 0
theorem pa_ans (l : List UInt8) : paV l = ansV (boP (unP l)) (sgP l) ∧ paE l = ansE (boP (unP l)) := ⟨rfl, rfl⟩
theorem ans_big {o : Option (Nat × Nat × Nat)} {d m f : Nat} (neg : Bool) (h : o = some (d, m, f)) (k : 18325193 < d ∨ 1099511627776 < d * 60000 + m * 1000 + f) : ansV o neg = 0 ∧ ansE o = 5 := by
  subst h; exact ⟨if_pos k, if_pos k⟩
theorem ans_ok {o : Option (Nat × Nat × Nat)} {d m f : Nat} (h : o = some (d, m, f)) (k : ¬ (18325193 < d ∨ 1099511627776 < d * 60000 + m * 1000 + f)) :
    ansV o false = ((d * 60000 + m * 1000 + f : Nat) : Int) ∧ ansV o true = -((d * 60000 + m * 1000 + f : Nat) : Int) ∧ ansE o = 0 := by
  subst h; exact ⟨(if_neg k).trans (if_neg (by simp)), (if_neg k).trans (if_pos rfl), if_neg k⟩
/-- the thousandths, digit by digit -/
def uvN : Nat → Nat
  | 0 => 100
  | 1 => 10
  | 2 => 1
  | _ => 0
def fvN (F : List UInt8) : Nat → Nat
  | 0 => 0
  | j + 1 => fvN F j + uvN j * ((F.getD j 0).toNat - 48)
theorem uv_step (j : Nat) : uvN (j + 1) = uvN j / 10 := by
  match j with
  | 0 => rfl
  | 1 => rfl
  | 2 => rfl
  | n + 3 => show (0 : Nat) = 0 / 10; omega
theorem all_take {F : List UInt8} (h : F.all isDig = true) (j : Nat) : (F.take j).all isDig = true := by
  rw [List.all_eq_true] at h ⊢; exact fun c hc => h c (List.mem_of_mem_take hc)
theorem fv_all (F : List UInt8) (h1 : 1 ≤ F.length) (h2 : F.length ≤ 3) : fvN F F.length = val (F ++ List.replicate (3 - F.length) 48) := by
  have e2 : (48 : UInt8).toNat = 48 := rfl
  match F, h1, h2 with
  | [p], _, _ => simp [fvN, uvN, val, e2]; omega
  | [p, q], _, _ => simp [fvN, uvN, val, e2]; omega
  | [p, q, r], _, _ => simp [fvN, uvN, val]; omega
theorem fr_yes {F : List UInt8} (h1 : 1 ≤ F.length) (h2 : F.length ≤ 3) (h : F.all isDig = true) : frP (46 :: F) = some (fvN F F.length) := by
  rw [frP_cons, if_pos ⟨rfl, h1, h2, h⟩, fv_all F h1 h2]
theorem fr_no {c : UInt8} {F : List UInt8} (h : ¬ (c = 46 ∧ 1 ≤ F.length ∧ F.length ≤ 3 ∧ F.all isDig = true)) : frP (c :: F) = none := by rw [frP_cons, if_neg h]
theorem fv_bd (F : List UInt8) (j : Nat) (hj : j ≤ 3) : fvN F j ≤ 40000 := by
  have hb : ∀ t, (F.getD t 0).toNat < 256 := fun t => (F.getD t 0).toNat_lt
  have := hb 0
  have := hb 1
  have := hb 2
  rcases (show j = 0 ∨ j = 1 ∨ j = 2 ∨ j = 3 by omega) with rfl | rfl | rfl | rfl
  · show 0 ≤ 40000; omega
  · show 0 + 100 * ((F.getD 0 0).toNat - 48) ≤ 40000; omega
  · show 0 + 100 * ((F.getD 0 0).toNat - 48) + 10 * ((F.getD 1 0).toNat - 48) ≤ 40000; omega
  · show 0 + 100 * ((F.getD 0 0).toNat - 48) + 10 * ((F.getD 1 0).toNat - 48) + 1 * ((F.getD 2 0).toNat - 48) ≤ 40000; omega
/-- the parts of the string behind its sign -/
structure Pts (b : Nat) (s : ByteArray) (D R : List UInt8) (o : Option (Nat × Nat × Nat)) : Prop where
  aD : LAt s b D
  aR : LAt s (b + D.length) R
  al : D.all isDig = true
  rh : ∀ r Y, R = r :: Y → isDig r = false
  sz : b + (D.length + R.length) = s.size
  no1 : D = [] → o = none
  no2 : 1 < D.length → D.head? = some 48 → o = none
  yes : D ≠ [] → ¬ (1 < D.length ∧ D.head? = some 48) → o = (mnP R).map (fun p => (val D, p.1, p.2))
theorem take_drop_all (u : List UInt8) : (u.takeWhile isDig).all isDig = true := List.all_takeWhile
theorem drop_head (u : List UInt8) : ∀ r Y, u.dropWhile isDig = r :: Y → isDig r = false := by
  induction u with
  | nil => intro r Y h; simp at h
  | cons c u ih =>
    intro r Y h
    rw [List.dropWhile_cons] at h
    by_cases hc : isDig c = true
    · rw [if_pos hc] at h; exact ih r Y h
    · rw [if_neg hc] at h
      injection h with h1 h2
      subst h1
      simpa using hc
theorem pts_of (b : Nat) (s : ByteArray) (u : List UInt8) (h : LAt s b u) (hz : b + u.length = s.size) : Pts b s (u.takeWhile isDig) (u.dropWhile isDig) (boP u) := by
  have hu : u = u.takeWhile isDig ++ u.dropWhile isDig := (List.takeWhile_append_dropWhile).symm
  have h2 := h
  rw [hu] at h2
  refine ⟨h2.app.1, h2.app.2, take_drop_all u, drop_head u, ?_, fun e => ?_, fun e1 e2 => ?_, fun e1 e2 => ?_⟩
  · have := congrArg List.length hu
    rw [List.length_append] at this
    omega
  · unfold boP; rw [if_pos (.inl e)]
  · unfold boP; rw [if_pos (.inr ⟨e1, e2⟩)]
  · unfold boP; rw [if_neg (fun h => h.elim e1 e2)]
/-- the part behind the degrees has not the form -/
theorem mn_short {R : List UInt8} (h : R.length < 3) : mnP R = none := by
  cases R with
  | nil => rfl
  | cons a R =>
    cases R with
    | nil => rfl
    | cons b R =>
      cases R with
      | nil => rfl
      | cons c R => simp at h; omega
theorem mn_no {r x y : UInt8} {T : List UInt8} (h : ¬ (r = 45 ∧ isDig x = true ∧ isDig y = true ∧ x.toNat ≤ 53)) : mnP (r :: x :: y :: T) = none := by rw [mnP_cons, if_neg h]
theorem mn_yes {r x y : UInt8} {T : List UInt8} (h : r = 45 ∧ isDig x = true ∧ isDig y = true ∧ x.toNat ≤ 53) : mnP (r :: x :: y :: T) = (frP T).map (fun f => (10 * (x.toNat - 48) + (y.toNat - 48), f)) := by rw [mnP_cons, if_pos h]
theorem ne_nat {c : UInt8} {n : Nat} (hn : n < 256) (h : c.toNat ≠ n) : c ≠ UInt8.ofNat n := by
  intro e; apply h; rw [e, UInt8.toNat_ofNat']; omega
theorem eq_nat {c : UInt8} {n : Nat} (hn : n < 256) (h : c.toNat = n) : c = UInt8.ofNat n := by
  apply UInt8.toNat_inj.1; rw [h, UInt8.toNat_ofNat']; omega
end Go.Proofs.YtgcoddjjkcdfmaaGreatDoor
