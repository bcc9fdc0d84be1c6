/- Trig: the test of 256 angles at once, and of all of them. No run of the model here. -/
import Derived.Test.YtglmkpnnbgkndaaDoorTg4
namespace Go.Proofs.YtglmkpnnbgkndaaDoor.L6
set_option linter.unusedVariables false
set_option maxRecDepth 100000

abbrev pk (f : Tr → Nat) : Nat := pkf (354 + 38) f tab
/-- the constants of the test, made once -/
structure Cn where
  ct : Nat
  st : Nat
  om : Nat
  op : Nat
  hk : Nat
def cn : Cn := ⟨pk (fun t => t.1), pk (fun t => t.2.1), pk (fun _ => oN - dD), pk (fun _ => oN + dD), pk (fun _ => hm 38 354)⟩
def leaf (k : Cn) (c s e : Nat) : Bool :=
  (Nat.ble c (2 ^ 193) && (Nat.ble s (2 ^ 193) && Nat.ble e (2 ^ 80))) &&
  (Nat.beq ((s * k.ct + c * k.st + k.om) &&& k.hk) ((s * k.ct + c * k.st + k.op) &&& k.hk) &&
   Nat.beq ((c * k.ct + k.om - s * k.st) &&& k.hk) ((c * k.ct + k.op - s * k.st) &&& k.hk))
theorem tab_in : ∀ t ∈ tab, t.1 ≤ 2 ^ 193 ∧ t.2.1 ≤ 2 ^ 193 ∧ t.2.2 ≤ 2 ^ 80 := by
  have h : tab.all (fun t => Nat.ble t.1 (2 ^ 193) && (Nat.ble t.2.1 (2 ^ 193) && Nat.ble t.2.2 (2 ^ 80))) = true := by decide +kernel
  intro t ht
  have := (List.all_eq_true.1 h) t ht
  rw [Bool.and_eq_true, Bool.and_eq_true, Nat.ble_eq, Nat.ble_eq, Nat.ble_eq] at this
  exact this
theorem pkf_sub (W : Nat) (f g : Tr → Nat) (L : List Tr) (h : ∀ t ∈ L, g t ≤ f t) : pkf W (fun t => f t - g t) L = pkf W f L - pkf W g L := by
  have e : pkf W (fun t => f t - g t + g t) L = pkf W f L := pkf_ext W L (fun t ht => Nat.sub_add_cancel (h t ht))
  rw [pkf_add] at e
  omega
/-- all of 256 angles are good -/
def Good (n : Int) : Prop := ∀ i : Nat, i < 256 → Mg (sz (n + i)) ∧ Mg (cz (n + i))
theorem sum_err {X Y X' Y' c s c' s' e e' : Rat} (hX1 : -sc ≤ X) (hX2 : X ≤ sc) (hY1 : -sc ≤ Y) (hY2 : Y ≤ sc) (hX1' : -sc ≤ X') (hX2' : X' ≤ sc) (hY1' : -sc ≤ Y') (hY2' : Y' ≤ sc)
    (h1 : -e ≤ X - c) (h2 : X - c ≤ e) (h3 : -e ≤ Y - s) (h4 : Y - s ≤ e) (k1 : -e' ≤ X' - c') (k2 : X' - c' ≤ e') (k3 : -e' ≤ Y' - s') (k4 : Y' - s' ≤ e')
    (b1 : e ≤ (2 ^ 80 : Nat)) (b2 : e' ≤ (2 ^ 80 : Nat)) (b3 : 0 ≤ e) (b4 : 0 ≤ e') :
    (s * c' + c * s' - (eE : Rat) ≤ Y * X' + X * Y' ∧ Y * X' + X * Y' ≤ s * c' + c * s' + (eE : Rat)) ∧ (c * c' - s * s' - (eE : Rat) ≤ X * X' - Y * Y' ∧ X * X' - Y * Y' ≤ c * c' - s * s' + (eE : Rat)) := by
  have m1 := mul_err hY1 hY2 hX1' hX2' h3 h4 k1 k2
  have m2 := mul_err hX1 hX2 hY1' hY2' h1 h2 k3 k4
  have m3 := mul_err hX1 hX2 hX1' hX2' h1 h2 k1 k2
  have m4 := mul_err hY1 hY2 hY1' hY2' h3 h4 k3 k4
  have p := sc_pos
  have x1 : sc * e' ≤ sc * (2 ^ 80 : Nat) := Rat.mul_le_mul_of_nonneg_left b2 (by grind)
  have x2 : e * (sc + e') ≤ (2 ^ 80 : Nat) * (sc + (2 ^ 80 : Nat)) := by
    have y1 : e * (sc + e') ≤ (2 ^ 80 : Nat) * (sc + e') := Rat.mul_le_mul_of_nonneg_right b1 (by grind)
    have y2 : ((2 ^ 80 : Nat) : Rat) * (sc + e') ≤ (2 ^ 80 : Nat) * (sc + (2 ^ 80 : Nat)) := Rat.mul_le_mul_of_nonneg_left (by grind) (by decide +kernel)
    exact Rat.le_trans y1 y2
  have x3 : 2 * (sc * (2 ^ 80 : Nat) + (2 ^ 80 : Nat) * (sc + (2 ^ 80 : Nat))) ≤ (eE : Rat) := by decide +kernel
  generalize (eE : Rat) = E at *
  generalize ((2 ^ 80 : Nat) : Rat) = B at *
  generalize sc = N at *
  refine ⟨⟨?_, ?_⟩, ?_, ?_⟩ <;> grind
theorem leaf_ok {n : Int} {c s e : Nat} (h : Ap n c s e) (hl : leaf cn c s e = true) : Good n := by
  unfold leaf at hl
  rw [Bool.and_eq_true, Bool.and_eq_true, Bool.and_eq_true, Bool.and_eq_true, Nat.ble_eq, Nat.ble_eq, Nat.ble_eq] at hl
  obtain ⟨⟨b1, b2, b3⟩, q1, q2⟩ := hl
  have q1 := Nat.eq_of_beq_eq_true q1
  have q2 := Nat.eq_of_beq_eq_true q2
  unfold cn at q1 q2
  dsimp only at q1 q2
  have c1 : oN - dD + dD = oN := by decide +kernel
  have c2 : ∀ x, x ≤ 2 * (2 ^ 193 * 2 ^ 193) + (oN + dD) → x < 2 ^ (354 + 38) := fun x hx => Nat.lt_of_le_of_lt hx (by decide +kernel)
  have c3 : 2 ^ 193 * 2 ^ 193 ≤ oN - dD := by decide +kernel
  have c4 : qN = 2 ^ 354 := by decide +kernel
  have pr : ∀ {a b : Nat}, a ≤ 2 ^ 193 → b ≤ 2 ^ 193 → a * b ≤ 2 ^ 193 * 2 ^ 193 := fun ha hb => Nat.mul_le_mul ha hb
  -- sines
  have fs := fields 38 354 (f := fun t => s * t.1 + c * t.2.1 + (oN - dD)) (g := fun t => s * t.1 + c * t.2.1 + (oN + dD)) tab (fun t ht => by
    obtain ⟨t1, t2, -⟩ := tab_in t ht
    have := pr b2 t1
    have := pr b1 t2
    exact ⟨c2 _ (by omega), c2 _ (by omega)⟩) (by
    have e1 : ∀ o : Nat, pkf (354 + 38) (fun t => s * t.1 + c * t.2.1 + o) tab = s * pk (fun t => t.1) + c * pk (fun t => t.2.1) + pk (fun _ => o) := fun o => by
      rw [pkf_add, pkf_add, pkf_mul, pkf_mul]
    rw [e1, e1]
    exact q1)
  have fc := fields 38 354 (f := fun t => c * t.1 + (oN - dD) - s * t.2.1) (g := fun t => c * t.1 + (oN + dD) - s * t.2.1) tab (fun t ht => by
    obtain ⟨t1, t2, -⟩ := tab_in t ht
    have := pr b1 t1
    exact ⟨c2 _ (by omega), c2 _ (by omega)⟩) (by
    have e1 : ∀ o : Nat, oN - dD ≤ o → pkf (354 + 38) (fun t => c * t.1 + o - s * t.2.1) tab = c * pk (fun t => t.1) + pk (fun _ => o) - s * pk (fun t => t.2.1) := fun o ho => by
      rw [pkf_sub, pkf_add, pkf_mul, pkf_mul]
      intro t ht
      obtain ⟨t1, t2, -⟩ := tab_in t ht
      have := pr b2 t2
      omega
    rw [e1 _ (Nat.le_refl _), e1 _ (by omega)]
    exact q2)
  intro i hi
  have hlen : i < tab.length := by rw [tab_len]; exact hi
  have hm : tab[i] ∈ tab := List.getElem_mem hlen
  have ha : ApT i tab[i] := tab_ok i _ (List.getElem?_eq_getElem hlen)
  obtain ⟨t1, t2, t3⟩ := tab_in _ hm
  have fs := fs _ hm
  have fc := fc _ hm
  generalize tab[i] = t at *
  obtain ⟨c', s', e'⟩ := t
  obtain ⟨⟨h1, h2⟩, h3, h4⟩ := h
  obtain ⟨⟨k1, k2⟩, k3, k4⟩ := ha
  obtain ⟨z1, z2⟩ := z_add n i
  obtain ⟨x1, x2⟩ := sc_in (cz_in n)
  obtain ⟨x3, x4⟩ := sc_in (sz_in n)
  obtain ⟨y1, y2⟩ := sc_in (cz_in i)
  obtain ⟨y3, y4⟩ := sc_in (sz_in i)
  obtain ⟨⟨w1, w2⟩, w3, w4⟩ := sum_err x1 x2 x3 x4 y1 y2 y3 y4 h1 h2 h3 h4 k1 k2 k3 k4 ((Rat.natCast_le_natCast).2 b3) ((Rat.natCast_le_natCast).2 t3) Rat.natCast_nonneg Rat.natCast_nonneg
  simp only at fs fc t1 t2 t3 k1 k2 k3 k4 w1 w2 w3 w4
  have p1 := pr b2 t1
  have p2 := pr b1 t2
  have p3 := pr b1 t1
  have p4 := pr b2 t2
  rw [z1, z2]
  constructor
  · have d1 := Nat.div_mul_le_self (s * c' + c * s' + (oN - dD)) (2 ^ 354)
    have d2 := Nat.lt_div_mul_add (a := s * c' + c * s' + (oN + dD)) (b := 2 ^ 354) (Nat.two_pow_pos _)
    rw [← fs] at d2
    rw [← c4] at d1 d2
    generalize (s * c' + c * s' + (oN - dD)) / qN = a at *
    refine mg_of (a := a) (v := s * c' + c * s' + oN) (by omega) (by rw [Nat.add_mul, Nat.one_mul]; omega) ?_ ?_
    · rw [Rat.natCast_add, Rat.natCast_add, Rat.natCast_mul, Rat.natCast_mul]; grind
    · rw [Rat.natCast_add, Rat.natCast_add, Rat.natCast_mul, Rat.natCast_mul]; grind
  · have d1 := Nat.div_mul_le_self (c * c' + (oN - dD) - s * s') (2 ^ 354)
    have d2 := Nat.lt_div_mul_add (a := c * c' + (oN + dD) - s * s') (b := 2 ^ 354) (Nat.two_pow_pos _)
    rw [← fc] at d2
    rw [← c4] at d1 d2
    generalize (c * c' + (oN - dD) - s * s') / qN = a at *
    have ev : ((c * c' + oN - s * s' : Nat) : Rat) = (c : Rat) * c' + (oN : Rat) - (s : Rat) * s' := by
      have : ((c * c' + oN - s * s' : Nat) : Rat) + ((s * s' : Nat) : Rat) = ((c * c' + oN : Nat) : Rat) := by rw [← Rat.natCast_add]; congr 1; omega
      rw [Rat.natCast_add, Rat.natCast_mul, Rat.natCast_mul] at this
      grind
    refine mg_of (a := a) (v := c * c' + oN - s * s') (by omega) (by rw [Nat.add_mul, Nat.one_mul]; omega) ?_ ?_
    · rw [ev]; grind
    · rw [ev]; grind
/-- a number, made before it is used -/
def frc {α : Type} (n : Nat) (k : Nat → α) : α := Nat.casesOn n (k 0) (fun p => k (Nat.succ p))
theorem frc_eq {α : Type} (n : Nat) (k : Nat → α) : frc n k = k n := by cases n <;> rfl
/-- 256 times a power of 2 of angles -/
def tree (K : Nat → Nat → Nat → Bool) : List Tr → Nat → Nat → Nat → Bool
  | [], c, s, e => K c s e
  | u :: us, c, s, e => tree K us c s e && (okz (c, s, e) u &&
      frc ((c * u.1 - s * u.2.1) / 2 ^ 192) fun c' => frc ((s * u.1 + c * u.2.1) / 2 ^ 192) fun s' => frc (2 * (e + u.2.2) + 4) fun e' => tree K us c' s' e')
def Pws : List Tr → Prop
  | [] => True
  | u :: us => ApT (256 * 2 ^ us.length) u ∧ Pws us
theorem tree_ok (K : Nat → Nat → Nat → Bool) (hK : ∀ n c s e, Ap n c s e → K c s e = true → Good n) : ∀ (us : List Tr), Pws us → ∀ (n : Int) (c s e : Nat), Ap n c s e → tree K us c s e = true → ∀ b : Nat, b < 2 ^ us.length → Good (n + 256 * b) := by
  intro us
  induction us with
  | nil =>
    intro _ n c s e h ht b hb
    have : b = 0 := by simpa using hb
    subst this
    have := hK n c s e h ht
    rwa [show n + 256 * ((0 : Nat) : Int) = n by omega]
  | cons u us ih =>
    intro hp n c s e h ht b hb
    obtain ⟨hu, hp⟩ := hp
    unfold tree at ht
    rw [Bool.and_eq_true, Bool.and_eq_true, frc_eq, frc_eq, frc_eq] at ht
    obtain ⟨t1, o, t2⟩ := ht
    by_cases hlt : b < 2 ^ us.length
    · exact ih hp n c s e h t1 b hlt
    · have hm : ApT (n + 256 * 2 ^ us.length) (mulz (c, s, e) u) := ApT.mul (t := (c, s, e)) h hu o
      have := ih hp _ _ _ _ hm t2 (b - 2 ^ us.length) (by rw [List.length_cons, Nat.pow_succ] at hb; omega)
      rw [show n + 256 * 2 ^ us.length + 256 * ((b - 2 ^ us.length : Nat) : Int) = n + 256 * (b : Int) by
        have : ((b - 2 ^ us.length : Nat) : Int) = (b : Int) - ((2 ^ us.length : Nat) : Int) := by omega
        rw [this, Int.natCast_pow]
        have h2 : ((2 : Nat) : Int) = 2 := rfl
        rw [h2]
        omega] at this
      exact this
end Go.Proofs.YtglmkpnnbgkndaaDoor.L6
