/- Trig: turned by quarters and by whole turns; the floors of sines. No run of the model here. -/
import Derived.Test.YtglmkpnnbgkndaaDoorTg11
namespace Go.Proofs.YtglmkpnnbgkndaaDoor.L6
set_option linter.unusedVariables false
set_option maxRecDepth 100000

def et : Rat := 1 / ((2 ^ 100 : Nat) : Rat)
theorem near_of_ap {x : Rat} {c e : Nat} {v : Rat} (h1 : -(e : Rat) ≤ sc * x - (c : Rat)) (h2 : sc * x - (c : Rat) ≤ (e : Rat)) (k1 : sc * (v - et) ≤ (c : Rat) - (e : Rat)) (k2 : (c : Rat) + (e : Rat) ≤ sc * (v + et)) : -et ≤ x - v ∧ x - v ≤ et := by
  have p := sc_pos
  constructor
  · have : v - et ≤ x := Rat.le_of_mul_le_mul_left (c := sc) (by grind) p
    grind
  · have : x ≤ v + et := Rat.le_of_mul_le_mul_left (c := sc) (by grind) p
    grind
theorem quarter : (-et ≤ cz 5400000 - 0 ∧ cz 5400000 - 0 ≤ et) ∧ (-et ≤ sz 5400000 - 1 ∧ sz 5400000 - 1 ≤ et) := by
  obtain ⟨⟨h1, h2⟩, h3, h4⟩ := apQ
  exact ⟨near_of_ap h1 h2 (by decide +kernel) (by decide +kernel), near_of_ap h3 h4 (by decide +kernel) (by decide +kernel)⟩
theorem third : -et ≤ sz 1800000 - 1 / 2 ∧ sz 1800000 - 1 / 2 ≤ et := by
  obtain ⟨-, h3, h4⟩ := apH
  exact near_of_ap h3 h4 (by decide +kernel) (by decide +kernel)
theorem third_c : Mg (cz 1800000) := by
  obtain ⟨⟨h1, h2⟩, -⟩ := apH
  have p := sc_pos
  refine ⟨929887696, ?_, ?_⟩
  · refine Rat.le_of_mul_le_mul_left (c := sc) ?_ p
    have : sc * (((929887696 : Int) : Rat) + dl) ≤ 1073741824 * (((5436129564984250760238183546362423314815207031827297567836 : Nat) : Rat) - ((8213808985428 : Nat) : Rat)) := by decide +kernel
    have e : sc * (1073741824 * cz 1800000) = 1073741824 * (sc * cz 1800000) := by grind
    rw [e]
    have := Rat.mul_le_mul_of_nonneg_left (c := 1073741824) (show (((5436129564984250760238183546362423314815207031827297567836 : Nat) : Rat) - ((8213808985428 : Nat) : Rat)) ≤ sc * cz 1800000 by grind) (by decide +kernel)
    exact Rat.le_trans (by assumption) this
  · refine Rat.le_of_mul_le_mul_left (c := sc) ?_ p
    have a : 1073741824 * (((5436129564984250760238183546362423314815207031827297567836 : Nat) : Rat) + ((8213808985428 : Nat) : Rat)) ≤ sc * (((929887696 : Int) : Rat) + 1 - dl) := by decide +kernel
    have e : sc * (1073741824 * cz 1800000) = 1073741824 * (sc * cz 1800000) := by grind
    rw [e]
    have := Rat.mul_le_mul_of_nonneg_left (c := 1073741824) (show sc * cz 1800000 ≤ (((5436129564984250760238183546362423314815207031827297567836 : Nat) : Rat) + ((8213808985428 : Nat) : Rat)) by grind) (by decide +kernel)
    exact Rat.le_trans this a
/-- near, but for so many tiny errors -/
def Nr (k : Nat) (x y : Rat) : Prop := -((k : Rat) * et) ≤ x - y ∧ x - y ≤ (k : Rat) * et
theorem et_pos : 0 ≤ et := by decide +kernel
theorem Nr.refl (x : Rat) (k : Nat) : Nr k x x := by
  have := Rat.mul_nonneg (Rat.natCast_nonneg (a := k)) et_pos
  unfold Nr
  constructor <;> grind
theorem Nr.trans {a b : Nat} {x y z : Rat} (h : Nr a x y) (k : Nr b y z) : Nr (a + b) x z := by
  unfold Nr at *
  rw [Rat.natCast_add]
  constructor <;> grind
theorem Nr.neg {a : Nat} {x y : Rat} (h : Nr a x y) : Nr a (-x) (-y) := by unfold Nr at *; constructor <;> grind
theorem Nr.mono {a b : Nat} {x y : Rat} (h : Nr a x y) (k : a ≤ b) : Nr b x y := by
  have := Rat.mul_le_mul_of_nonneg_right ((Rat.natCast_le_natCast).2 k) et_pos
  unfold Nr at *
  constructor <;> grind
theorem two_et {x y c s : Rat} (hc : -1 ≤ c ∧ c ≤ 1) (hs : -1 ≤ s ∧ s ≤ 1) (hx : -et ≤ x ∧ x ≤ et) (hy : -et ≤ y ∧ y ≤ et) : Nr 2 (x * c + y * s) 0 := by
  have a := mul_in hx.1 hx.2 hc.1 hc.2
  have b := mul_in hy.1 hy.2 hs.1 hs.2
  have e : ((2 : Nat) : Rat) = 2 := rfl
  unfold Nr
  rw [e]
  constructor <;> grind
/-- a quarter further -/
theorem quarter_add (n : Int) : Nr 2 (sz (n + 5400000)) (cz n) ∧ Nr 2 (cz (n + 5400000)) (-sz n) := by
  obtain ⟨z1, z2⟩ := z_add n 5400000
  obtain ⟨⟨a1, a2⟩, b1, b2⟩ := quarter
  have hc := cz_in n
  have hs := sz_in n
  have t1 := two_et (x := cz 5400000) (y := sz 5400000 - 1) hs hc ⟨by grind, by grind⟩ ⟨b1, b2⟩
  have t2 := two_et (x := cz 5400000) (y := -(sz 5400000 - 1)) hc hs ⟨by grind, by grind⟩ ⟨by grind, by grind⟩
  rw [z1, z2]
  unfold Nr at *
  constructor <;> constructor <;> grind
/-- back from a quarter -/
theorem quarter_sub (n : Int) : Nr 2 (sz (5400000 - n)) (cz n) ∧ Nr 2 (cz (5400000 - n)) (sz n) := by
  have h := quarter_add (-n)
  rw [cz_neg, sz_neg, show -n + 5400000 = 5400000 - n by omega] at h
  refine ⟨h.1, ?_⟩
  have := h.2
  rwa [show - -sz n = sz n by grind] at this
theorem half_add (n : Int) : Nr 4 (sz (n + 10800000)) (-sz n) ∧ Nr 4 (cz (n + 10800000)) (-cz n) := by
  have h := quarter_add n
  have k := quarter_add (n + 5400000)
  rw [show n + 5400000 + 5400000 = n + 10800000 by omega] at k
  exact ⟨k.1.trans h.2, k.2.trans h.1.neg⟩
theorem turn_add (n : Int) : Nr 8 (sz (n + 21600000)) (sz n) ∧ Nr 8 (cz (n + 21600000)) (cz n) := by
  have h := half_add n
  have k := half_add (n + 10800000)
  rw [show n + 10800000 + 10800000 = n + 21600000 by omega] at k
  have a := k.1.trans h.1.neg
  have b := k.2.trans h.2.neg
  rw [show - -sz n = sz n by grind] at a
  rw [show - -cz n = cz n by grind] at b
  exact ⟨a, b⟩
theorem Nr.symm {a : Nat} {x y : Rat} (h : Nr a x y) : Nr a y x := by unfold Nr at *; constructor <;> grind
theorem turns_add (k : Nat) (n : Int) : Nr (8 * k) (sz (n + 21600000 * k)) (sz n) ∧ Nr (8 * k) (cz (n + 21600000 * k)) (cz n) := by
  induction k with
  | zero =>
    rw [show n + 21600000 * ((0 : Nat) : Int) = n by omega]
    exact ⟨Nr.refl _ _, Nr.refl _ _⟩
  | succ k ih =>
    have t := turn_add (n + 21600000 * k)
    rw [show n + 21600000 * (k : Int) + 21600000 = n + 21600000 * ((k + 1 : Nat) : Int) by omega] at t
    have a := t.1.trans ih.1
    have b := t.2.trans ih.2
    rw [show 8 + 8 * k = 8 * (k + 1) by omega] at a b
    exact ⟨a, b⟩
/-- an angle, and the one with the same direction from 0 on -/
theorem mod_near (n : Int) (h : -4398046511104 ≤ n ∧ n ≤ 4398046511104) : Nr 1628912 (sz n) (sz (n % 21600000)) ∧ Nr 1628912 (cz n) (cz (n % 21600000)) := by
  have e := Int.emod_add_mul_ediv n 21600000
  have b1 := Int.emod_nonneg n (show (21600000 : Int) ≠ 0 by decide)
  have b2 := Int.emod_lt_of_pos n (show (0 : Int) < 21600000 by decide)
  generalize n % 21600000 = m at *
  generalize n / 21600000 = q at *
  rcases Int.lt_or_le q 0 with c | c
  · obtain ⟨k, rfl⟩ : ∃ k : Nat, q = -(k : Int) := ⟨(-q).toNat, by omega⟩
    have t := turns_add k n
    rw [show n + 21600000 * (k : Int) = m by omega] at t
    exact ⟨(t.1.symm).mono (by omega), (t.2.symm).mono (by omega)⟩
  · obtain ⟨k, rfl⟩ : ∃ k : Nat, q = (k : Int) := ⟨q.toNat, by omega⟩
    have t := turns_add k m
    rw [show m + 21600000 * (k : Int) = n by omega] at t
    exact ⟨t.1.mono (by omega), t.2.mono (by omega)⟩

/-- an angle's quarter, and the angle of the first eighth that has its sine or its cosine -/
def mT (n : Int) : Int := n % 21600000
def qd (n : Int) : Int := mT n / 5400000
def rd (n : Int) : Int := mT n % 5400000
def far (n : Int) : Bool := decide (2700000 < rd n)
def co (n : Int) : Bool := xor (decide (qd n % 2 = 1)) (far n)
def rr (n : Int) : Nat := (if far n = true then 5400000 - rd n else rd n).toNat
def sgn (n : Int) (x : Rat) : Rat := if 2 ≤ qd n then -x else x
def bs (n : Int) : Rat := if co n = true then cz (rr n) else sz (rr n)
theorem m_in (n : Int) : 0 ≤ mT n ∧ mT n < 21600000 := by unfold mT; omega
theorem rd_in (n : Int) : 0 ≤ rd n ∧ rd n < 5400000 ∧ 0 ≤ qd n ∧ qd n ≤ 3 ∧ mT n = 5400000 * qd n + rd n := by
  have := m_in n
  unfold rd qd
  generalize mT n = m at *
  omega
theorem rr_in (n : Int) : rr n ≤ 2700000 := by
  obtain ⟨h1, h2, -⟩ := rd_in n
  unfold rr far
  by_cases c : 2700000 < rd n
  · rw [if_pos (by simpa using c)]; omega
  · rw [if_neg (by simpa using c)]; omega
theorem rr_int (n : Int) : (rr n : Int) = if far n = true then 5400000 - rd n else rd n := by
  obtain ⟨h1, h2, -⟩ := rd_in n
  unfold rr
  split <;> omega
/-- the first two quarters -/
theorem base (n : Int) : (far n = true → Nr 2 (sz (rd n)) (cz (rr n)) ∧ Nr 2 (cz (rd n)) (sz (rr n))) ∧ (far n = false → sz (rd n) = sz (rr n) ∧ cz (rd n) = cz (rr n)) := by
  have e := rr_int n
  constructor
  · intro h
    rw [if_pos h] at e
    have q := quarter_sub (rr n)
    rw [show 5400000 - (rr n : Int) = rd n by omega] at q
    exact q
  · intro h
    rw [if_neg (by rw [h]; simp)] at e
    rw [e]
    exact ⟨rfl, rfl⟩
theorem sz_mod (n : Int) : Nr 8 (sz (mT n)) (sgn n (bs n)) := by
  obtain ⟨h1, h2, q0, q3, em⟩ := rd_in n
  obtain ⟨b1, b2⟩ := base n
  have r4 : ∀ {k : Nat} {x y : Rat}, Nr k x y → k ≤ 8 → Nr 8 x y := fun h k => h.mono k
  rcases (show qd n = 0 ∨ qd n = 1 ∨ qd n = 2 ∨ qd n = 3 by omega) with q | q | q | q
  · have e : mT n = rd n := by omega
    unfold sgn bs co
    rw [q, e, if_neg (by omega)]
    cases hf : far n
    · rw [if_neg (by decide), (b2 hf).1]; exact Nr.refl _ _
    · rw [if_pos (by decide)]; exact ((b1 hf).1).mono (by omega)
  · have e : mT n = rd n + 5400000 := by omega
    have a := (quarter_add (rd n)).1
    unfold sgn bs co
    rw [q, e, if_neg (by omega)]
    cases hf : far n
    · rw [if_pos (by decide)]; rw [(b2 hf).2] at a; exact a.mono (by omega)
    · rw [if_neg (by decide)]; exact (a.trans (b1 hf).2).mono (by omega)
  · have e : mT n = rd n + 10800000 := by omega
    have a := (half_add (rd n)).1
    unfold sgn bs co
    rw [q, e, if_pos (by omega)]
    cases hf : far n
    · rw [if_neg (by decide)]; rw [(b2 hf).1] at a; exact a.mono (by omega)
    · rw [if_pos (by decide)]; exact (a.trans (b1 hf).1.neg).mono (by omega)
  · have e : mT n = rd n + 5400000 + 10800000 := by omega
    have a := (half_add (rd n + 5400000)).1.trans (quarter_add (rd n)).1.neg
    unfold sgn bs co
    rw [q, e, if_pos (by omega)]
    cases hf : far n
    · rw [if_pos (by decide)]; rw [(b2 hf).2] at a; exact a.mono (by omega)
    · rw [if_neg (by decide)]; exact (a.trans (b1 hf).2.neg).mono (by omega)
end Go.Proofs.YtglmkpnnbgkndaaDoor.L6
