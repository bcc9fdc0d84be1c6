/- Trig: a rational point of the unit circle, near the one at an angle of one unit; its powers. No run of the model here. -/
namespace Go.Proofs.YtglmkpnnbgkndaaDoor.L6
set_option linter.unusedVariables false

def zD : Int := 39402006196395312721825009944569821836051476614680164185478376942971068169891373316775456180104346457161582600878916
def zA : Int := 39402006196393645702733070255717405774108001926250729150418209865520375373103047906053076329665484824451673379734716
def zB : Int := 11461579000304933395250846263269861001563705403300408189650396734696208027171966683836773243064530554983546880
def za : Rat := (zA : Rat) / (zD : Rat)
def zb : Rat := (zB : Rat) / (zD : Rat)
theorem z_one : za * za + zb * zb = 1 := by decide +kernel
theorem za_pos : 0 ≤ za ∧ za ≤ 1 := by decide +kernel
theorem zb_pos : 0 ≤ zb ∧ zb ≤ 1 := by decide +kernel
/-- the powers -/
def zn : Nat → Rat × Rat
  | 0 => (1, 0)
  | n + 1 => ((zn n).1 * za - (zn n).2 * zb, (zn n).2 * za + (zn n).1 * zb)
theorem zn_one (n : Nat) : (zn n).1 * (zn n).1 + (zn n).2 * (zn n).2 = 1 := by
  induction n with
  | zero => decide +kernel
  | succ n ih =>
    have h := z_one
    show ((zn n).1 * za - (zn n).2 * zb) * ((zn n).1 * za - (zn n).2 * zb) + ((zn n).2 * za + (zn n).1 * zb) * ((zn n).2 * za + (zn n).1 * zb) = 1
    generalize (zn n).1 = c at *
    generalize (zn n).2 = s at *
    grind
/-- the cosine and the sine of an angle, but for a tiny error -/
def cz (n : Int) : Rat := (zn n.natAbs).1
def sz (n : Int) : Rat := if n < 0 then -(zn n.natAbs).2 else (zn n.natAbs).2
theorem cz_zero : cz 0 = 1 := rfl
theorem sz_zero : sz 0 = 0 := by decide +kernel
theorem cz_neg (n : Int) : cz (-n) = cz n := by unfold cz; rw [Int.natAbs_neg]
theorem sz_neg (n : Int) : sz (-n) = -sz n := by
  unfold sz
  rw [Int.natAbs_neg]
  by_cases h : n = 0
  · subst h; decide +kernel
  · by_cases k : n < 0
    · rw [if_neg (by omega), if_pos k]; grind
    · rw [if_pos (by omega), if_neg k]
theorem cs_one (n : Int) : cz n * cz n + sz n * sz n = 1 := by
  have h := zn_one n.natAbs
  unfold cz sz
  split <;> grind
theorem z_up (n : Int) : cz (n + 1) = cz n * za - sz n * zb ∧ sz (n + 1) = sz n * za + cz n * zb := by
  rcases Int.lt_or_le n 0 with h | h
  · obtain ⟨k, rfl⟩ : ∃ k : Nat, n = -((k : Int) + 1) := ⟨(-n - 1).toNat, by omega⟩
    have e1 : (-((k : Int) + 1)).natAbs = k + 1 := by omega
    have e2 : (-((k : Int) + 1) + 1).natAbs = k := by omega
    have hz := z_one
    unfold cz sz
    rw [e1, e2, if_pos h]
    show (zn k).1 = ((zn k).1 * za - (zn k).2 * zb) * za - -((zn k).2 * za + (zn k).1 * zb) * zb ∧ _ = -((zn k).2 * za + (zn k).1 * zb) * za + ((zn k).1 * za - (zn k).2 * zb) * zb
    by_cases h0 : k = 0
    · subst h0
      rw [if_neg (by omega)]
      decide +kernel
    · rw [if_pos (by omega)]
      generalize (zn k).1 = c at *
      generalize (zn k).2 = s at *
      constructor <;> grind
  · obtain ⟨k, rfl⟩ : ∃ k : Nat, n = (k : Int) := ⟨n.toNat, by omega⟩
    have e1 : ((k : Int)).natAbs = k := by omega
    have e2 : ((k : Int) + 1).natAbs = k + 1 := by omega
    unfold cz sz
    rw [e1, e2, if_neg (by omega), if_neg (by omega)]
    exact ⟨rfl, rfl⟩
theorem z_down (n : Int) : cz (n - 1) = cz n * za + sz n * zb ∧ sz (n - 1) = sz n * za - cz n * zb := by
  have h := z_up (n - 1)
  rw [show n - 1 + 1 = n by omega] at h
  have hz := z_one
  obtain ⟨h1, h2⟩ := h
  generalize cz (n - 1) = c at *
  generalize sz (n - 1) = s at *
  generalize cz n = c' at *
  generalize sz n = s' at *
  constructor <;> grind
theorem z_add (m n : Int) : cz (m + n) = cz m * cz n - sz m * sz n ∧ sz (m + n) = sz m * cz n + cz m * sz n := by
  have up : ∀ k : Nat, cz (m + k) = cz m * cz k - sz m * sz k ∧ sz (m + k) = sz m * cz k + cz m * sz k := by
    intro k
    induction k with
    | zero => 
      rw [show (((0 : Nat) : Int)) = 0 from rfl, Int.add_zero, cz_zero, sz_zero]
      constructor <;> grind
    | succ k ih =>
      obtain ⟨i1, i2⟩ := ih
      obtain ⟨u1, u2⟩ := z_up (m + k)
      obtain ⟨v1, v2⟩ := z_up k
      rw [show m + ((k + 1 : Nat) : Int) = m + (k : Int) + 1 by omega, show ((k + 1 : Nat) : Int) = (k : Int) + 1 by omega, u1, u2, v1, v2, i1, i2]
      constructor <;> grind
  rcases Int.lt_or_le n 0 with h | h
  · obtain ⟨k, rfl⟩ : ∃ k : Nat, n = -(k : Int) := ⟨(-n).toNat, by omega⟩
    clear h up
    induction k with
    | zero =>
      rw [show -(((0 : Nat) : Int)) = 0 from rfl, Int.add_zero, cz_zero, sz_zero]
      constructor <;> grind
    | succ k ih =>
      obtain ⟨i1, i2⟩ := ih
      obtain ⟨u1, u2⟩ := z_down (m + -(k : Int))
      obtain ⟨v1, v2⟩ := z_down (-(k : Int))
      rw [show m + -((k + 1 : Nat) : Int) = m + -(k : Int) - 1 by omega, show -((k + 1 : Nat) : Int) = -(k : Int) - 1 by omega, u1, u2, v1, v2, i1, i2]
      constructor <;> grind
  · obtain ⟨k, rfl⟩ : ∃ k : Nat, n = (k : Int) := ⟨n.toNat, by omega⟩
    exact up k
theorem sq_nonneg (x : Rat) : 0 ≤ x * x := by
  rcases Rat.le_total (a := 0) (b := x) with h | h
  · exact Rat.mul_nonneg h h
  · have := Rat.mul_nonneg (a := -x) (b := -x) (by grind) (by grind)
    grind
theorem sq_le_one {x : Rat} (h : x * x ≤ 1) : -1 ≤ x ∧ x ≤ 1 := by
  constructor
  · refine Classical.byContradiction fun k => ?_
    have : 0 < (-1 - x) * (1 - x) := Rat.mul_pos (by grind) (by grind)
    grind
  · refine Classical.byContradiction fun k => ?_
    have : 0 < (x - 1) * (1 + x) := Rat.mul_pos (by grind) (by grind)
    grind
theorem cz_in (n : Int) : -1 ≤ cz n ∧ cz n ≤ 1 := sq_le_one (by have := cs_one n; have := sq_nonneg (sz n); grind)
theorem sz_in (n : Int) : -1 ≤ sz n ∧ sz n ≤ 1 := sq_le_one (by have := cs_one n; have := sq_nonneg (cz n); grind)
end Go.Proofs.YtglmkpnnbgkndaaDoor.L6
