/- Ratio: fractions as the rational numbers of Lean's core: no run of the model here. -/
import Derived.Test.YtlcmnfhkicjclaaDoorRows
namespace Go.Proofs.YtlcmnfhkicjclaaDoor
set_option linter.unusedVariables false

/-- does a rational number fit -/
def rfit (q : Rat) : Bool := decide (-1073741824 ≤ q.num ∧ q.num ≤ 1073741824 ∧ (q.den : Int) ≤ 1073741824)
theorem rfit_iff (q : Rat) : rfit q = true ↔ (-1073741824 ≤ q.num ∧ q.num ≤ 1073741824 ∧ (q.den : Int) ≤ 1073741824) := by unfold rfit; simp
theorem rfit_not (q : Rat) : rfit q = false ↔ ¬ (-1073741824 ≤ q.num ∧ q.num ≤ 1073741824 ∧ (q.den : Int) ≤ 1073741824) := by unfold rfit; rw [decide_eq_false_iff_not]
theorem rden_pos (q : Rat) : (1 : Int) ≤ (q.den : Int) := by have := q.den_pos; omega
/-- what Make answers for a value -/
def rN (q : Rat) : Int := if rfit q = true then q.num else 0
def rD (q : Rat) : Int := if rfit q = true then (q.den : Int) else 0
def rE (q : Rat) : Int := if rfit q = true then 0 else 5
theorem rN_fit {q : Rat} (h : rfit q = true) : rN q = q.num := if_pos h
theorem rD_fit {q : Rat} (h : rfit q = true) : rD q = (q.den : Int) := if_pos h
theorem rE_fit {q : Rat} (h : rfit q = true) : rE q = 0 := if_pos h
theorem rN_big {q : Rat} (h : rfit q = false) : rN q = 0 := if_neg (by rw [h]; simp)
theorem rD_big {q : Rat} (h : rfit q = false) : rD q = 0 := if_neg (by rw [h]; simp)
theorem rE_big {q : Rat} (h : rfit q = false) : rE q = 5 := if_neg (by rw [h]; simp)
/-- is a fraction valid -/
def rok (n d : Int) : Bool := decide (-1073741824 ≤ n ∧ n ≤ 1073741824 ∧ 1 ≤ d ∧ d ≤ 1073741824 ∧ n.natAbs.gcd d.natAbs = 1)
theorem rok_iff (n d : Int) : rok n d = true ↔ (-1073741824 ≤ n ∧ n ≤ 1073741824 ∧ 1 ≤ d ∧ d ≤ 1073741824 ∧ n.natAbs.gcd d.natAbs = 1) := by unfold rok; simp
theorem rok_not (n d : Int) : rok n d = false ↔ ¬ (-1073741824 ≤ n ∧ n ≤ 1073741824 ∧ 1 ≤ d ∧ d ≤ 1073741824 ∧ n.natAbs.gcd d.natAbs = 1) := by unfold rok; rw [decide_eq_false_iff_not]
theorem rok_rat {n d : Int} (h : rok n d = true) : ∃ q : Rat, rfit q = true ∧ n = q.num ∧ d = (q.den : Int) := by
  rw [rok_iff] at h
  obtain ⟨h1, h2, h3, h4, h5⟩ := h
  refine ⟨Rat.mk' n d.toNat (by omega) (by show n.natAbs.gcd d.toNat = 1; rw [show d.toNat = d.natAbs by omega]; exact h5), ?_, rfl, ?_⟩
  · rw [rfit_iff]; show -1073741824 ≤ n ∧ n ≤ 1073741824 ∧ ((d.toNat : Nat) : Int) ≤ 1073741824; omega
  · show d = ((d.toNat : Nat) : Int); omega
theorem rok_of {q : Rat} (h : rfit q = true) : rok q.num (q.den : Int) = true := by
  rw [rfit_iff] at h
  rw [rok_iff]
  exact ⟨h.1, h.2.1, rden_pos q, h.2.2, by rw [Int.natAbs_natCast]; exact q.reduced⟩
theorem rok_zero : rok 0 0 = false := by decide

/-- the parts of a quotient of integers -/
theorem divInt_den (n d : Int) (hd : d ≠ 0) : (Rat.divInt n d).den = d.natAbs / n.natAbs.gcd d.natAbs := by
  rw [Rat.den_divInt, if_neg hd]
  show d.natAbs / d.natAbs.gcd n.natAbs = _
  rw [Nat.gcd_comm]
theorem divInt_num (n d : Int) (hd : d ≠ 0) : (Rat.divInt n d).num = if (n < 0 ∧ ¬ d < 0) ∨ (¬ n < 0 ∧ d < 0) then -((n.natAbs / n.natAbs.gcd d.natAbs : Nat) : Int) else ((n.natAbs / n.natAbs.gcd d.natAbs : Nat) : Int) := by
  rw [Rat.num_divInt]
  show d.sign * n / ((d.natAbs.gcd n.natAbs : Nat) : Int) = _
  rw [Nat.gcd_comm]
  have hdv : n.natAbs.gcd d.natAbs ∣ n.natAbs := Nat.gcd_dvd_left _ _
  generalize n.natAbs.gcd d.natAbs = g at hdv
  have hdi : (g : Int) ∣ ((n.natAbs : Nat) : Int) := Int.natCast_dvd_natCast.2 hdv
  have e1 : ((n.natAbs : Nat) : Int) / (g : Int) = ((n.natAbs / g : Nat) : Int) := by rw [Int.natCast_ediv]
  have e2 : (-((n.natAbs : Nat) : Int)) / (g : Int) = -((n.natAbs / g : Nat) : Int) := by rw [Int.neg_ediv_of_dvd hdi, e1]
  by_cases h1 : n < 0
  · have hn : n = -((n.natAbs : Nat) : Int) := by omega
    by_cases h2 : d < 0
    · rw [if_neg (by omega), Int.sign_eq_neg_one_of_neg h2, show -1 * n = ((n.natAbs : Nat) : Int) by omega, e1]
    · rw [if_pos (by omega), Int.sign_eq_one_of_pos (by omega), Int.one_mul, show n / (g : Int) = (-((n.natAbs : Nat) : Int)) / (g : Int) by rw [← hn], e2]
  · have hn : n = ((n.natAbs : Nat) : Int) := by omega
    by_cases h2 : d < 0
    · rw [if_pos (by omega), Int.sign_eq_neg_one_of_neg h2, show -1 * n = -((n.natAbs : Nat) : Int) by omega, e2]
    · rw [if_neg (by omega), Int.sign_eq_one_of_pos (by omega), Int.one_mul, show n / (g : Int) = ((n.natAbs : Nat) : Int) / (g : Int) by rw [← hn], e1]
theorem gcd_pos (n d : Int) (hd : d ≠ 0) : 0 < n.natAbs.gcd d.natAbs := Nat.gcd_pos_of_pos_right _ (by omega)

/-- the greatest common divisor: a step, and the end -/
theorem gcd_step (a b : Nat) : a.gcd b = b.gcd (a % b) := by
  rw [Nat.gcd_comm a b, Nat.gcd_rec b a, Nat.gcd_comm]

/-- Go's quotient, stepped down where the rest is negative, is the floor -/
theorem tfloor (a b : Int) (hb : 0 < b) : (a.tmod b < 0 → a.tdiv b - 1 = a / b) ∧ (¬ a.tmod b < 0 → a.tdiv b = a / b) := by
  have h := Int.tmod_add_mul_tdiv a b
  have h1 := Int.tmod_lt_of_pos a hb
  have h2 := Int.lt_tmod_of_pos a hb
  generalize a.tmod b = r at *
  generalize a.tdiv b = q at *
  subst h
  constructor
  · intro hr
    rw [Int.add_mul_ediv_left _ _ (by omega)]
    have : r / b = -1 := by rw [Int.ediv_eq_iff_of_pos hb]; omega
    omega
  · intro hr
    rw [Int.add_mul_ediv_left _ _ (by omega), Int.ediv_eq_zero_of_lt (by omega) h1]
    omega
/-- the order of two fractions -/
def rcmp (a b : Rat) : Int := if a < b then -1 else if b < a then 1 else 0
theorem rcmp_int (a b : Rat) : rcmp a b = if a.num * (b.den : Int) < b.num * (a.den : Int) then -1 else if b.num * (a.den : Int) < a.num * (b.den : Int) then 1 else 0 := by
  unfold rcmp
  simp only [Rat.lt_iff]
theorem rcmp_eq (a b : Rat) : rcmp a b = 0 ↔ a = b := by
  unfold rcmp
  by_cases h1 : a < b
  · rw [if_pos h1]; constructor
    · intro h; omega
    · intro h; subst h; exact absurd h1 (by grind)
  · rw [if_neg h1]
    by_cases h2 : b < a
    · rw [if_pos h2]; constructor
      · intro h; omega
      · intro h; subst h; exact absurd h2 (by grind)
    · rw [if_neg h2]; constructor
      · intro _; grind
      · intro _; rfl
theorem rcmp_anti (a b : Rat) : rcmp a b = -rcmp b a := by
  unfold rcmp
  by_cases h1 : a < b
  · rw [if_pos h1, if_neg (by grind), if_pos h1]
  · rw [if_neg h1]
    by_cases h2 : b < a
    · rw [if_pos h2, if_pos h2]; rfl
    · rw [if_neg h2, if_neg h2, if_neg h1]; rfl
theorem rcmp_bd (a b : Rat) : -1 ≤ rcmp a b ∧ rcmp a b ≤ 1 := by
  unfold rcmp; split
  · omega
  · split <;> omega
theorem rcmp_le (a b : Rat) : rcmp a b ≤ 0 ↔ a ≤ b := by
  unfold rcmp; split
  · constructor
    · intro _; grind
    · intro _; omega
  · split
    · constructor
      · intro h; omega
      · intro h; grind
    · constructor
      · intro _; grind
      · intro _; omega
theorem rcmp_lt (a b : Rat) : rcmp a b < 0 ↔ a < b := by
  unfold rcmp; split
  · constructor
    · intro _; assumption
    · intro _; omega
  · split
    · constructor
      · intro h; omega
      · intro h; grind
    · constructor
      · intro h; omega
      · intro h; grind
theorem rcmp_add (a b c : Rat) : rcmp (a + c) (b + c) = rcmp a b := by
  unfold rcmp
  by_cases h1 : a < b
  · rw [if_pos h1, if_pos (by grind)]
  · rw [if_neg h1, if_neg (by grind)]
    by_cases h2 : b < a
    · rw [if_pos h2, if_pos (by grind)]
    · rw [if_neg h2, if_neg (by grind)]

/-- the four operations, as quotients of integers -/
theorem den_ne (q : Rat) : (q.den : Int) ≠ 0 := by have := q.den_pos; omega
theorem add_parts (a b : Rat) : Rat.divInt (a.num * (b.den : Int) + b.num * (a.den : Int)) ((a.den : Int) * (b.den : Int)) = a + b := by
  rw [← Rat.divInt_add_divInt _ _ (den_ne a) (den_ne b), Rat.num_divInt_den, Rat.num_divInt_den]
theorem sub_parts (a b : Rat) : Rat.divInt (a.num * (b.den : Int) - b.num * (a.den : Int)) ((a.den : Int) * (b.den : Int)) = a - b := by
  rw [← Rat.divInt_sub_divInt _ _ (den_ne a) (den_ne b), Rat.num_divInt_den, Rat.num_divInt_den]
theorem mul_parts (a b : Rat) : Rat.divInt (a.num * b.num) ((a.den : Int) * (b.den : Int)) = a * b := by
  rw [← Rat.divInt_mul_divInt, Rat.num_divInt_den, Rat.num_divInt_den]
theorem div_parts (a b : Rat) : Rat.divInt (a.num * (b.den : Int)) ((a.den : Int) * b.num) = a / b := by
  rw [← Rat.divInt_mul_divInt, Rat.num_divInt_den, ← Rat.inv_divInt, Rat.num_divInt_den, Rat.div_def]
theorem num_zero (q : Rat) : q.num = 0 ↔ q = 0 := Rat.num_eq_zero
theorem neg_parts (q : Rat) : -q.num = (-q).num ∧ q.den = (-q).den := ⟨rfl, rfl⟩
theorem rfit_neg (q : Rat) (h : rfit q = true) : rfit (-q) = true := by
  rw [rfit_iff] at *
  show -1073741824 ≤ -q.num ∧ -q.num ≤ 1073741824 ∧ (q.den : Int) ≤ 1073741824
  omega
theorem self_parts (q : Rat) : Rat.divInt q.num (q.den : Int) = q := Rat.num_divInt_den q
/-- bounds of products -/
theorem mul_bd (a b A B : Int) (h1 : -A ≤ a) (h2 : a ≤ A) (h3 : -B ≤ b) (h4 : b ≤ B) : -(A * B) ≤ a * b ∧ a * b ≤ A * B := by
  have h := Nat.mul_le_mul (show a.natAbs ≤ A.natAbs by omega) (show b.natAbs ≤ B.natAbs by omega)
  rw [← Int.natAbs_mul, ← Int.natAbs_mul] at h
  have : 0 ≤ A * B := Int.mul_nonneg (by omega) (by omega)
  omega
end Go.Proofs.YtlcmnfhkicjclaaDoor
