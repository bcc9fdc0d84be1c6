/- Trig: the quick sine of the reference, in plain numbers, and its error. No run of the model here. -/
import Derived.Test.YtglmkpnnbgkndaaDoorTg9
import Derived.Test.YtglmkpnnbgkndaaDoorTg6
namespace Go.Proofs.YtglmkpnnbgkndaaDoor.L6
set_option linter.unusedVariables false
set_option maxRecDepth 100000

/-- the product of two numbers up to 2^62, divided by 2^62 -/
def hiN (a b : Nat) : Nat := (a / 2147483648) * (b / 2147483648) + (a / 2147483648) * (b % 2147483648) / 2147483648 + (a % 2147483648) * (b / 2147483648) / 2147483648
theorem hiN_in (a b : Nat) : hiN a b * 4611686018427387904 ≤ a * b ∧ a * b ≤ hiN a b * 4611686018427387904 + 3 * 4611686018427387904 := by
  unfold hiN
  have e1 := Nat.div_add_mod a 2147483648
  have e2 := Nat.div_add_mod b 2147483648
  have l1 := Nat.mod_lt a (show 0 < 2147483648 by decide)
  have l2 := Nat.mod_lt b (show 0 < 2147483648 by decide)
  generalize a / 2147483648 = p at *
  generalize a % 2147483648 = q at *
  generalize b / 2147483648 = r at *
  generalize b % 2147483648 = s at *
  have eq : a * b = p * r * 4611686018427387904 + (p * s + q * r) * 2147483648 + q * s := by
    rw [← e1, ← e2, Nat.add_mul, Nat.mul_add, Nat.mul_add]
    have x1 : 2147483648 * p * (2147483648 * r) = p * r * 4611686018427387904 := by
      rw [Nat.mul_mul_mul_comm, Nat.mul_comm]
    have x2 : 2147483648 * p * s = p * s * 2147483648 := by rw [Nat.mul_assoc, Nat.mul_comm]
    have x3 : q * (2147483648 * r) = q * r * 2147483648 := by rw [Nat.mul_left_comm, Nat.mul_comm]
    rw [x1, x2, x3, Nat.add_mul]
    omega
  have d1 := Nat.div_add_mod (p * s) 2147483648
  have d2 := Nat.div_add_mod (q * r) 2147483648
  have m1 := Nat.mod_lt (p * s) (show 0 < 2147483648 by decide)
  have m2 := Nat.mod_lt (q * r) (show 0 < 2147483648 by decide)
  have qs : q * s ≤ 2147483648 * 2147483648 := Nat.mul_le_mul (by omega) (by omega)
  rw [eq]
  generalize p * r = A at *
  generalize p * s = B at *
  generalize q * r = C at *
  generalize q * s = D at *
  omega
theorem hiN_zero (b : Nat) : hiN 0 b = 0 := by unfold hiN; simp
/-- the divisors -/
def dv (d : Nat) (k : Nat) : Nat := (d + 2 * k) * (d + 2 * k + 1)
/-- the terms -/
def tmN (t0 sq d : Nat) : Nat → Nat
  | 0 => t0
  | k + 1 => hiN (tmN t0 sq d k) sq / dv d k
/-- their sum, with signs -/
def alN (t0 sq d : Nat) : Nat → Int
  | 0 => 0
  | k + 1 => alN t0 sq d k + (if k % 2 = 0 then (tmN t0 sq d k : Int) else -(tmN t0 sq d k : Int))
def p62 : Rat := ((4611686018427387904 : Nat) : Rat)
theorem p62_pos : 0 < p62 := by decide +kernel
/-- one term more: the error stays below 8 -/
theorem term_step {t sq X D t' : Nat} {T T' x : Rat} (hx0 : 0 ≤ x) (hx1 : x ≤ 1) (hX : (X : Rat) = p62 * x) (hsq : sq = hiN X X) (hD : 2 ≤ D) (ht : t' = hiN t sq / D)
    (hT : (D : Rat) * T' = T * (x * x)) (h1 : (t : Rat) ≤ T) (h2 : T ≤ (t : Rat) + 8) (h3 : T ≤ p62) : (t' : Rat) ≤ T' ∧ T' ≤ (t' : Rat) + 8 := by
  obtain ⟨s1, s2⟩ := hiN_in X X
  obtain ⟨u1, u2⟩ := hiN_in t sq
  rw [← hsq] at s1 s2
  have d1 := Nat.div_mul_le_self (hiN t sq) D
  have d2 := Nat.lt_div_mul_add (a := hiN t sq) (b := D) (by omega)
  rw [← ht] at d1 d2
  have r1 := (Rat.natCast_le_natCast).2 s1
  have r2 := (Rat.natCast_le_natCast).2 s2
  have r3 := (Rat.natCast_le_natCast).2 u1
  have r4 := (Rat.natCast_le_natCast).2 u2
  have r5 := (Rat.natCast_le_natCast).2 d1
  have r6 := (Rat.natCast_le_natCast).2 (Nat.le_of_lt d2)
  have r7 := (Rat.natCast_le_natCast).2 hD
  rw [Rat.natCast_mul, Rat.natCast_mul] at r1 r3
  rw [Rat.natCast_add, Rat.natCast_mul, Rat.natCast_mul, Rat.natCast_mul] at r2 r4
  rw [Rat.natCast_mul] at r5
  rw [Rat.natCast_add, Rat.natCast_mul] at r6
  have c3 : ((3 : Nat) : Rat) = 3 := rfl
  have c2 : ((2 : Nat) : Rat) = 2 := rfl
  rw [c3] at r2 r4
  rw [c2] at r7
  rw [hX] at r1 r2
  change (sq : Rat) * p62 ≤ _ at r1
  change _ ≤ (sq : Rat) * p62 + 3 * p62 at r2
  change (hiN t sq : Rat) * p62 ≤ _ at r3
  change _ ≤ (hiN t sq : Rat) * p62 + 3 * p62 at r4
  have P := p62_pos
  have t0 : (0 : Rat) ≤ (t : Rat) := Rat.natCast_nonneg
  have q0 : (0 : Rat) ≤ (t' : Rat) := Rat.natCast_nonneg
  generalize (hiN t sq : Rat) = H at *
  generalize (sq : Rat) = S at *
  generalize (t : Rat) = a at *
  generalize (t' : Rat) = a' at *
  generalize (D : Rat) = d at *
  generalize p62 = p at *
  clear s1 s2 u1 u2 d1 d2 hsq ht hD hX
  -- S <= p x x, S >= p x x - 3
  have S1 : S ≤ p * (x * x) := by
    refine Rat.le_of_mul_le_mul_left (c := p) ?_ P
    grind
  have S2 : p * (x * x) ≤ S + 3 := by
    refine Rat.le_of_mul_le_mul_left (c := p) ?_ P
    grind
  have xx : 0 ≤ x * x := Rat.mul_nonneg hx0 hx0
  have xx1 : x * x ≤ 1 := by
    have := Rat.mul_le_mul_of_nonneg_left hx1 hx0
    grind
  have H1 : H ≤ a * (x * x) := by
    refine Rat.le_of_mul_le_mul_right (c := p) ?_ P
    have := Rat.mul_le_mul_of_nonneg_left S1 t0
    grind
  have H2 : a * (x * x) ≤ H + 6 := by
    refine Rat.le_of_mul_le_mul_right (c := p) ?_ P
    have m1 := Rat.mul_le_mul_of_nonneg_left S2 t0
    grind
  have dpos : 0 < d := by grind
  constructor
  · refine Rat.le_of_mul_le_mul_left (c := d) ?_ dpos
    have := Rat.mul_le_mul_of_nonneg_right h1 xx
    grind
  · refine Rat.le_of_mul_le_mul_left (c := d) ?_ dpos
    have m1 := Rat.mul_le_mul_of_nonneg_right h2 xx
    have m2 := Rat.mul_le_mul_of_nonneg_left xx1 (show (0 : Rat) ≤ 8 by decide +kernel)
    have m3 : 14 ≤ 7 * d := by grind
    grind
end Go.Proofs.YtglmkpnnbgkndaaDoor.L6
