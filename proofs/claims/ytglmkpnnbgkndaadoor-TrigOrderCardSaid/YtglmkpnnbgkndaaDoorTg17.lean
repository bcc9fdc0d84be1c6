/- Trig: the program's numbers of two limbs, in plain numbers, and their errors. No run of the model here. -/
import Derived.Test.YtglmkpnnbgkndaaDoorTg13
namespace Go.Proofs.YtglmkpnnbgkndaaDoor.L6
set_option linter.unusedVariables false
set_option maxRecDepth 100000

/-- the product of two fractions, in units of 2^-128 -/
def pm (a b : Nat) : Nat := (a / 18446744073709551616) * (b / 18446744073709551616) + (a / 18446744073709551616) * (b % 18446744073709551616) / 18446744073709551616 + (a % 18446744073709551616) * (b / 18446744073709551616) / 18446744073709551616
theorem pm_in (a b : Nat) : pm a b * 340282366920938463463374607431768211456 ≤ a * b ∧ a * b ≤ pm a b * 340282366920938463463374607431768211456 + 3 * 340282366920938463463374607431768211456 := by
  unfold pm
  have e1 := Nat.div_add_mod a 18446744073709551616
  have e2 := Nat.div_add_mod b 18446744073709551616
  have l1 := Nat.mod_lt a (show 0 < 18446744073709551616 by decide)
  have l2 := Nat.mod_lt b (show 0 < 18446744073709551616 by decide)
  generalize a / 18446744073709551616 = p at *
  generalize a % 18446744073709551616 = q at *
  generalize b / 18446744073709551616 = r at *
  generalize b % 18446744073709551616 = s at *
  have eq : a * b = p * r * 340282366920938463463374607431768211456 + (p * s + q * r) * 18446744073709551616 + q * s := by
    rw [← e1, ← e2, Nat.add_mul, Nat.mul_add, Nat.mul_add]
    have x1 : 18446744073709551616 * p * (18446744073709551616 * r) = p * r * 340282366920938463463374607431768211456 := by
      rw [Nat.mul_mul_mul_comm, Nat.mul_comm]
    have x2 : 18446744073709551616 * p * s = p * s * 18446744073709551616 := by rw [Nat.mul_assoc, Nat.mul_comm]
    have x3 : q * (18446744073709551616 * r) = q * r * 18446744073709551616 := by rw [Nat.mul_left_comm, Nat.mul_comm]
    rw [x1, x2, x3, Nat.add_mul]
    omega
  have d1 := Nat.div_add_mod (p * s) 18446744073709551616
  have d2 := Nat.div_add_mod (q * r) 18446744073709551616
  have m1 := Nat.mod_lt (p * s) (show 0 < 18446744073709551616 by decide)
  have m2 := Nat.mod_lt (q * r) (show 0 < 18446744073709551616 by decide)
  have qs : q * s ≤ 18446744073709551616 * 18446744073709551616 := Nat.mul_le_mul (by omega) (by omega)
  rw [eq]
  generalize p * r = A at *
  generalize p * s = B at *
  generalize q * r = C at *
  generalize q * s = D at *
  omega
theorem pm_le (a b : Nat) (h : a ≤ 340282366920938463463374607431768211456) : pm a b ≤ b := by
  have h1 := (pm_in a b).1
  have h2 := Nat.mul_le_mul_right b h
  have h3 : 340282366920938463463374607431768211456 * b = b * 340282366920938463463374607431768211456 := Nat.mul_comm _ _
  omega
def pq : Rat := ((340282366920938463463374607431768211456 : Nat) : Rat)
theorem pq_pos : 0 < pq := by decide +kernel
theorem pq_frac (X : Nat) : ∃ x : Rat, 0 ≤ x ∧ (X : Rat) = pq * x := by
  have P := pq_pos
  refine ⟨(X : Rat) / pq, ?_, ?_⟩
  · refine Rat.le_of_mul_le_mul_left (c := pq) ?_ P
    rw [Rat.mul_comm pq ((X : Rat) / pq), Rat.div_mul_cancel (by grind)]
    have : (0 : Rat) ≤ (X : Rat) := Rat.natCast_nonneg
    grind
  · rw [Rat.mul_comm, Rat.div_mul_cancel (by grind)]
theorem pq_le {X : Nat} {x : Rat} (h : (X : Rat) = pq * x) (l : X ≤ 340282366920938463463374607431768211456) : x ≤ 1 := by
  have P := pq_pos
  refine Rat.le_of_mul_le_mul_left (c := pq) ?_ P
  rw [← h]
  have : (X : Rat) ≤ pq := (Rat.natCast_le_natCast).2 l
  grind
theorem pm_frac {a b : Nat} {a' b' : Rat} (ha : (a : Rat) = pq * a') (hb : (b : Rat) = pq * b') : (pm a b : Rat) ≤ pq * (a' * b') ∧ pq * (a' * b') ≤ (pm a b : Rat) + 3 := by
  obtain ⟨h1, h2⟩ := pm_in a b
  have r1 := (Rat.natCast_le_natCast).2 h1
  have r2 := (Rat.natCast_le_natCast).2 h2
  rw [Rat.natCast_mul, Rat.natCast_mul] at r1
  rw [Rat.natCast_add, Rat.natCast_mul, Rat.natCast_mul, Rat.natCast_mul] at r2
  have c3 : ((3 : Nat) : Rat) = 3 := rfl
  rw [c3] at r2
  change (pm a b : Rat) * pq ≤ _ at r1
  change _ ≤ (pm a b : Rat) * pq + 3 * pq at r2
  rw [ha, hb] at r1 r2
  have P := pq_pos
  generalize (pm a b : Rat) = H at *
  generalize pq = p at *
  clear h1 h2 c3 ha hb
  constructor
  · refine Rat.le_of_mul_le_mul_left (c := p) ?_ P
    grind
  · refine Rat.le_of_mul_le_mul_left (c := p) ?_ P
    grind
/-- the product of near numbers -/
theorem pm_near {a b : Nat} {x y d e : Rat} (x0 : 0 ≤ x) (x1 : x ≤ 1) (bl : b ≤ 340282366920938463463374607431768211456) (ha : -d ≤ (a : Rat) - pq * x ∧ (a : Rat) - pq * x ≤ d) (hb : -e ≤ (b : Rat) - pq * y ∧ (b : Rat) - pq * y ≤ e) :
    -(d + e + 3) ≤ (pm a b : Rat) - pq * (x * y) ∧ (pm a b : Rat) - pq * (x * y) ≤ d + e + 3 := by
  obtain ⟨a', a0, ea⟩ := pq_frac a
  obtain ⟨b', b0, eb⟩ := pq_frac b
  have b1 := pq_le eb bl
  obtain ⟨m1, m2⟩ := pm_frac ea eb
  rw [ea] at ha
  rw [eb] at hb
  generalize (pm a b : Rat) = H at *
  generalize pq = p at *
  clear ea eb
  have k1 := mul_in ha.1 ha.2 (show -1 ≤ b' by grind) b1
  have k2 := mul_in hb.1 hb.2 (show -1 ≤ x by grind) x1
  have eq : p * (a' * b') - p * (x * y) = (p * a' - p * x) * b' + (p * b' - p * y) * x := by grind
  generalize (p * a' - p * x) * b' = u at *
  generalize (p * b' - p * y) * x = v at *
  generalize p * (a' * b') = z at *
  generalize p * (x * y) = z' at *
  constructor <;> grind
/-- the coefficients -/
def cf (i : Nat) : Nat := 340282366920938463463374607431768211456 / fct (i + 2)
theorem fct_pos (m : Nat) : 0 < fct m := by
  induction m with
  | zero => decide
  | succ m ih => exact Nat.mul_pos ih (Nat.succ_pos m)
theorem fct_rat (m : Nat) : (0 : Rat) < (fct m : Rat) := by
  have := (Rat.natCast_le_natCast (a := 1) (b := fct m)).2 (fct_pos m)
  have e : ((1 : Nat) : Rat) = 1 := rfl
  grind
theorem cf_near (i : Nat) : (cf i : Rat) ≤ pq * (1 / (fct (i + 2) : Rat)) ∧ pq * (1 / (fct (i + 2) : Rat)) ≤ (cf i : Rat) + 1 := by
  have f := fct_rat (i + 2)
  have d1 := Nat.div_mul_le_self 340282366920938463463374607431768211456 (fct (i + 2))
  have d2 := Nat.lt_div_mul_add (a := 340282366920938463463374607431768211456) (b := fct (i + 2)) (fct_pos _)
  change cf i * fct (i + 2) ≤ _ at d1
  change _ < cf i * fct (i + 2) + fct (i + 2) at d2
  have r1 := (Rat.natCast_le_natCast).2 d1
  have r2 := (Rat.natCast_le_natCast).2 (Nat.le_of_lt d2)
  rw [Rat.natCast_mul] at r1
  rw [Rat.natCast_add, Rat.natCast_mul] at r2
  change _ ≤ pq at r1
  change pq ≤ _ at r2
  have c : 1 / (fct (i + 2) : Rat) * (fct (i + 2) : Rat) = 1 := Rat.div_mul_cancel (by grind)
  generalize (fct (i + 2) : Rat) = g at *
  generalize (cf i : Rat) = H at *
  generalize pq = p at *
  generalize 1 / g = t at *
  constructor
  · refine Rat.le_of_mul_le_mul_right (c := g) ?_ f
    rw [Rat.mul_assoc, c, Rat.mul_one]
    grind
  · refine Rat.le_of_mul_le_mul_right (c := g) ?_ f
    rw [Rat.mul_assoc, c, Rat.mul_one]
    grind
theorem cf_fall (i : Nat) : cf (i + 1) ≤ cf i := by
  unfold cf
  refine Nat.div_le_div_left ?_ (fct_pos _)
  show fct (i + 2) ≤ fct (i + 2) * (i + 2 + 1)
  exact Nat.le_mul_of_pos_right _ (by omega)
theorem cf_fall2 (i : Nat) : cf (i + 2) ≤ cf i := Nat.le_trans (cf_fall (i + 1)) (cf_fall i)
theorem cf_le (i : Nat) : cf i ≤ 340282366920938463463374607431768211456 := Nat.div_le_self _ _
/-- the series -/
def ser (f S : Nat) : Nat → Nat
  | 0 => cf (f + 18)
  | j + 1 => cf (f + 16 - 2 * j) - pm S (ser f S j)
theorem ser_le (f S : Nat) (j : Nat) : ser f S j ≤ cf (f + 18 - 2 * j) := by
  cases j with
  | zero => exact Nat.le_refl _
  | succ j => rw [show f + 18 - 2 * (j + 1) = f + 16 - 2 * j by omega]; exact Nat.sub_le _ _
theorem ser_fit (f S : Nat) (hS : S ≤ 340282366920938463463374607431768211456) (j : Nat) (hj : j ≤ 8) : pm S (ser f S j) ≤ cf (f + 16 - 2 * j) := by
  have a := pm_le S (ser f S j) hS
  have b := ser_le f S j
  have c := cf_fall2 (f + 16 - 2 * j)
  rw [show f + 16 - 2 * j + 2 = f + 18 - 2 * j by omega] at c
  omega
/-- Horner's sums, exact -/
def hp (f : Nat) (s : Rat) : Nat → Rat
  | 0 => 1 / (fct (f + 20) : Rat)
  | j + 1 => 1 / (fct (f + 18 - 2 * j) : Rat) - s * hp f s j
theorem ser_near (f S : Nat) (s : Rat) (hS : S ≤ 340282366920938463463374607431768211456) (s0 : 0 ≤ s) (s1 : s ≤ 1) (h1 : (S : Rat) ≤ pq * s) (h2 : pq * s ≤ (S : Rat) + 3) :
    ∀ j : Nat, j ≤ 9 → -(7 * (j : Rat) + 1) ≤ (ser f S j : Rat) - pq * hp f s j ∧ (ser f S j : Rat) - pq * hp f s j ≤ 7 * (j : Rat) + 1 := by
  intro j
  induction j with
  | zero =>
    intro _
    have c := cf_near (f + 18)
    have z : ((0 : Nat) : Rat) = 0 := rfl
    have e1 : ser f S 0 = cf (f + 18) := rfl
    have e2 : hp f s 0 = 1 / (fct (f + 18 + 2) : Rat) := rfl
    rw [e1, e2, z]
    generalize pq * (1 / (fct (f + 18 + 2) : Rat)) = u at *
    constructor <;> grind
  | succ j ih =>
    intro hj
    have i := ih (by omega)
    have fit := ser_fit f S hS j (by omega)
    have ql : ser f S j ≤ 340282366920938463463374607431768211456 := Nat.le_trans (ser_le f S j) (cf_le _)
    have n := pm_near (a := S) (b := ser f S j) (x := s) (y := hp f s j) (d := 3) (e := 7 * (j : Rat) + 1) s0 s1 ql ⟨by grind, by grind⟩ i
    have c := cf_near (f + 16 - 2 * j)
    rw [show f + 16 - 2 * j + 2 = f + 18 - 2 * j by omega] at c
    have e1 : ser f S (j + 1) = cf (f + 16 - 2 * j) - pm S (ser f S j) := rfl
    have e2 : hp f s (j + 1) = 1 / (fct (f + 18 - 2 * j) : Rat) - s * hp f s j := rfl
    have e3 : ((j + 1 : Nat) : Rat) = (j : Rat) + 1 := by rw [Rat.natCast_add]; rfl
    have e4 : ((cf (f + 16 - 2 * j) - pm S (ser f S j) : Nat) : Rat) = (cf (f + 16 - 2 * j) : Rat) - (pm S (ser f S j) : Rat) := by
      have : ((cf (f + 16 - 2 * j) - pm S (ser f S j) + pm S (ser f S j) : Nat) : Rat) = (cf (f + 16 - 2 * j) : Rat) := by rw [Nat.sub_add_cancel fit]
      rw [Rat.natCast_add] at this
      grind
    rw [e1, e2, e3, e4]
    have e5 : pq * (1 / (fct (f + 18 - 2 * j) : Rat) - s * hp f s j) = pq * (1 / (fct (f + 18 - 2 * j) : Rat)) - pq * (s * hp f s j) := by grind
    rw [e5]
    generalize pq * (1 / (fct (f + 18 - 2 * j) : Rat)) = u at *
    generalize pq * (s * hp f s j) = v at *
    generalize (cf (f + 16 - 2 * j) : Rat) = c at *
    generalize (pm S (ser f S j) : Rat) = t at *
    constructor <;> grind
/-- Horner's sums are Taylor's -/
theorem alT_shift (T : Nat → Rat) (k : Nat) : alT T (k + 1) = T 0 - alT (fun i => T (i + 1)) k := by
  induction k with
  | zero => show (0 : Rat) + sg 0 * T 0 = T 0 - 0; unfold sg; rw [if_pos rfl]; grind
  | succ k ih =>
    show alT T (k + 1) + sg (k + 1) * T (k + 1) = T 0 - (alT _ k + sg k * T (k + 1))
    rw [ih, sg_succ]; grind
theorem alT_congr {T U : Nat → Rat} (h : ∀ i, T i = U i) (k : Nat) : alT T k = alT U k := by
  induction k with
  | zero => rfl
  | succ k ih => show alT T k + _ = alT U k + _; rw [ih, h k]
def wp (x : Rat) (m : Nat) : Rat := ap' x m * (fct m : Rat)
theorem wp_succ (x : Rat) (m : Nat) : wp x (m + 1) = wp x m * x := by
  unfold wp
  have e := ap_succ x m
  have f : (fct (m + 1) : Rat) = (fct m : Rat) * ((m + 1 : Nat) : Rat) := mul_cast (fct m) (m + 1)
  rw [f]
  generalize ((m + 1 : Nat) : Rat) = k at *
  generalize (fct m : Rat) = g at *
  grind
theorem wp_inv (x : Rat) (m : Nat) : wp x m * (1 / (fct m : Rat)) = ap' x m := by
  unfold wp
  have f := fct_rat m
  have c : 1 / (fct m : Rat) * (fct m : Rat) = 1 := Rat.div_mul_cancel (by grind)
  generalize (fct m : Rat) = g at *
  generalize 1 / g = t at *
  grind
theorem hp_sum (f : Nat) (x : Rat) : ∀ j a, a + j = 10 → wp x (f + 2 * a) * hp f (x * x) j = alT (fun i => ap' x (f + 2 * (a + i))) (j + 1) := by
  intro j
  induction j with
  | zero =>
    intro a h
    have : a = 10 := by omega
    subst this
    show wp x (f + 20) * (1 / (fct (f + 20) : Rat)) = (0 : Rat) + sg 0 * ap' x (f + 20)
    rw [wp_inv]; unfold sg; rw [if_pos rfl]; grind
  | succ j ih =>
    intro a h
    have i := ih (a + 1) (by omega)
    rw [alT_shift]
    have e : alT (fun i => ap' x (f + 2 * (a + (i + 1)))) (j + 1) = alT (fun i => ap' x (f + 2 * (a + 1 + i))) (j + 1) := alT_congr (fun i => by rw [show a + (i + 1) = a + 1 + i by omega]) _
    rw [e, ← i]
    show wp x (f + 2 * a) * (1 / (fct (f + 18 - 2 * j) : Rat) - x * x * hp f (x * x) j) = ap' x (f + 2 * (a + 0)) - _
    rw [show f + 18 - 2 * j = f + 2 * a by omega, Nat.add_zero, ← wp_inv x (f + 2 * a), show f + 2 * (a + 1) = f + 2 * a + 1 + 1 by omega, wp_succ, wp_succ]
    grind
theorem s_horner (x : Rat) : sT 22 x = x - x * (x * x * hp 1 (x * x) 9) := by
  have h := hp_sum 1 x 9 1 rfl
  have a := s_alt x 11
  rw [show (2 * 11 : Nat) = 22 from rfl, alT_shift] at a
  have e : alT (fun i => ap' x (2 * (i + 1) + 1)) 10 = alT (fun i => ap' x (1 + 2 * (1 + i))) (9 + 1) := alT_congr (fun i => by rw [show 2 * (i + 1) + 1 = 1 + 2 * (1 + i) by omega]) _
  rw [e, ← h, show (1 + 2 * 1 : Nat) = 0 + 1 + 1 + 1 from rfl, wp_succ, wp_succ, wp_succ] at a
  have a1 : ap' x (2 * 0 + 1) = x := (ap8 x).2.1
  have w0 : wp x 0 = 1 := by show (1 : Rat) * ((1 : Nat) : Rat) = 1; decide +kernel
  rw [a, a1, w0]; grind
theorem c_horner (x : Rat) : cT 22 x = 1 - x * x * hp 0 (x * x) 9 := by
  have h := hp_sum 0 x 9 1 rfl
  have a := c_alt x 11
  rw [show (2 * 11 : Nat) = 22 from rfl, alT_shift] at a
  have e : alT (fun i => ap' x (2 * (i + 1))) 10 = alT (fun i => ap' x (0 + 2 * (1 + i))) (9 + 1) := alT_congr (fun i => by rw [show 2 * (i + 1) = 0 + 2 * (1 + i) by omega]) _
  rw [e, ← h, show (0 + 2 * 1 : Nat) = 0 + 1 + 1 from rfl, wp_succ, wp_succ] at a
  have a1 : ap' x (2 * 0) = 1 := rfl
  have w0 : wp x 0 = 1 := by show (1 : Rat) * ((1 : Nat) : Rat) = 1; decide +kernel
  rw [a, a1, w0]; grind
end Go.Proofs.YtglmkpnnbgkndaaDoor.L6
