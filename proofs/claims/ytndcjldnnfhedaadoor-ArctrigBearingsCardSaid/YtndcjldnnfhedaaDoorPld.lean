/- Plain numbers: the limbs, and the arcsine. -/
import Derived.Test.YtndcjldnnfhedaaDoorPlb
/- Trig: the program's numbers of two limbs, in plain numbers, and their errors. No run of the model here. -/
namespace Go.Proofs.YtndcjldnnfhedaaDoor.L6
set_option linter.unusedVariables false
set_option maxRecDepth 100000

/-- the product of two fractions, in units of 2^-128 -/
def pm (a b : Nat) : Nat := (a / 18446744073709551616) * (b / 18446744073709551616) + (a / 18446744073709551616) * (b % 18446744073709551616) / 18446744073709551616 + (a % 18446744073709551616) * (b / 18446744073709551616) / 18446744073709551616
theorem pm_in (a b : Nat) : pm a b * 340282366920938463463374607431768211456 ≤ a * b ∧ a * b ≤ pm a b * 340282366920938463463374607431768211456 + 3 * 340282366920938463463374607431768211456 := by
  unfold pm
  have e1 := Nat.div_add_mod a 18446744073709551616
  have e2 := Nat.div_add_mod b 18446744073709551616
  have l1 := Nat.mod_lt a (show 0 < 18446744073709551616 by decide)
  have l2 := Nat.mod_lt b (show 0 < 18446744073709551616 by decide)
  generalize a / 18446744073709551616 = p at *
  generalize a % 18446744073709551616 = q at *
  generalize b / 18446744073709551616 = r at *
  generalize b % 18446744073709551616 = s at *
  have eq : a * b = p * r * 340282366920938463463374607431768211456 + (p * s + q * r) * 18446744073709551616 + q * s := by
    rw [← e1, ← e2, Nat.add_mul, Nat.mul_add, Nat.mul_add]
    have x1 : 18446744073709551616 * p * (18446744073709551616 * r) = p * r * 340282366920938463463374607431768211456 := by
      rw [Nat.mul_mul_mul_comm, Nat.mul_comm]
    have x2 : 18446744073709551616 * p * s = p * s * 18446744073709551616 := by rw [Nat.mul_assoc, Nat.mul_comm]
    have x3 : q * (18446744073709551616 * r) = q * r * 18446744073709551616 := by rw [Nat.mul_left_comm, Nat.mul_comm]
    rw [x1, x2, x3, Nat.add_mul]
    omega
  have d1 := Nat.div_add_mod (p * s) 18446744073709551616
  have d2 := Nat.div_add_mod (q * r) 18446744073709551616
  have m1 := Nat.mod_lt (p * s) (show 0 < 18446744073709551616 by decide)
  have m2 := Nat.mod_lt (q * r) (show 0 < 18446744073709551616 by decide)
  have qs : q * s ≤ 18446744073709551616 * 18446744073709551616 := Nat.mul_le_mul (by omega) (by omega)
  rw [eq]
  generalize p * r = A at *
  generalize p * s = B at *
  generalize q * r = C at *
  generalize q * s = D at *
  omega
theorem pm_le (a b : Nat) (h : a ≤ 340282366920938463463374607431768211456) : pm a b ≤ b := by
  have h1 := (pm_in a b).1
  have h2 := Nat.mul_le_mul_right b h
  have h3 : 340282366920938463463374607431768211456 * b = b * 340282366920938463463374607431768211456 := Nat.mul_comm _ _
  omega
def pq : Rat := ((340282366920938463463374607431768211456 : Nat) : Rat)
theorem pq_pos : 0 < pq := by decide +kernel
theorem pq_frac (X : Nat) : ∃ x : Rat, 0 ≤ x ∧ (X : Rat) = pq * x := by
  have P := pq_pos
  refine ⟨(X : Rat) / pq, ?_, ?_⟩
  · refine Rat.le_of_mul_le_mul_left (c := pq) ?_ P
    rw [Rat.mul_comm pq ((X : Rat) / pq), Rat.div_mul_cancel (by grind)]
    have : (0 : Rat) ≤ (X : Rat) := Rat.natCast_nonneg
    grind
  · rw [Rat.mul_comm, Rat.div_mul_cancel (by grind)]
theorem pq_le {X : Nat} {x : Rat} (h : (X : Rat) = pq * x) (l : X ≤ 340282366920938463463374607431768211456) : x ≤ 1 := by
  have P := pq_pos
  refine Rat.le_of_mul_le_mul_left (c := pq) ?_ P
  rw [← h]
  have : (X : Rat) ≤ pq := (Rat.natCast_le_natCast).2 l
  grind
theorem pm_frac {a b : Nat} {a' b' : Rat} (ha : (a : Rat) = pq * a') (hb : (b : Rat) = pq * b') : (pm a b : Rat) ≤ pq * (a' * b') ∧ pq * (a' * b') ≤ (pm a b : Rat) + 3 := by
  obtain ⟨h1, h2⟩ := pm_in a b
  have r1 := (Rat.natCast_le_natCast).2 h1
  have r2 := (Rat.natCast_le_natCast).2 h2
  rw [Rat.natCast_mul, Rat.natCast_mul] at r1
  rw [Rat.natCast_add, Rat.natCast_mul, Rat.natCast_mul, Rat.natCast_mul] at r2
  have c3 : ((3 : Nat) : Rat) = 3 := rfl
  rw [c3] at r2
  change (pm a b : Rat) * pq ≤ _ at r1
  change _ ≤ (pm a b : Rat) * pq + 3 * pq at r2
  rw [ha, hb] at r1 r2
  have P := pq_pos
  generalize (pm a b : Rat) = H at *
  generalize pq = p at *
  clear h1 h2 c3 ha hb
  constructor
  · refine Rat.le_of_mul_le_mul_left (c := p) ?_ P
    grind
  · refine Rat.le_of_mul_le_mul_left (c := p) ?_ P
    grind
/-- the product of near numbers -/
theorem pm_near {a b : Nat} {x y d e : Rat} (x0 : 0 ≤ x) (x1 : x ≤ 1) (bl : b ≤ 340282366920938463463374607431768211456) (ha : -d ≤ (a : Rat) - pq * x ∧ (a : Rat) - pq * x ≤ d) (hb : -e ≤ (b : Rat) - pq * y ∧ (b : Rat) - pq * y ≤ e) :
    -(d + e + 3) ≤ (pm a b : Rat) - pq * (x * y) ∧ (pm a b : Rat) - pq * (x * y) ≤ d + e + 3 := by
  obtain ⟨a', a0, ea⟩ := pq_frac a
  obtain ⟨b', b0, eb⟩ := pq_frac b
  have b1 := pq_le eb bl
  obtain ⟨m1, m2⟩ := pm_frac ea eb
  rw [ea] at ha
  rw [eb] at hb
  generalize (pm a b : Rat) = H at *
  generalize pq = p at *
  clear ea eb
  have k1 := mul_in ha.1 ha.2 (show -1 ≤ b' by grind) b1
  have k2 := mul_in hb.1 hb.2 (show -1 ≤ x by grind) x1
  have eq : p * (a' * b') - p * (x * y) = (p * a' - p * x) * b' + (p * b' - p * y) * x := by grind
  generalize (p * a' - p * x) * b' = u at *
  generalize (p * b' - p * y) * x = v at *
  generalize p * (a' * b') = z at *
  generalize p * (x * y) = z' at *
  constructor <;> grind
/-- the coefficients -/
def cf (i : Nat) : Nat := 340282366920938463463374607431768211456 / fct (i + 2)
theorem fct_pos (m : Nat) : 0 < fct m := by
  induction m with
  | zero => decide
  | succ m ih => exact Nat.mul_pos ih (Nat.succ_pos m)
theorem fct_rat (m : Nat) : (0 : Rat) < (fct m : Rat) := by
  have := (Rat.natCast_le_natCast (a := 1) (b := fct m)).2 (fct_pos m)
  have e : ((1 : Nat) : Rat) = 1 := rfl
  grind
theorem cf_near (i : Nat) : (cf i : Rat) ≤ pq * (1 / (fct (i + 2) : Rat)) ∧ pq * (1 / (fct (i + 2) : Rat)) ≤ (cf i : Rat) + 1 := by
  have f := fct_rat (i + 2)
  have d1 := Nat.div_mul_le_self 340282366920938463463374607431768211456 (fct (i + 2))
  have d2 := Nat.lt_div_mul_add (a := 340282366920938463463374607431768211456) (b := fct (i + 2)) (fct_pos _)
  change cf i * fct (i + 2) ≤ _ at d1
  change _ < cf i * fct (i + 2) + fct (i + 2) at d2
  have r1 := (Rat.natCast_le_natCast).2 d1
  have r2 := (Rat.natCast_le_natCast).2 (Nat.le_of_lt d2)
  rw [Rat.natCast_mul] at r1
  rw [Rat.natCast_add, Rat.natCast_mul] at r2
  change _ ≤ pq at r1
  change pq ≤ _ at r2
  have c : 1 / (fct (i + 2) : Rat) * (fct (i + 2) : Rat) = 1 := Rat.div_mul_cancel (by grind)
  generalize (fct (i + 2) : Rat) = g at *
  generalize (cf i : Rat) = H at *
  generalize pq = p at *
  generalize 1 / g = t at *
  constructor
  · refine Rat.le_of_mul_le_mul_right (c := g) ?_ f
    rw [Rat.mul_assoc, c, Rat.mul_one]
    grind
  · refine Rat.le_of_mul_le_mul_right (c := g) ?_ f
    rw [Rat.mul_assoc, c, Rat.mul_one]
    grind
theorem cf_fall (i : Nat) : cf (i + 1) ≤ cf i := by
  unfold cf
  refine Nat.div_le_div_left ?_ (fct_pos _)
  show fct (i + 2) ≤ fct (i + 2) * (i + 2 + 1)
  exact Nat.le_mul_of_pos_right _ (by omega)
theorem cf_fall2 (i : Nat) : cf (i + 2) ≤ cf i := Nat.le_trans (cf_fall (i + 1)) (cf_fall i)
theorem cf_le (i : Nat) : cf i ≤ 340282366920938463463374607431768211456 := Nat.div_le_self _ _
/-- the series -/
def ser (f S : Nat) : Nat → Nat
  | 0 => cf (f + 18)
  | j + 1 => cf (f + 16 - 2 * j) - pm S (ser f S j)
theorem ser_le (f S : Nat) (j : Nat) : ser f S j ≤ cf (f + 18 - 2 * j) := by
  cases j with
  | zero => exact Nat.le_refl _
  | succ j => rw [show f + 18 - 2 * (j + 1) = f + 16 - 2 * j by omega]; exact Nat.sub_le _ _
theorem ser_fit (f S : Nat) (hS : S ≤ 340282366920938463463374607431768211456) (j : Nat) (hj : j ≤ 8) : pm S (ser f S j) ≤ cf (f + 16 - 2 * j) := by
  have a := pm_le S (ser f S j) hS
  have b := ser_le f S j
  have c := cf_fall2 (f + 16 - 2 * j)
  rw [show f + 16 - 2 * j + 2 = f + 18 - 2 * j by omega] at c
  omega
/-- Horner's sums, exact -/
def hp (f : Nat) (s : Rat) : Nat → Rat
  | 0 => 1 / (fct (f + 20) : Rat)
  | j + 1 => 1 / (fct (f + 18 - 2 * j) : Rat) - s * hp f s j
theorem ser_near (f S : Nat) (s : Rat) (hS : S ≤ 340282366920938463463374607431768211456) (s0 : 0 ≤ s) (s1 : s ≤ 1) (h1 : (S : Rat) ≤ pq * s) (h2 : pq * s ≤ (S : Rat) + 3) :
    ∀ j : Nat, j ≤ 9 → -(7 * (j : Rat) + 1) ≤ (ser f S j : Rat) - pq * hp f s j ∧ (ser f S j : Rat) - pq * hp f s j ≤ 7 * (j : Rat) + 1 := by
  intro j
  induction j with
  | zero =>
    intro _
    have c := cf_near (f + 18)
    have z : ((0 : Nat) : Rat) = 0 := rfl
    have e1 : ser f S 0 = cf (f + 18) := rfl
    have e2 : hp f s 0 = 1 / (fct (f + 18 + 2) : Rat) := rfl
    rw [e1, e2, z]
    generalize pq * (1 / (fct (f + 18 + 2) : Rat)) = u at *
    constructor <;> grind
  | succ j ih =>
    intro hj
    have i := ih (by omega)
    have fit := ser_fit f S hS j (by omega)
    have ql : ser f S j ≤ 340282366920938463463374607431768211456 := Nat.le_trans (ser_le f S j) (cf_le _)
    have n := pm_near (a := S) (b := ser f S j) (x := s) (y := hp f s j) (d := 3) (e := 7 * (j : Rat) + 1) s0 s1 ql ⟨by grind, by grind⟩ i
    have c := cf_near (f + 16 - 2 * j)
    rw [show f + 16 - 2 * j + 2 = f + 18 - 2 * j by omega] at c
    have e1 : ser f S (j + 1) = cf (f + 16 - 2 * j) - pm S (ser f S j) := rfl
    have e2 : hp f s (j + 1) = 1 / (fct (f + 18 - 2 * j) : Rat) - s * hp f s j := rfl
    have e3 : ((j + 1 : Nat) : Rat) = (j : Rat) + 1 := by rw [Rat.natCast_add]; rfl
    have e4 : ((cf (f + 16 - 2 * j) - pm S (ser f S j) : Nat) : Rat) = (cf (f + 16 - 2 * j) : Rat) - (pm S (ser f S j) : Rat) := by
      have : ((cf (f + 16 - 2 * j) - pm S (ser f S j) + pm S (ser f S j) : Nat) : Rat) = (cf (f + 16 - 2 * j) : Rat) := by rw [Nat.sub_add_cancel fit]
      rw [Rat.natCast_add] at this
      grind
    rw [e1, e2, e3, e4]
    have e5 : pq * (1 / (fct (f + 18 - 2 * j) : Rat) - s * hp f s j) = pq * (1 / (fct (f + 18 - 2 * j) : Rat)) - pq * (s * hp f s j) := by grind
    rw [e5]
    generalize pq * (1 / (fct (f + 18 - 2 * j) : Rat)) = u at *
    generalize pq * (s * hp f s j) = v at *
    generalize (cf (f + 16 - 2 * j) : Rat) = c at *
    generalize (pm S (ser f S j) : Rat) = t at *
    constructor <;> grind
/-- Horner's sums are Taylor's -/
theorem alT_shift (T : Nat → Rat) (k : Nat) : alT T (k + 1) = T 0 - alT (fun i => T (i + 1)) k := by
  induction k with
  | zero => show (0 : Rat) + sg 0 * T 0 = T 0 - 0; unfold sg; rw [if_pos rfl]; grind
  | succ k ih =>
    show alT T (k + 1) + sg (k + 1) * T (k + 1) = T 0 - (alT _ k + sg k * T (k + 1))
    rw [ih, sg_succ]; grind
theorem alT_congr {T U : Nat → Rat} (h : ∀ i, T i = U i) (k : Nat) : alT T k = alT U k := by
  induction k with
  | zero => rfl
  | succ k ih => show alT T k + _ = alT U k + _; rw [ih, h k]
def wp (x : Rat) (m : Nat) : Rat := ap' x m * (fct m : Rat)
theorem wp_succ (x : Rat) (m : Nat) : wp x (m + 1) = wp x m * x := by
  unfold wp
  have e := ap_succ x m
  have f : (fct (m + 1) : Rat) = (fct m : Rat) * ((m + 1 : Nat) : Rat) := mul_cast (fct m) (m + 1)
  rw [f]
  generalize ((m + 1 : Nat) : Rat) = k at *
  generalize (fct m : Rat) = g at *
  grind
theorem wp_inv (x : Rat) (m : Nat) : wp x m * (1 / (fct m : Rat)) = ap' x m := by
  unfold wp
  have f := fct_rat m
  have c : 1 / (fct m : Rat) * (fct m : Rat) = 1 := Rat.div_mul_cancel (by grind)
  generalize (fct m : Rat) = g at *
  generalize 1 / g = t at *
  grind
theorem hp_sum (f : Nat) (x : Rat) : ∀ j a, a + j = 10 → wp x (f + 2 * a) * hp f (x * x) j = alT (fun i => ap' x (f + 2 * (a + i))) (j + 1) := by
  intro j
  induction j with
  | zero =>
    intro a h
    have : a = 10 := by omega
    subst this
    show wp x (f + 20) * (1 / (fct (f + 20) : Rat)) = (0 : Rat) + sg 0 * ap' x (f + 20)
    rw [wp_inv]; unfold sg; rw [if_pos rfl]; grind
  | succ j ih =>
    intro a h
    have i := ih (a + 1) (by omega)
    rw [alT_shift]
    have e : alT (fun i => ap' x (f + 2 * (a + (i + 1)))) (j + 1) = alT (fun i => ap' x (f + 2 * (a + 1 + i))) (j + 1) := alT_congr (fun i => by rw [show a + (i + 1) = a + 1 + i by omega]) _
    rw [e, ← i]
    show wp x (f + 2 * a) * (1 / (fct (f + 18 - 2 * j) : Rat) - x * x * hp f (x * x) j) = ap' x (f + 2 * (a + 0)) - _
    rw [show f + 18 - 2 * j = f + 2 * a by omega, Nat.add_zero, ← wp_inv x (f + 2 * a), show f + 2 * (a + 1) = f + 2 * a + 1 + 1 by omega, wp_succ, wp_succ]
    grind
theorem s_horner (x : Rat) : sT 22 x = x - x * (x * x * hp 1 (x * x) 9) := by
  have h := hp_sum 1 x 9 1 rfl
  have a := s_alt x 11
  rw [show (2 * 11 : Nat) = 22 from rfl, alT_shift] at a
  have e : alT (fun i => ap' x (2 * (i + 1) + 1)) 10 = alT (fun i => ap' x (1 + 2 * (1 + i))) (9 + 1) := alT_congr (fun i => by rw [show 2 * (i + 1) + 1 = 1 + 2 * (1 + i) by omega]) _
  rw [e, ← h, show (1 + 2 * 1 : Nat) = 0 + 1 + 1 + 1 from rfl, wp_succ, wp_succ, wp_succ] at a
  have a1 : ap' x (2 * 0 + 1) = x := (ap8 x).2.1
  have w0 : wp x 0 = 1 := by show (1 : Rat) * ((1 : Nat) : Rat) = 1; decide +kernel
  rw [a, a1, w0]; grind
theorem c_horner (x : Rat) : cT 22 x = 1 - x * x * hp 0 (x * x) 9 := by
  have h := hp_sum 0 x 9 1 rfl
  have a := c_alt x 11
  rw [show (2 * 11 : Nat) = 22 from rfl, alT_shift] at a
  have e : alT (fun i => ap' x (2 * (i + 1))) 10 = alT (fun i => ap' x (0 + 2 * (1 + i))) (9 + 1) := alT_congr (fun i => by rw [show 2 * (i + 1) = 0 + 2 * (1 + i) by omega]) _
  rw [e, ← h, show (0 + 2 * 1 : Nat) = 0 + 1 + 1 from rfl, wp_succ, wp_succ] at a
  have a1 : ap' x (2 * 0) = 1 := rfl
  have w0 : wp x 0 = 1 := by show (1 : Rat) * ((1 : Nat) : Rat) = 1; decide +kernel
  rw [a, a1, w0]; grind
end Go.Proofs.YtndcjldnnfhedaaDoor.L6

/- Trig: the program's sine of one angle is the one that is asked for. No run of the model here. -/
namespace Go.Proofs.YtndcjldnnfhedaaDoor.L6
set_option linter.unusedVariables false
set_option maxRecDepth 100000

/-- a unit's arc, times 2^128 -/
def rad : Nat := 98984128154163587764785219737210
theorem rad_in : (rad : Rat) ≤ pq * hU ∧ pq * hU ≤ (rad : Rat) + 1 := by decide +kernel
def sinP (X : Nat) : Nat := X - pm X (pm (pm X X) (ser 1 (pm X X) 9))
def cosP (X : Nat) : Nat := 340282366920938463463374607431768211456 - pm (pm X X) (ser 0 (pm X X) 9)
theorem pq_62 : pq = p62 * 73786976294838206464 := by decide +kernel
/-- the first terms -/
theorem fct22 : p62 * (2 * ap' 1 22) ≤ 1 := by
  have h := ap_fct 22
  have p := ap_nonneg (x := 1) (by decide +kernel) 22
  have f : ((2 ^ 63 : Nat) : Rat) ≤ (fct 22 : Rat) := (Rat.natCast_le_natCast).2 (by decide +kernel)
  have a := Rat.mul_le_mul_of_nonneg_left f p
  rw [h] at a
  have q : p62 * 2 = ((2 ^ 63 : Nat) : Rat) := by decide +kernel
  have r : p62 * (2 * ap' 1 22) = ap' 1 22 * ((2 ^ 63 : Nat) : Rat) := by rw [← q]; grind
  rw [r]; exact a
theorem tail22 (w : Nat → Rat) (hw : ∀ m, -1 ≤ w m ∧ w m ≤ 1) {x : Rat} (h0 : 0 ≤ x) (h1 : x ≤ 1) : -1 ≤ p62 * tw w 32 x - p62 * tw w 22 x ∧ p62 * tw w 32 x - p62 * tw w 22 x ≤ 1 := by
  obtain ⟨t1, t2⟩ := tail_abs w hw x h0 0 22 32 (by omega)
  have r := rest_le h0 h1 22 (by omega) 32 (by omega)
  have p := ap_nonneg h0 32
  have e2 : sm (fun j => w (0 + j) * ap' x j) 22 = tw w 22 x := by unfold tw; exact sm_congr 22 (fun i _ => by rw [Nat.zero_add])
  have e3 : sm (fun j => w (0 + j) * ap' x j) 32 = tw w 32 x := by unfold tw; exact sm_congr 32 (fun i _ => by rw [Nat.zero_add])
  rw [e2, e3] at t1 t2
  have m := ap_mono h0 h1 22
  have f := fct22
  have P := p62_pos
  have k : -(2 * ap' 1 22) ≤ tw w 32 x - tw w 22 x ∧ tw w 32 x - tw w 22 x ≤ 2 * ap' 1 22 := by
    generalize tw w 32 x = a at *
    generalize tw w 22 x = b at *
    generalize tw (fun _ => 1) 32 x = c at *
    generalize tw (fun _ => 1) 22 x = d at *
    constructor <;> grind
  have k1 := Rat.mul_le_mul_of_nonneg_left k.1 (Rat.le_of_lt P)
  have k2 := Rat.mul_le_mul_of_nonneg_left k.2 (Rat.le_of_lt P)
  generalize tw w 32 x = a at *
  generalize tw w 22 x = b at *
  generalize ap' 1 22 = c at *
  generalize p62 = p at *
  constructor <;> grind
theorem pq_one : pq * 1 = ((340282366920938463463374607431768211456 : Nat) : Rat) := by decide +kernel
theorem of_pq {x y : Rat} {e : Rat} (h : -e ≤ pq * x - pq * y ∧ pq * x - pq * y ≤ e) (he : e ≤ 73786976294838206464) : -1 ≤ p62 * x - p62 * y ∧ p62 * x - p62 * y ≤ 1 := by
  rw [pq_62] at h
  have c : (0 : Rat) < 73786976294838206464 := by decide +kernel
  constructor
  · refine Rat.le_of_mul_le_mul_right (c := 73786976294838206464) ?_ c
    grind
  · refine Rat.le_of_mul_le_mul_right (c := 73786976294838206464) ?_ c
    grind
theorem floor66 {A : Nat} {x e : Rat} (h : -e ≤ (A : Rat) - pq * x ∧ (A : Rat) - pq * x ≤ e) (he : e ≤ 73786976294838206464) : -2 ≤ ((A / 73786976294838206464 : Nat) : Rat) - p62 * x ∧ ((A / 73786976294838206464 : Nat) : Rat) - p62 * x ≤ 2 := by
  have d1 := Nat.div_mul_le_self A 73786976294838206464
  have d2 := Nat.lt_div_mul_add (a := A) (b := 73786976294838206464) (by omega)
  have r1 := (Rat.natCast_le_natCast).2 d1
  have r2 := (Rat.natCast_le_natCast).2 (Nat.le_of_lt d2)
  rw [Rat.natCast_mul] at r1
  rw [Rat.natCast_add, Rat.natCast_mul] at r2
  change _ * (73786976294838206464 : Rat) ≤ _ at r1
  change _ ≤ _ * (73786976294838206464 : Rat) + (73786976294838206464 : Rat) at r2
  rw [pq_62] at h
  have c : (0 : Rat) < 73786976294838206464 := by decide +kernel
  generalize ((A / 73786976294838206464 : Nat) : Rat) = q at *
  generalize (A : Rat) = a at *
  clear d1 d2
  generalize p62 = p at *
  constructor
  · refine Rat.le_of_mul_le_mul_right (c := 73786976294838206464) ?_ c
    grind
  · refine Rat.le_of_mul_le_mul_right (c := 73786976294838206464) ?_ c
    grind
theorem X_le (r : Nat) (h : r ≤ 2700000) : rad * r ≤ 340282366920938463463374607431768211455 := by
  have e : rad * 2700000 ≤ 340282366920938463463374607431768211455 := by decide +kernel
  exact Nat.le_trans (Nat.mul_le_mul_left rad h) e
theorem S_le (X : Nat) (h : X ≤ 340282366920938463463374607431768211455) : pm X X ≤ X := pm_le X X (by omega)
/-- the series, near -/
theorem two_near (f X : Nat) (x : Rat) (hX : X ≤ 340282366920938463463374607431768211455) (x0 : 0 ≤ x) (ex : (X : Rat) = pq * x) :
    -70 ≤ (pm (pm X X) (ser f (pm X X) 9) : Rat) - pq * (x * x * hp f (x * x) 9) ∧ (pm (pm X X) (ser f (pm X X) 9) : Rat) - pq * (x * x * hp f (x * x) 9) ≤ 70 := by
  have x1 := pq_le ex (by omega)
  have s0 : 0 ≤ x * x := Rat.mul_nonneg x0 x0
  have s1 : x * x ≤ 1 := by have := Rat.mul_le_mul_of_nonneg_left x1 x0; grind
  have S1 : pm X X ≤ 340282366920938463463374607431768211456 := by have := S_le X hX; omega
  obtain ⟨h1, h2⟩ := pm_frac ex ex
  have n := ser_near f (pm X X) (x * x) S1 s0 s1 h1 h2 9 (by omega)
  have e : (7 : Rat) * ((9 : Nat) : Rat) + 1 = 64 := by decide +kernel
  rw [e] at n
  have ql : ser f (pm X X) 9 ≤ 340282366920938463463374607431768211456 := Nat.le_trans (ser_le f _ 9) (cf_le _)
  have m := pm_near (a := pm X X) (b := ser f (pm X X) 9) (x := x * x) (y := hp f (x * x) 9) (d := 3) (e := 64) s0 s1 ql ⟨by grind, by grind⟩ n
  constructor <;> grind
theorem sin_fit (X : Nat) (hX : X ≤ 340282366920938463463374607431768211455) (q : Nat) (hq : q ≤ 340282366920938463463374607431768211456) : pm X q ≤ X := by
  have h1 := (pm_in X q).1
  have h2 := Nat.mul_le_mul_left X hq
  omega
theorem in_le (f X : Nat) (hX : X ≤ 340282366920938463463374607431768211455) : pm (pm X X) (ser f (pm X X) 9) ≤ cf f := by
  have a := pm_le (pm X X) (ser f (pm X X) 9) (by have := S_le X hX; omega)
  have b := ser_le f (pm X X) 9
  rw [show f + 18 - 2 * 9 = f by omega] at b
  omega
theorem sinP_fit (X : Nat) (hX : X ≤ 340282366920938463463374607431768211455) : pm X (pm (pm X X) (ser 1 (pm X X) 9)) ≤ X :=
  sin_fit X hX _ (Nat.le_trans (in_le 1 X hX) (cf_le 1))
theorem sinP_near (X : Nat) (x : Rat) (hX : X ≤ 340282366920938463463374607431768211455) (x0 : 0 ≤ x) (ex : (X : Rat) = pq * x) : -100 ≤ (sinP X : Rat) - pq * sT 22 x ∧ (sinP X : Rat) - pq * sT 22 x ≤ 100 := by
  have x1 := pq_le ex (by omega)
  have t := two_near 1 X x hX x0 ex
  have il := Nat.le_trans (in_le 1 X hX) (cf_le 1)
  have m := pm_near (a := X) (b := pm (pm X X) (ser 1 (pm X X) 9)) (x := x) (y := x * x * hp 1 (x * x) 9) (d := 0) (e := 70) x0 x1 il ⟨by grind, by grind⟩ t
  have fit := sinP_fit X hX
  have e4 : (sinP X : Rat) = (X : Rat) - (pm X (pm (pm X X) (ser 1 (pm X X) 9)) : Rat) := by
    have : ((sinP X + pm X (pm (pm X X) (ser 1 (pm X X) 9)) : Nat) : Rat) = (X : Rat) := by unfold sinP; rw [Nat.sub_add_cancel fit]
    rw [Rat.natCast_add] at this
    grind
  rw [e4, s_horner, ex]
  have e5 : pq * (x - x * (x * x * hp 1 (x * x) 9)) = pq * x - pq * (x * (x * x * hp 1 (x * x) 9)) := by grind
  rw [e5]
  clear e4 e5 fit il t
  generalize (pm X (pm (pm X X) (ser 1 (pm X X) 9)) : Rat) = u at *
  generalize pq * (x * (x * x * hp 1 (x * x) 9)) = v at *
  constructor <;> grind
theorem cosP_near (X : Nat) (x : Rat) (hX : X ≤ 340282366920938463463374607431768211455) (x0 : 0 ≤ x) (ex : (X : Rat) = pq * x) : -100 ≤ (cosP X : Rat) - pq * cT 22 x ∧ (cosP X : Rat) - pq * cT 22 x ≤ 100 := by
  have t := two_near 0 X x hX x0 ex
  have fit := Nat.le_trans (in_le 0 X hX) (cf_le 0)
  have e4 : (cosP X : Rat) = pq * 1 - (pm (pm X X) (ser 0 (pm X X) 9) : Rat) := by
    have : ((cosP X + pm (pm X X) (ser 0 (pm X X) 9) : Nat) : Rat) = pq * 1 := by unfold cosP; rw [Nat.sub_add_cancel fit, pq_one]
    rw [Rat.natCast_add] at this
    grind
  rw [e4, c_horner]
  have e5 : pq * (1 - x * x * hp 0 (x * x) 9) = pq * 1 - pq * (x * x * hp 0 (x * x) 9) := by grind
  rw [e5]
  clear e4 e5 fit
  generalize (pm (pm X X) (ser 0 (pm X X) 9) : Rat) = u at *
  generalize pq * (x * x * hp 0 (x * x) 9) = v at *
  constructor <;> grind
theorem p62kq : p62 * kq ≤ 1 := by decide +kernel
theorem arc_near {p h x R r : Rat} (P : 0 < p) (r1 : R ≤ p * h) (r2 : p * h ≤ R + 1) (r0 : 0 ≤ r) (rl : r ≤ 3000000) (e : R * r = p * x) : x ≤ r * h ∧ p * (r * h) - p * x ≤ 3000000 := by
  have a1 := Rat.mul_le_mul_of_nonneg_right r1 r0
  have a2 := Rat.mul_le_mul_of_nonneg_right r2 r0
  constructor
  · refine Rat.le_of_mul_le_mul_left (c := p) ?_ P
    grind
  · grind
theorem lip_q {p a b x y : Rat} (P : 0 < p) (l1 : -(3 * (x - y)) ≤ a - b) (l2 : a - b ≤ 3 * (x - y)) (d : p * x - p * y ≤ 3000000) : -9000000 ≤ p * a - p * b ∧ p * a - p * b ≤ 9000000 := by
  have k1 := Rat.mul_le_mul_of_nonneg_left l1 (Rat.le_of_lt P)
  have k2 := Rat.mul_le_mul_of_nonneg_left l2 (Rat.le_of_lt P)
  constructor <;> grind
theorem three_near {A p z k u v w : Rat} (P : 0 ≤ p) (kk : p * k ≤ 1) (l : -k ≤ u - z ∧ u - z ≤ k) (l1 : -1 ≤ p * u - p * v ∧ p * u - p * v ≤ 1) (t : -1 ≤ p * v - p * w ∧ p * v - p * w ≤ 1) (s : -2 ≤ A - p * w ∧ A - p * w ≤ 2) : -6 ≤ A - p * z ∧ A - p * z ≤ 6 := by
  have m1 := Rat.mul_le_mul_of_nonneg_left l.1 P
  have m2 := Rat.mul_le_mul_of_nonneg_left l.2 P
  constructor <;> grind
/-- the program's sines and cosines, times 2^62 -/
theorem prog_near (r : Nat) (h : r ≤ 2700000) : (-6 ≤ ((sinP (rad * r) / 73786976294838206464 : Nat) : Rat) - p62 * sz r ∧ ((sinP (rad * r) / 73786976294838206464 : Nat) : Rat) - p62 * sz r ≤ 6) ∧
    (-6 ≤ ((cosP (rad * r) / 73786976294838206464 : Nat) : Rat) - p62 * cz r ∧ ((cosP (rad * r) / 73786976294838206464 : Nat) : Rat) - p62 * cz r ≤ 6) := by
  have hX := X_le r h
  obtain ⟨X, hXe⟩ : ∃ X, rad * r = X := ⟨_, rfl⟩
  have hXr : (rad : Rat) * (r : Rat) = (X : Rat) := by rw [← hXe, Rat.natCast_mul]
  rw [hXe] at hX
  rw [hXe]
  clear hXe
  obtain ⟨x, x0, ex⟩ := pq_frac X
  have x1 := pq_le ex (Nat.le_succ_of_le hX)
  have r0 : (0 : Rat) ≤ (r : Rat) := Rat.natCast_nonneg
  have rl := (Rat.natCast_le_natCast (a := r) (b := 3000000)).2 (by omega)
  have c3 : ((3000000 : Nat) : Rat) = 3000000 := rfl
  rw [c3] at rl
  have y1 : (r : Rat) * hU ≤ 1 := by
    have h1 := Rat.mul_le_mul_of_nonneg_right rl hU_in.1
    have h3 := hU_in.2
    rw [Rat.mul_comm hU] at h3
    exact Rat.le_trans h1 h3
  have P := pq_pos
  obtain ⟨xy, dd⟩ := arc_near P rad_in.1 rad_in.2 r0 rl (hXr.trans ex)
  have ls := lip3 ws ws_in x0 xy y1
  have lc := lip3 wc wc_in x0 xy y1
  have l1 := of_pq (x := tw ws 32 ((r : Rat) * hU)) (y := tw ws 32 x) (e := 9000000) (lip_q P ls.1 ls.2 dd) (by decide +kernel)
  have l2 := of_pq (x := tw wc 32 ((r : Rat) * hU)) (y := tw wc 32 x) (e := 9000000) (lip_q P lc.1 lc.2 dd) (by decide +kernel)
  have t1 := tail22 ws ws_in x0 x1
  have t2 := tail22 wc wc_in x0 x1
  have s := floor66 (sinP_near _ x hX x0 ex) (by decide +kernel)
  have c := floor66 (cosP_near _ x hX x0 ex) (by decide +kernel)
  obtain ⟨q1, q2⟩ := link r (by omega)
  exact ⟨three_near (Rat.le_of_lt p62_pos) p62kq q2 l1 t1 s, three_near (Rat.le_of_lt p62_pos) p62kq q1 l2 t2 c⟩

/-- the program's number of an angle between 0 and a quarter -/
def irr (m : Nat) : Nat := if 2700000 < m then cosP (rad * (5400000 - m)) else sinP (rad * m)
def dirH (n : Int) : Int := if 10800000 ≤ mT n then mT n - 10800000 else mT n
def dirM (n : Int) : Int := min (dirH n) (10800000 - dirH n)
theorem dirM_in (n : Int) : 0 ≤ dirM n ∧ dirM n ≤ 5400000 ∧ 0 ≤ dirH n ∧ dirH n < 10800000 := by
  have := m_in n
  unfold dirM dirH
  split <;> omega
theorem p62et : p62 * (((2 : Nat) : Rat) * et) ≤ 1 := by decide +kernel
theorem irr_near (n : Int) : -8 ≤ ((irr (dirM n).toNat / 73786976294838206464 : Nat) : Rat) - p62 * bs n ∧ ((irr (dirM n).toNat / 73786976294838206464 : Nat) : Rat) - p62 * bs n ≤ 8 := by
  obtain ⟨h1, h2, q0, q3, em⟩ := rd_in n
  have hr := rr_in n
  have er := rr_int n
  obtain ⟨ps, pc⟩ := prog_near (rr n) hr
  have hc : co n = xor (decide (qd n % 2 = 1)) (far n) := rfl
  have hf : far n = decide (2700000 < rd n) := rfl
  have ed : dirM n = if qd n % 2 = 1 then 5400000 - rd n else rd n := by
    unfold dirM dirH
    rcases (show qd n = 0 ∨ qd n = 1 ∨ qd n = 2 ∨ qd n = 3 by omega) with q | q | q | q <;> rw [q] at em ⊢
    · rw [if_neg (by omega), if_neg (by decide)]; omega
    · rw [if_neg (by omega), if_pos (by decide)]; omega
    · rw [if_pos (by omega), if_neg (by decide)]; omega
    · rw [if_pos (by omega), if_pos (by decide)]; omega
  unfold bs irr
  by_cases odd : qd n % 2 = 1
  · rw [if_pos odd] at ed
    rw [decide_eq_true odd] at hc
    by_cases c : 2700000 < rd n
    · rw [decide_eq_true c] at hf
      rw [hf] at hc er
      rw [if_pos rfl] at er
      have m : (dirM n).toNat = rr n := by omega
      rw [m, if_neg (by omega), hc, if_neg (by decide)]
      constructor <;> grind
    · rw [decide_eq_false c] at hf
      rw [hf] at hc er
      rw [if_neg (by decide)] at er
      rw [hc, if_pos (show (true ^^ false) = true from rfl)]
      by_cases t : 2700000 < (dirM n).toNat
      · rw [if_pos t]
        have m : 5400000 - (dirM n).toNat = rr n := by omega
        rw [m]
        constructor <;> grind
      · rw [if_neg t]
        have m : (dirM n).toNat = rr n := by omega
        have k : (rr n : Int) = 2700000 := by omega
        rw [m]
        have q := (quarter_sub (rr n)).1
        rw [k, show (5400000 : Int) - 2700000 = 2700000 from rfl] at q
        rw [k] at ps ⊢
        unfold Nr at q
        have P := Rat.le_of_lt p62_pos
        have m1 := Rat.mul_le_mul_of_nonneg_left q.1 P
        have m2 := Rat.mul_le_mul_of_nonneg_left q.2 P
        have z := p62et
        generalize ((2 : Nat) : Rat) * et = e at *
        generalize sz 2700000 = z1 at *
        generalize cz 2700000 = z2 at *
        generalize ((sinP (rad * rr n) / 73786976294838206464 : Nat) : Rat) = A at *
        generalize p62 = p at *
        constructor <;> grind
  · rw [if_neg odd] at ed
    rw [decide_eq_false odd] at hc
    by_cases c : 2700000 < rd n
    · rw [decide_eq_true c] at hf
      rw [hf] at hc er
      rw [if_pos rfl] at er
      have m : 5400000 - (dirM n).toNat = rr n := by omega
      rw [if_pos (by omega), m, hc, if_pos (by decide)]
      constructor <;> grind
    · rw [decide_eq_false c] at hf
      rw [hf] at hc er
      rw [if_neg (by decide)] at er
      have m : (dirM n).toNat = rr n := by omega
      rw [if_neg (by omega), m, hc, if_neg (by decide)]
      constructor <;> grind
/-- the answers for one angle up to half a turn -/
def upD (m : Int) : Int := if m = 0 then 0 else if m = 1800000 then 536870912 else if m = 5400000 then 1073741824 else ((irr m.toNat / 316912650057057350374175801344 : Nat) : Int)
def upU (m : Int) : Int := if m = 0 then 0 else if m = 1800000 then 536870912 else if m = 5400000 then 1073741824 else ((irr m.toNat / 316912650057057350374175801344 : Nat) : Int) + 1
theorem div98 (A : Nat) : ((A / 316912650057057350374175801344 : Nat) : Int) = ((A / 73786976294838206464 : Nat) : Int) / 4294967296 := by
  have : A / 316912650057057350374175801344 = A / 73786976294838206464 / 4294967296 := by
    rw [Nat.div_div_eq_div_mul]
  rw [this]; rfl
theorem neg_div' (v : Int) : (-v - 1) / 4294967296 = -(v / 4294967296) - 1 := by omega
theorem up_eq (n : Int) : (mT n < 10800000 → lo n = upD (dirM n) ∧ hi n = upU (dirM n)) ∧ (10800000 ≤ mT n → lo n = -upU (dirM n) ∧ hi n = -upD (dirM n)) := by
  have hm := m_in n
  obtain ⟨d1, d2, d3, d4⟩ := dirM_in n
  obtain ⟨h1, h2, q0, q3, em⟩ := rd_in n
  by_cases e : ex n = true
  · have hx := (ex_iff n).1 e
    have fe : fl n = exV (mT n / 1800000) := by unfold fl; rw [if_pos e]
    have l : lo n = exV (mT n / 1800000) := fe
    have u : hi n = exV (mT n / 1800000) := by unfold hi; rw [if_pos e]; exact fe
    rw [l, u]
    have k : mT n = 1800000 * (mT n / 1800000) := by omega
    have kl : 0 ≤ mT n / 1800000 ∧ mT n / 1800000 ≤ 11 := by omega
    unfold dirM dirH
    generalize mT n / 1800000 = j at *
    rcases (show j = 0 ∨ j = 1 ∨ j = 3 ∨ j = 5 ∨ j = 6 ∨ j = 7 ∨ j = 9 ∨ j = 11 by omega) with rfl | rfl | rfl | rfl | rfl | rfl | rfl | rfl <;> rw [k] <;> decide
  · have e' : ex n = false := by simpa using e
    have nx : ¬ (mT n % 1800000 = 0 ∧ mT n / 1800000 % 6 ≠ 2 ∧ mT n / 1800000 % 6 ≠ 4) := fun c => e ((ex_iff n).2 c)
    have u : hi n = fl n + 1 := by unfold hi; rw [if_neg e]
    have ne : dirM n ≠ 0 ∧ dirM n ≠ 1800000 ∧ dirM n ≠ 5400000 := by
      unfold dirM dirH
      split <;> refine ⟨?_, ?_, ?_⟩ <;> intro c <;> apply nx <;> omega
    have eD : upD (dirM n) = ((irr (dirM n).toNat / 316912650057057350374175801344 : Nat) : Int) := by unfold upD; rw [if_neg ne.1, if_neg ne.2.1, if_neg ne.2.2]
    have eU : upU (dirM n) = ((irr (dirM n).toNat / 316912650057057350374175801344 : Nat) : Int) + 1 := by unfold upU; rw [if_neg ne.1, if_neg ne.2.1, if_neg ne.2.2]
    rw [eD, eU, div98, u]
    show (_ → fl n = _ ∧ _) ∧ (_ → fl n = _ ∧ _)
    have N := irr_near n
    have c9 : ((9 : Nat) : Rat) = 9 := rfl
    have c1 : ((1 : Int) : Rat) = 1 := rfl
    constructor
    · intro c
      have q : ¬ 2 ≤ qd n := by omega
      have s : sgn n (bs n) = bs n := by unfold sgn; rw [if_neg q]
      have f := (fl_of n e' ((irr (dirM n).toNat / 73786976294838206464 : Nat) : Int) 9 (by omega) (by rw [s, c9, Rat.intCast_natCast]; constructor <;> grind)).1
      rw [f]
      exact ⟨rfl, rfl⟩
    · intro c
      have q : 2 ≤ qd n := by omega
      have s : sgn n (bs n) = -bs n := by unfold sgn; rw [if_pos q]
      have f := (fl_of n e' (-((irr (dirM n).toNat / 73786976294838206464 : Nat) : Int) - 1) 9 (by omega) (by rw [s, c9, Rat.intCast_sub, Rat.intCast_neg, Rat.intCast_natCast, c1]; constructor <;> grind)).1
      rw [neg_div'] at f
      rw [← f]
      constructor <;> omega
end Go.Proofs.YtndcjldnnfhedaaDoor.L6

/- Trig: the program's sine over an arc is the one that is asked for. No run of the model here. -/
namespace Go.Proofs.YtndcjldnnfhedaaDoor.L6
set_option linter.unusedVariables false
set_option maxRecDepth 100000

theorem lo_hi_in (n : Int) (h : Ok n) : -1073741824 ≤ lo n ∧ hi n ≤ 1073741824 := by
  have f := fs n h
  obtain ⟨s1, s2⟩ := sz_in n
  obtain ⟨t1, t2, t3, t4, t5, t6, t7⟩ := tt_ok
  have c1 : ((1 : Int) : Rat) = 1 := rfl
  have cm : ((-1073741824 : Int) : Rat) = -1073741824 := rfl
  have cp : ((1073741824 : Int) : Rat) = 1073741824 := rfl
  rcases f with ⟨e, f1, f2⟩ | ⟨e, f1, f2⟩
  · rw [← e]
    generalize lo n = l at *
    constructor
    · exact int_le_of (by rw [cm]; grind)
    · exact int_le_of (by rw [cp]; grind)
  · rw [e]
    generalize lo n = l at *
    constructor
    · exact int_le_of (by rw [cm]; grind)
    · exact int_le_of (by rw [cp, Rat.intCast_add, c1]; grind)
/-- the multiples of a quarter from an arc's beginning on -/
def pn (a : Int) (i : Nat) : Int := a + (-a) % 5400000 + 5400000 * (i : Int)
def eL (a b : Int) : Nat → Int
  | 0 => min (lo a) (lo b)
  | i + 1 => min (eL a b i) (lo (pn a i))
def eH (a b : Int) : Nat → Int
  | 0 => max (hi a) (hi b)
  | i + 1 => max (eH a b i) (hi (pn a i))
theorem quarter_pt (n : Int) (j : Int) (h : n = 5400000 + 21600000 * j) : hi n = 1073741824 := by
  have m : mT n = 5400000 := by unfold mT; omega
  have e : ex n = true := by unfold ex; rw [m]; decide
  unfold hi
  rw [if_pos e]
  unfold fl
  rw [if_pos e, m]
  decide
theorem trough_pt (n : Int) (j : Int) (h : n = -5400000 + 21600000 * j) : lo n = -1073741824 := by
  have m : mT n = 16200000 := by unfold mT; omega
  have e : ex n = true := by unfold ex; rw [m]; decide
  show fl n = _
  unfold fl
  rw [if_pos e, m]
  decide
theorem eL_le (a b : Int) (k i : Nat) (h : i < k) : eL a b k ≤ lo (pn a i) := by
  induction k with
  | zero => omega
  | succ k ih =>
    show min (eL a b k) (lo (pn a k)) ≤ _
    by_cases c : i = k
    · subst c; omega
    · have := ih (by omega); omega
theorem eH_ge (a b : Int) (k i : Nat) (h : i < k) : hi (pn a i) ≤ eH a b k := by
  induction k with
  | zero => omega
  | succ k ih =>
    show _ ≤ max (eH a b k) (hi (pn a k))
    by_cases c : i = k
    · subst c; omega
    · have := ih (by omega); omega
theorem eL_min (a b m : Int) (k : Nat) (h0 : m ≤ lo a) (h1 : m ≤ lo b) (h : ∀ i, i < k → m ≤ lo (pn a i)) : m ≤ eL a b k := by
  induction k with
  | zero => show m ≤ min (lo a) (lo b); omega
  | succ k ih =>
    have := ih (fun i hi => h i (by omega))
    have := h k (by omega)
    show m ≤ min (eL a b k) (lo (pn a k))
    omega
theorem eH_max (a b m : Int) (k : Nat) (h0 : hi a ≤ m) (h1 : hi b ≤ m) (h : ∀ i, i < k → hi (pn a i) ≤ m) : eH a b k ≤ m := by
  induction k with
  | zero => show max (hi a) (hi b) ≤ m; omega
  | succ k ih =>
    have := ih (fun i hi => h i (by omega))
    have := h k (by omega)
    show max (eH a b k) (hi (pn a k)) ≤ m
    omega
theorem eL_down (a b : Int) (k : Nat) : eL a b k ≤ min (lo a) (lo b) := by
  induction k with
  | zero => exact Int.le_refl _
  | succ k ih => show min (eL a b k) (lo (pn a k)) ≤ _; omega
theorem eH_up (a b : Int) (k : Nat) : max (hi a) (hi b) ≤ eH a b k := by
  induction k with
  | zero => exact Int.le_refl _
  | succ k ih => show _ ≤ max (eH a b k) (hi (pn a k)); omega
theorem eL_eq (a b : Int) (ha : -3900000000000 ≤ a) (hb : b ≤ 3900000000000) (ab : a ≤ b) (k : Nat) (hk : k ≤ 4) (h1 : ∀ i, i < k → pn a i ≤ b) (h2 : k = 4 ∨ b < pn a k) : eL a b k = sL a b := by
  have okk : ∀ n, a ≤ n → n ≤ b → Ok n := fun n h1 h2 => by unfold Ok; omega
  have pa : ∀ i, a ≤ pn a i := fun i => by unfold pn; omega
  unfold sL
  by_cases c : has a b (-5400000) = true
  · rw [if_pos c]
    rw [has_iff] at c
    obtain ⟨t, ht⟩ : ∃ t, t = a + (-5400000 - a) % 21600000 := ⟨_, rfl⟩
    rw [← ht] at c
    obtain ⟨i, hi⟩ : ∃ i : Nat, t = pn a i ∧ i < 4 := by
      refine ⟨((t - (a + (-a) % 5400000)) / 5400000).toNat, ?_, ?_⟩
      · unfold pn; omega
      · omega
    obtain ⟨e, i4⟩ := hi
    have ik : i < k := by
      rcases h2 with h | h
      · omega
      · refine Classical.byContradiction fun n => ?_
        unfold pn at e h
        omega
    have l := eL_le a b k i ik
    rw [← e, trough_pt t ((t + 5400000) / 21600000) (by omega)] at l
    have m := eL_min a b (-1073741824) k (lo_hi_in a (okk a (by omega) ab)).1 (lo_hi_in b (okk b ab (by omega))).1 (fun i hi => (lo_hi_in _ (okk _ (pa i) (h1 i hi))).1)
    omega
  · rw [if_neg c]
    have c' : has a b (-5400000) = false := by simpa using c
    have m := eL_min a b (min (lo a) (lo b)) k (by omega) (by omega) (fun i hi => no_trough (by omega) (by omega) (pa i) (h1 i hi) c')
    have d := eL_down a b k
    omega
theorem eH_eq (a b : Int) (ha : -3900000000000 ≤ a) (hb : b ≤ 3900000000000) (ab : a ≤ b) (k : Nat) (hk : k ≤ 4) (h1 : ∀ i, i < k → pn a i ≤ b) (h2 : k = 4 ∨ b < pn a k) : eH a b k = sH a b := by
  have okk : ∀ n, a ≤ n → n ≤ b → Ok n := fun n h1 h2 => by unfold Ok; omega
  have pa : ∀ i, a ≤ pn a i := fun i => by unfold pn; omega
  unfold sH
  by_cases c : has a b 5400000 = true
  · rw [if_pos c]
    rw [has_iff] at c
    obtain ⟨t, ht⟩ : ∃ t, t = a + (5400000 - a) % 21600000 := ⟨_, rfl⟩
    rw [← ht] at c
    obtain ⟨i, hi⟩ : ∃ i : Nat, t = pn a i ∧ i < 4 := by
      refine ⟨((t - (a + (-a) % 5400000)) / 5400000).toNat, ?_, ?_⟩
      · unfold pn; omega
      · omega
    obtain ⟨e, i4⟩ := hi
    have ik : i < k := by
      rcases h2 with h | h
      · omega
      · refine Classical.byContradiction fun n => ?_
        unfold pn at e h
        omega
    have l := eH_ge a b k i ik
    rw [← e, quarter_pt t ((t - 5400000) / 21600000) (by omega)] at l
    have m := eH_max a b 1073741824 k (lo_hi_in a (okk a (by omega) ab)).2 (lo_hi_in b (okk b ab (by omega))).2 (fun i hi => (lo_hi_in _ (okk _ (pa i) (h1 i hi))).2)
    omega
  · rw [if_neg c]
    have c' : has a b 5400000 = false := by simpa using c
    have m := eH_max a b (max (hi a) (hi b)) k (by omega) (by omega) (fun i hi => no_peak (by omega) (by omega) (pa i) (h1 i hi) c')
    have d := eH_up a b k
    omega
end Go.Proofs.YtndcjldnnfhedaaDoor.L6

/- Arctrig: sines grow from a quarter back to a quarter on; the greatest angle whose sine is at most a number. No run of the model here. -/
namespace Go.Proofs.YtndcjldnnfhedaaDoor.L6
set_option linter.unusedVariables false
set_option maxRecDepth 100000

theorem sz_grow {m n : Int} (h1 : -5400000 ≤ m) (h : m ≤ n) (h2 : n ≤ 5400000) : 1073741824 * sz m ≤ 1073741824 * sz n + tt := by
  have a := (quarter_sub (5400000 - m)).1
  have b := (quarter_sub (5400000 - n)).1
  rw [show 5400000 - (5400000 - m) = m by omega] at a
  rw [show 5400000 - (5400000 - n) = n by omega] at b
  have c := cz_le (5400000 - n) (5400000 - m) (by omega) (by omega) (by omega)
  have t : 1073741824 * (4 * et) ≤ tt := by decide +kernel
  unfold Nr at a b
  have e2 : ((2 : Nat) : Rat) = 2 := rfl
  rw [e2] at a b
  generalize sz m = x at *
  generalize sz n = y at *
  generalize cz (5400000 - m) = p at *
  generalize cz (5400000 - n) = q at *
  generalize et = e at *
  generalize tt = u at *
  grind
theorem ok_q {n : Int} (h1 : -5400001 ≤ n) (h2 : n ≤ 5400001) : Ok n := by unfold Ok; omega
theorem lo_mono {m n : Int} (h1 : -5400000 ≤ m) (h : m ≤ n) (h2 : n ≤ 5400000) : lo m ≤ lo n ∧ hi m ≤ hi n :=
  Fs.mono (fs m (ok_q (by omega) (by omega))) (fs n (ok_q (by omega) (by omega))) (sz_grow h1 h h2)
theorem lo_le_hi (n : Int) : lo n ≤ hi n ∧ hi n ≤ lo n + 1 := by unfold lo hi; split <;> omega
theorem ex_next {n : Int} (h : ex n = true) : ex (n + 1) = false := by
  have h := (ex_iff n).1 h
  have : ¬ ex (n + 1) = true := by
    rw [ex_iff]
    unfold mT at *
    omega
  simpa using this
/-- the next angle's sine, rounded up, is greater than this one's, rounded down -/
theorem lo_next {n : Int} (h1 : -5400000 ≤ n) (h2 : n < 5400000) : lo n < hi (n + 1) := by
  have m := lo_mono h1 (show n ≤ n + 1 by omega) (by omega)
  have l := lo_le_hi (n + 1)
  refine Classical.byContradiction fun c => ?_
  have e1 : lo n = hi (n + 1) := by omega
  have e2 : lo (n + 1) = hi (n + 1) := by omega
  have x : ex (n + 1) = true := by
    refine Classical.byContradiction fun k => ?_
    unfold lo hi at e2
    rw [if_neg k] at e2
    omega
  have y : ex n = false := by
    refine Classical.byContradiction fun k => ?_
    have := ex_next (n := n) (by simpa using k)
    rw [x] at this
    cases this
  have f := fs n (ok_q (by omega) (by omega))
  have g := fs (n + 1) (ok_q (by omega) (by omega))
  have s := sz_grow h1 (show n ≤ n + 1 by omega) (by omega)
  obtain ⟨t1, t2, t3, t4, t5, t6, t7⟩ := tt_ok
  -- going down: this one is not exact, so it is clearly greater than the exact one
  have hn : hi n = lo n + 1 := by unfold lo hi; rw [if_neg (by rw [y]; simp)]
  rw [hn] at f
  rw [e2] at g
  rw [e1] at f
  have c1 : ((1 : Int) : Rat) = 1 := rfl
  rcases f with ⟨f1, -⟩ | ⟨-, f1, f2⟩
  · omega
  · rcases g with ⟨-, g1, g2⟩ | ⟨g1, -⟩
    · generalize ((hi (n + 1) : Int) : Rat) = v at *
      generalize sz n = p at *
      generalize sz (n + 1) = q at *
      grind
    · omega
end Go.Proofs.YtndcjldnnfhedaaDoor.L6

/- Arctrig: the greatest angle whose sine is at most a number: that there is one, and what it does. No run of the model here. -/
namespace Go.Proofs.YtndcjldnnfhedaaDoor.L6
set_option linter.unusedVariables false
set_option maxRecDepth 100000

/-- the greatest angle from a quarter back to a quarter on whose sine is at most v -/
structure IsF (v n : Int) : Prop where
  lo : -5400000 ≤ n
  hi : n ≤ 5400000
  le : L6.hi n ≤ v
  gt : n = 5400000 ∨ v < L6.hi (n + 1)
theorem IsF.of_le {v v' n n' : Int} (a : IsF v n) (b : IsF v' n') (h : v ≤ v') : n ≤ n' := by
  refine Classical.byContradiction fun c => ?_
  rcases b.gt with e | e
  · have := a.hi; omega
  · have := (lo_mono (m := n' + 1) (n := n) (by have := b.lo; omega) (by omega) a.hi).2
    have := a.le
    omega
theorem IsF.one {v n n' : Int} (a : IsF v n) (b : IsF v n') : n = n' := by
  have := a.of_le b (Int.le_refl _)
  have := b.of_le a (Int.le_refl _)
  omega
theorem hi_bottom : L6.hi (-5400000) = -1073741824 := by
  have t := trough_pt (-5400000) 0 (by omega)
  have e : ex (-5400000) = true := by decide
  unfold lo at t
  unfold hi
  rw [if_pos e]
  exact t
theorem some_f (v : Int) (h : -1073741824 ≤ v) : ∃ n, IsF v n := by
  have key : ∀ N : Nat, N ≤ 10800000 → ∃ k : Nat, k ≤ N ∧ L6.hi (-5400000 + k) ≤ v ∧ (k = N ∨ v < L6.hi (-5400000 + k + 1)) := by
    intro N
    induction N with
    | zero =>
      intro _
      refine ⟨0, Nat.le_refl _, ?_, .inl rfl⟩
      have e : (-5400000 : Int) + ((0 : Nat) : Int) = -5400000 := by omega
      rw [e, hi_bottom]
      exact h
    | succ N ih =>
      intro hN
      obtain ⟨k, k1, k2, k3⟩ := ih (by omega)
      rcases k3 with e | e
      · by_cases c : L6.hi (-5400000 + k + 1) ≤ v
        · refine ⟨k + 1, by omega, ?_, .inl (by omega)⟩
          have e2 : (-5400000 : Int) + ((k + 1 : Nat) : Int) = -5400000 + k + 1 := by omega
          rw [e2]
          exact c
        · exact ⟨k, by omega, k2, .inr (by omega)⟩
      · exact ⟨k, by omega, k2, .inr e⟩
  obtain ⟨k, k1, k2, k3⟩ := key 10800000 (Nat.le_refl _)
  refine ⟨-5400000 + k, by omega, by omega, k2, ?_⟩
  rcases k3 with e | e
  · exact .inl (by omega)
  · exact .inr e
open Classical in
noncomputable def aF (v : Int) : Int := if h : ∃ n, IsF v n then h.choose else 0
theorem aF_is (v : Int) (h : -1073741824 ≤ v) : IsF v (aF v) := by
  have e := some_f v h
  unfold aF
  rw [dif_pos e]
  exact e.choose_spec
theorem aF_eq {v n : Int} (h : IsF v n) : aF v = n := by
  have e : ∃ n, IsF v n := ⟨n, h⟩
  unfold aF
  rw [dif_pos e]
  exact e.choose_spec.one h
theorem aF_mono {v v' : Int} (h : -1073741824 ≤ v) (k : v ≤ v') : aF v ≤ aF v' := (aF_is v h).of_le (aF_is v' (by omega)) k
/-- an angle's sine, rounded down, leads back below the angle -/
theorem aF_back {n : Int} (h1 : -5400000 ≤ n) (h2 : n ≤ 5400000) (v : Int) (h : -1073741824 ≤ v) (k : v ≤ lo n) : aF v ≤ n := by
  have f := aF_is v h
  refine Classical.byContradiction fun c => ?_
  have a := lo_next h1 (n := n) (by have := f.hi; omega)
  have b := (lo_mono (m := n + 1) (n := aF v) (by omega) (by omega) f.hi).2
  have := f.le
  omega
/-- the arcsine of an interval -/
noncomputable def aLo (l : Int) : Int := aF l
noncomputable def aHi (h : Int) : Int := -aF (-h)
structure InA (l h : Int) : Prop where
  l1 : -1073741824 ≤ l
  l2 : l ≤ h
  l3 : h ≤ 1073741824
theorem asin_in {l h : Int} (i : InA l h) : -5400000 ≤ aLo l ∧ aHi h ≤ 5400000 ∧ aLo l ≤ aHi h ∧ aLo l ≤ 5400000 ∧ -5400000 ≤ aHi h := by
  have f := aF_is l i.l1
  have g := aF_is (-h) (by have := i.l3; omega)
  refine ⟨f.lo, by have := g.lo; unfold aHi; omega, ?_, f.hi, by have := g.hi; unfold aHi; omega⟩
  unfold aLo aHi
  have e := lo_neg (aF (-h)) (ok_q (by have := g.lo; omega) (by have := g.hi; omega))
  refine aF_back (n := -aF (-h)) (by have := g.hi; omega) (by have := g.lo; omega) l i.l1 ?_
  rw [e.1]
  have := g.le
  have := i.l2
  omega
/-- the sines of its ends -/
theorem asin_ends {l h : Int} (i : InA l h) : hi (aLo l) ≤ l ∧ h ≤ lo (aHi h) ∧ (aLo l = 5400000 ∨ l < hi (aLo l + 1)) ∧ (aHi h = -5400000 ∨ lo (aHi h - 1) < h) := by
  have f := aF_is l i.l1
  have g := aF_is (-h) (by have := i.l3; omega)
  have e := lo_neg (aF (-h)) (ok_q (by have := g.lo; omega) (by have := g.hi; omega))
  unfold aLo aHi
  refine ⟨f.le, by rw [e.1]; have := g.le; omega, f.gt, ?_⟩
  rcases g.gt with k | k
  · exact .inl (by omega)
  · refine .inr ?_
    have e2 := lo_neg (aF (-h) + 1) (ok_q (by have := g.lo; omega) (by have := g.hi; omega))
    rw [show -aF (-h) - 1 = -(aF (-h) + 1) by omega, e2.1]
    omega
/-- a greater interval has a greater arc -/
theorem asin_part {l h l' h' : Int} (i : InA l h) (j : InA l' h') (a : l ≤ l') (b : h' ≤ h) : aLo l ≤ aLo l' ∧ aHi h' ≤ aHi h := by
  unfold aLo aHi
  have x := aF_mono i.l1 a
  have y := aF_mono (v := -h) (v' := -h') (by have := i.l3; omega) (by omega)
  exact ⟨x, by omega⟩
/-- an angle is in the arcsine of its sine -/
theorem asin_back {n : Int} (h1 : -5400000 ≤ n) (h2 : n ≤ 5400000) : InA (lo n) (hi n) ∧ aLo (lo n) ≤ n ∧ n ≤ aHi (hi n) := by
  obtain ⟨b1, b2⟩ := lo_hi_in n (ok_q (by omega) (by omega))
  have l := lo_le_hi n
  have e := lo_neg n (ok_q (by omega) (by omega))
  refine ⟨⟨b1, l.1, b2⟩, aF_back h1 h2 _ b1 (Int.le_refl _), ?_⟩
  unfold aHi
  have := aF_back (n := -n) (by omega) (by omega) (-hi n) (by omega) (by rw [e.1]; exact Int.le_refl _)
  omega
/-- the sine of an arcsine contains what it was made of -/
theorem asin_sine {l h : Int} (i : InA l h) : sL (aLo l) (aHi h) ≤ l ∧ h ≤ sH (aLo l) (aHi h) := by
  obtain ⟨e1, e2, -, -⟩ := asin_ends i
  have k := lo_le_hi (aLo l)
  have m := lo_le_hi (aHi h)
  have := i.l1
  have := i.l3
  constructor
  · unfold sL; split <;> omega
  · unfold sH; split <;> omega
end Go.Proofs.YtndcjldnnfhedaaDoor.L6
