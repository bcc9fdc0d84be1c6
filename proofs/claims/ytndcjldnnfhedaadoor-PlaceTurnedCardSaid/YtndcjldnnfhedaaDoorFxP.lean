/- Fixed: intervals of fixed-point numbers as plain functions of integers: no run of the model here. -/
import Derived.Test.YtndcjldnnfhedaaDoorRows
namespace Go.Proofs.YtndcjldnnfhedaaDoor
set_option linter.unusedVariables false

/-- a result: an interval, or a range, and an error's number -/
structure Fx where
  l : Int
  h : Int
  e : Int
/-- is an interval valid -/
def fok (a b : Int) : Bool := decide (-2147483648 ≤ a ∧ b ≤ 2147483648 ∧ a ≤ b)
theorem fok_iff (a b : Int) : fok a b = true ↔ (-2147483648 ≤ a ∧ b ≤ 2147483648 ∧ a ≤ b) := by unfold fok; simp
theorem fok_not (a b : Int) : fok a b = false ↔ ¬ (-2147483648 ≤ a ∧ b ≤ 2147483648 ∧ a ≤ b) := by unfold fok; rw [decide_eq_false_iff_not]
/-- a quotient rounded up -/
def cdiv (a b : Int) : Int := -((-a) / b)
theorem le_fl {L x y : Int} (h : 0 < y) : L ≤ x / y ↔ L * y ≤ x := Int.le_ediv_iff_mul_le h
theorem fl_lt {L x y : Int} (h : 0 < y) : x / y < L ↔ x < L * y := Int.ediv_lt_iff_lt_mul h
theorem ce_le {H x y : Int} (h : 0 < y) : cdiv x y ≤ H ↔ x ≤ H * y := by
  unfold cdiv
  have := le_fl (L := -H) (x := -x) h
  rw [Int.neg_mul] at this
  constructor
  · intro k; have := this.1 (by omega); omega
  · intro k; have := this.2 (by omega); omega
theorem lt_ce {H x y : Int} (h : 0 < y) : H < cdiv x y ↔ H * y < x := by
  have := ce_le (H := H) (x := x) h
  omega
theorem fl_le_ce {x y : Int} (h : 0 < y) : x / y ≤ cdiv x y := by
  have h1 := (le_fl (L := x / y) (x := x) h).1 (Int.le_refl _)
  have h2 := (ce_le (H := cdiv x y) (x := x) h).1 (Int.le_refl _)
  exact Int.le_of_mul_le_mul_right (Int.le_trans h1 h2) h
theorem fl_mono {x x' y : Int} (h : 0 < y) (k : x ≤ x') : x / y ≤ x' / y := (le_fl h).2 (Int.le_trans ((le_fl h).1 (Int.le_refl _)) k)
theorem ce_mono {x x' y : Int} (h : 0 < y) (k : x ≤ x') : cdiv x y ≤ cdiv x' y := (ce_le h).2 (Int.le_trans k ((ce_le h).1 (Int.le_refl _)))
theorem cdiv_neg (x y : Int) : cdiv (-x) y = -(x / y) := by unfold cdiv; rw [Int.neg_neg]
theorem fl_neg (x y : Int) : (-x) / y = -(cdiv x y) := by unfold cdiv; omega
theorem fl_one (x y : Int) (h : 0 < y) : x * y / y = x := Int.mul_ediv_cancel _ (by omega)
theorem ce_one (x y : Int) (h : 0 < y) : cdiv (x * y) y = x := by unfold cdiv; rw [← Int.neg_mul, fl_one _ _ h]; omega

/-- Go's quotient, turned into the floor -/
theorem tfloor (a b : Int) (hb : 0 < b) : (a.tmod b < 0 → a.tdiv b - 1 = a / b) ∧ (¬ a.tmod b < 0 → a.tdiv b = a / b) := by
  have h := Int.tmod_add_mul_tdiv a b
  have h1 := Int.tmod_lt_of_pos a hb
  have h2 := Int.lt_tmod_of_pos a hb
  generalize a.tmod b = r at *
  generalize a.tdiv b = q at *
  subst h
  constructor
  · intro hr
    rw [Int.add_mul_ediv_left _ _ (by omega)]
    have : r / b = -1 := by rw [Int.ediv_eq_iff_of_pos hb]; omega
    omega
  · intro hr
    rw [Int.add_mul_ediv_left _ _ (by omega), Int.ediv_eq_zero_of_lt (by omega) h1]
    omega
/-- products keep the order -/
theorem mul_le_r {a b c : Int} (h : a ≤ b) (k : 0 ≤ c) : a * c ≤ b * c := Int.mul_le_mul_of_nonneg_right h k
theorem mul_le_l {a b c : Int} (h : a ≤ b) (k : 0 ≤ c) : c * a ≤ c * b := Int.mul_le_mul_of_nonneg_left h k
theorem mul_ge_r {a b c : Int} (h : a ≤ b) (k : c ≤ 0) : b * c ≤ a * c := Int.mul_le_mul_of_nonpos_right h k
theorem mul_ge_l {a b c : Int} (h : a ≤ b) (k : c ≤ 0) : c * b ≤ c * a := Int.mul_le_mul_of_nonpos_left k h
/-- a product of numbers of two bounded sizes -/
theorem mul_abs {a b A B : Int} (h1 : -A ≤ a) (h2 : a ≤ A) (h3 : -B ≤ b) (h4 : b ≤ B) : -(A * B) ≤ a * b ∧ a * b ≤ A * B := by
  have q1 : (a.natAbs : Int) ≤ A := by omega
  have q2 : (b.natAbs : Int) ≤ B := by omega
  have q3 : ((a * b).natAbs : Int) ≤ A * B := by
    rw [Int.natAbs_mul, Int.natCast_mul]
    exact Int.mul_le_mul q1 q2 (by omega) (by omega)
  omega
/-- between two ends, a multiple is between the multiples of the ends -/
theorem lin_le {a b x c M : Int} (h1 : a ≤ x) (h2 : x ≤ b) (k1 : a * c ≤ M) (k2 : b * c ≤ M) : x * c ≤ M := by
  by_cases hc : 0 ≤ c
  · exact Int.le_trans (mul_le_r h2 hc) k2
  · exact Int.le_trans (mul_ge_r h1 (by omega)) k1
theorem lin_ge {a b x c M : Int} (h1 : a ≤ x) (h2 : x ≤ b) (k1 : M ≤ a * c) (k2 : M ≤ b * c) : M ≤ x * c := by
  by_cases hc : 0 ≤ c
  · exact Int.le_trans k1 (mul_le_r h1 hc)
  · exact Int.le_trans k2 (mul_ge_r h2 (by omega))
theorem lin_le' {a b x c M : Int} (h1 : a ≤ x) (h2 : x ≤ b) (k1 : c * a ≤ M) (k2 : c * b ≤ M) : c * x ≤ M := by
  rw [Int.mul_comm c] at k1 k2 ⊢; exact lin_le h1 h2 k1 k2
theorem lin_ge' {a b x c M : Int} (h1 : a ≤ x) (h2 : x ≤ b) (k1 : M ≤ c * a) (k2 : M ≤ c * b) : M ≤ c * x := by
  rw [Int.mul_comm c] at k1 k2 ⊢; exact lin_ge h1 h2 k1 k2
def min4 (x y z w : Int) : Int := min (min x y) (min z w)
def max4 (x y z w : Int) : Int := max (max x y) (max z w)
theorem min4_le (x y z w : Int) : min4 x y z w ≤ x ∧ min4 x y z w ≤ y ∧ min4 x y z w ≤ z ∧ min4 x y z w ≤ w := by unfold min4; omega
theorem le_max4 (x y z w : Int) : x ≤ max4 x y z w ∧ y ≤ max4 x y z w ∧ z ≤ max4 x y z w ∧ w ≤ max4 x y z w := by unfold max4; omega
theorem le_min4 {x y z w M : Int} (h1 : M ≤ x) (h2 : M ≤ y) (h3 : M ≤ z) (h4 : M ≤ w) : M ≤ min4 x y z w := by unfold min4; omega
theorem max4_le {x y z w M : Int} (h1 : x ≤ M) (h2 : y ≤ M) (h3 : z ≤ M) (h4 : w ≤ M) : max4 x y z w ≤ M := by unfold max4; omega
theorem min4_is (x y z w : Int) : min4 x y z w = x ∨ min4 x y z w = y ∨ min4 x y z w = z ∨ min4 x y z w = w := by unfold min4; omega
theorem max4_is (x y z w : Int) : max4 x y z w = x ∨ max4 x y z w = y ∨ max4 x y z w = z ∨ max4 x y z w = w := by unfold max4; omega
theorem min4_swap (x y z w : Int) : min4 x y z w = min4 x z y w := by unfold min4; omega
theorem max4_swap (x y z w : Int) : max4 x y z w = max4 x z y w := by unfold max4; omega
/-- the product of numbers of two intervals is between the products of the ends -/
theorem corner_le {a b c d x y : Int} (h1 : a ≤ x) (h2 : x ≤ b) (h3 : c ≤ y) (h4 : y ≤ d) : min4 (a * c) (a * d) (b * c) (b * d) ≤ x * y := by
  obtain ⟨m1, m2, m3, m4⟩ := min4_le (a * c) (a * d) (b * c) (b * d)
  exact lin_ge h1 h2 (lin_ge' h3 h4 m1 m2) (lin_ge' h3 h4 m3 m4)
theorem le_corner {a b c d x y : Int} (h1 : a ≤ x) (h2 : x ≤ b) (h3 : c ≤ y) (h4 : y ≤ d) : x * y ≤ max4 (a * c) (a * d) (b * c) (b * d) := by
  obtain ⟨m1, m2, m3, m4⟩ := le_max4 (a * c) (a * d) (b * c) (b * d)
  exact lin_le h1 h2 (lin_le' h3 h4 m1 m2) (lin_le' h3 h4 m3 m4)

/-- the interval, or ErrBig -/
def fit (l h : Int) : Fx := if -2147483648 ≤ l ∧ h ≤ 2147483648 then ⟨l, h, 0⟩ else ⟨0, 0, 5⟩
theorem fit_yes {l h : Int} (k : -2147483648 ≤ l ∧ h ≤ 2147483648) : fit l h = ⟨l, h, 0⟩ := if_pos k
theorem fit_no {l h : Int} (k : ¬ (-2147483648 ≤ l ∧ h ≤ 2147483648)) : fit l h = ⟨0, 0, 5⟩ := if_neg k
theorem fit_or (l h : Int) : (fit l h = ⟨l, h, 0⟩ ∧ -2147483648 ≤ l ∧ h ≤ 2147483648) ∨ (fit l h = ⟨0, 0, 5⟩ ∧ ¬ (-2147483648 ≤ l ∧ h ≤ 2147483648)) := by
  by_cases k : -2147483648 ≤ l ∧ h ≤ 2147483648
  · exact .inl ⟨fit_yes k, k⟩
  · exact .inr ⟨fit_no k, k⟩
/-- a number that is asked for beside no result -/
def argR : Fx := ⟨0, 0, 1⟩
/-- the quotient with a positive divisor -/
def tA (a b c : Int) : Int := if c < 0 then -b else a
def tB (a b c : Int) : Int := if c < 0 then -a else b
def tC (c d : Int) : Int := if c < 0 then -d else c
def tD (c d : Int) : Int := if c < 0 then -c else d
def makeR (n d : Int) : Fx := if d = 0 then ⟨0, 0, 16⟩ else if d < 0 then fit (-n * 1073741824 / -d) (cdiv (-n * 1073741824) (-d)) else fit (n * 1073741824 / d) (cdiv (n * 1073741824) d)
def addR (a b c d : Int) : Fx := fit (a + c) (b + d)
def subR (a b c d : Int) : Fx := fit (a - d) (b - c)
def negR (a b : Int) : Fx := ⟨-b, -a, 0⟩
def mulR (a b c d : Int) : Fx := fit (min4 (a * c) (a * d) (b * c) (b * d) / 1073741824) (cdiv (max4 (a * c) (a * d) (b * c) (b * d)) 1073741824)
def squareR (a b : Int) : Fx := fit ((if a ≤ 0 ∧ 0 ≤ b then 0 else min (a * a) (b * b)) / 1073741824) (cdiv (max (a * a) (b * b)) 1073741824)
/-- floors and ceilings of the quotients of four pairs of ends -/
def loQ (a b c d n : Int) : Int := min4 (a * n / c) (a * n / d) (b * n / c) (b * n / d)
def hiQ (a b c d n : Int) : Int := max4 (cdiv (a * n) c) (cdiv (a * n) d) (cdiv (b * n) c) (cdiv (b * n) d)
def divR (a b c d : Int) : Fx := if c ≤ 0 ∧ 0 ≤ d then ⟨0, 0, 16⟩ else
  fit (loQ (tA a b c) (tB a b c) (tC c d) (tD c d) 1073741824) (hiQ (tA a b c) (tB a b c) (tC c d) (tD c d) 1073741824)
/-- the root of an integer rounded down -/
def isRt (n r : Int) : Prop := 0 ≤ r ∧ r * r ≤ n ∧ n < (r + 1) * (r + 1)
theorem isRt_any (n : Nat) : ∃ r : Nat, r * r ≤ n ∧ n < (r + 1) * (r + 1) := by
  induction n with
  | zero => exact ⟨0, by omega, by omega⟩
  | succ n ih =>
    obtain ⟨r, h1, h2⟩ := ih
    by_cases h : n + 1 < (r + 1) * (r + 1)
    · exact ⟨r, by omega, h⟩
    · refine ⟨r + 1, by omega, ?_⟩
      have : (r + 1) * (r + 1) < (r + 1 + 1) * (r + 1 + 1) := Nat.mul_lt_mul'' (by omega) (by omega)
      omega
theorem isRt_ex {n : Int} (h : 0 ≤ n) : ∃ r, isRt n r := by
  obtain ⟨r, h1, h2⟩ := isRt_any n.toNat
  refine ⟨(r : Int), by omega, ?_, ?_⟩
  · have : ((r * r : Nat) : Int) ≤ (n.toNat : Int) := by omega
    rw [Int.natCast_mul] at this; omega
  · have : (n.toNat : Int) < (((r + 1) * (r + 1) : Nat) : Int) := by omega
    rw [Int.natCast_mul] at this; simp at this; omega
theorem sq_le {a b : Int} (h : 0 ≤ a) (k : a ≤ b) : a * a ≤ b * b := Int.mul_le_mul k k h (by omega)
theorem sq_lt {a b : Int} (h : 0 ≤ a) (k : a < b) : a * a < b * b := Int.lt_of_le_of_lt (mul_le_l (Int.le_of_lt k) h) (Int.mul_lt_mul_of_pos_right k (by omega))
theorem isRt_one {n r s : Int} (h : isRt n r) (k : isRt n s) : r = s := by
  obtain ⟨h0, h1, h2⟩ := h
  obtain ⟨k0, k1, k2⟩ := k
  have p1 : ¬ r < s := fun hl => by have := sq_le (a := r + 1) (b := s) (by omega) (by omega); omega
  have p2 : ¬ s < r := fun hl => by have := sq_le (a := s + 1) (b := r) (by omega) (by omega); omega
  omega
theorem isRt_mono {n m r s : Int} (h : isRt n r) (k : isRt m s) (hl : n ≤ m) : r ≤ s := by
  obtain ⟨h0, h1, h2⟩ := h
  obtain ⟨k0, k1, k2⟩ := k
  have p2 : ¬ s < r := fun hl => by have := sq_le (a := s + 1) (b := r) (by omega) (by omega); omega
  omega
/-- what Sqrt answers, told by the roots of its two ends -/
def upR (n r : Int) : Int := if r * r < n then r + 1 else r
structure IsSqrt (a b : Int) (R : Fx) : Prop where
  out : (b < 0 ∧ R = ⟨0, 0, 2⟩) ∨ (0 ≤ b ∧ ∃ r s, isRt (max a 0 * 1073741824) r ∧ isRt (b * 1073741824) s ∧ R = ⟨r, upR (b * 1073741824) s, 0⟩)
theorem IsSqrt.ex (a b : Int) (h : a ≤ b) : ∃ R, IsSqrt a b R := by
  by_cases hb : b < 0
  · exact ⟨_, ⟨.inl ⟨hb, rfl⟩⟩⟩
  · obtain ⟨r, hr⟩ := isRt_ex (n := max a 0 * 1073741824) (by omega)
    obtain ⟨s, hs⟩ := isRt_ex (n := b * 1073741824) (by omega)
    exact ⟨_, ⟨.inr ⟨by omega, r, s, hr, hs, rfl⟩⟩⟩
theorem IsSqrt.one {a b : Int} {R R' : Fx} (h : IsSqrt a b R) (k : IsSqrt a b R') : R = R' := by
  obtain ⟨⟨h0, rfl⟩ | ⟨h0, r, s, hr, hs, rfl⟩⟩ := h
  · obtain ⟨⟨k0, rfl⟩ | ⟨k0, _⟩⟩ := k
    · rfl
    · omega
  · obtain ⟨⟨k0, rfl⟩ | ⟨k0, r', s', hr', hs', rfl⟩⟩ := k
    · omega
    · rw [isRt_one hr hr', isRt_one hs hs']
open Classical in
noncomputable def sqrtR (a b : Int) : Fx := if h : ∃ R, IsSqrt a b R then h.choose else ⟨0, 0, 0⟩
theorem sqrtR_is (a b : Int) (h : a ≤ b) : IsSqrt a b (sqrtR a b) := by
  unfold sqrtR
  rw [dif_pos (IsSqrt.ex a b h)]
  exact (IsSqrt.ex a b h).choose_spec
theorem sqrtR_of {a b : Int} {R : Fx} (h : a ≤ b) (k : IsSqrt a b R) : R = sqrtR a b := k.one (sqrtR_is a b h)
def reach (n : Int) : Bool := decide (-1099511627776 ≤ n ∧ n ≤ 1099511627776)
theorem reach_iff (n : Int) : reach n = true ↔ (-1099511627776 ≤ n ∧ n ≤ 1099511627776) := by unfold reach; simp
theorem reach_not (n : Int) : reach n = false ↔ ¬ (-1099511627776 ≤ n ∧ n ≤ 1099511627776) := by unfold reach; rw [decide_eq_false_iff_not]
def scaleR (a b n : Int) : Fx := if reach n = true then ⟨min (a * n / 1073741824) (b * n / 1073741824), max (cdiv (a * n) 1073741824) (cdiv (b * n) 1073741824), 0⟩ else ⟨0, 0, 2⟩
def quotR (a b c d n : Int) : Fx := if reach n = true then (if c ≤ 0 ∧ 0 ≤ d then ⟨0, 0, 16⟩ else
    if reach (loQ (tA a b c) (tB a b c) (tC c d) (tD c d) n) = true ∧ reach (hiQ (tA a b c) (tB a b c) (tC c d) (tD c d) n) = true then ⟨loQ (tA a b c) (tB a b c) (tC c d) (tD c d) n, hiQ (tA a b c) (tB a b c) (tC c d) (tD c d) n, 0⟩ else ⟨0, 0, 5⟩)
  else ⟨0, 0, 2⟩
def hullR (a b c d : Int) : Fx := ⟨min a c, max b d, 0⟩
def meetR (a b c d : Int) : Fx := if min b d < max a c then ⟨0, 0, 23⟩ else ⟨max a c, min b d, 0⟩
def insideR (a b c d : Int) : Bool := fok a b && fok c d && decide (c ≤ a ∧ b ≤ d)
theorem insideR_iff (a b c d : Int) : insideR a b c d = true ↔ (fok a b = true ∧ fok c d = true ∧ c ≤ a ∧ b ≤ d) := by unfold insideR; simp [and_assoc]
theorem insideR_not (a b c d : Int) : insideR a b c d = false ↔ ¬ (fok a b = true ∧ fok c d = true ∧ c ≤ a ∧ b ≤ d) := by
  rw [← insideR_iff]; simp
end Go.Proofs.YtndcjldnnfhedaaDoor
