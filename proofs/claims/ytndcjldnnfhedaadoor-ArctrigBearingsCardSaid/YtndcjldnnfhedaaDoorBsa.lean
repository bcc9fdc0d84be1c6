/- Small worlds and arcs. -/
import Derived.Test.YtndcjldnnfhedaaDoorRows
import Derived.WalkKit
import Derived.WalkSpells
import Derived.WalkLawsBesides
import Derived.Lib.Hide
import Derived.Deep.QuietTactic
import Derived.BigQuiet
import Derived.Deep.RegionWith
import Derived.BigRegion
import Derived.StillTailTactics
import Derived.Deep.RegionHeld3
import Derived.Laws.Bits64b
import Derived.Deep.LoopGhost
import Derived.Deep.CutRange
/- Fixed: intervals of fixed-point numbers as plain functions of integers: no run of the model here. -/
namespace Go.Proofs.YtndcjldnnfhedaaDoor
set_option linter.unusedVariables false

/-- a result: an interval, or a range, and an error's number -/
structure Fx where
  l : Int
  h : Int
  e : Int
/-- is an interval valid -/
def fok (a b : Int) : Bool := decide (-2147483648 ≤ a ∧ b ≤ 2147483648 ∧ a ≤ b)
theorem fok_iff (a b : Int) : fok a b = true ↔ (-2147483648 ≤ a ∧ b ≤ 2147483648 ∧ a ≤ b) := by unfold fok; simp
theorem fok_not (a b : Int) : fok a b = false ↔ ¬ (-2147483648 ≤ a ∧ b ≤ 2147483648 ∧ a ≤ b) := by unfold fok; rw [decide_eq_false_iff_not]
/-- a quotient rounded up -/
def cdiv (a b : Int) : Int := -((-a) / b)
theorem le_fl {L x y : Int} (h : 0 < y) : L ≤ x / y ↔ L * y ≤ x := Int.le_ediv_iff_mul_le h
theorem fl_lt {L x y : Int} (h : 0 < y) : x / y < L ↔ x < L * y := Int.ediv_lt_iff_lt_mul h
theorem ce_le {H x y : Int} (h : 0 < y) : cdiv x y ≤ H ↔ x ≤ H * y := by
  unfold cdiv
  have := le_fl (L := -H) (x := -x) h
  rw [Int.neg_mul] at this
  constructor
  · intro k; have := this.1 (by omega); omega
  · intro k; have := this.2 (by omega); omega
theorem lt_ce {H x y : Int} (h : 0 < y) : H < cdiv x y ↔ H * y < x := by
  have := ce_le (H := H) (x := x) h
  omega
theorem fl_le_ce {x y : Int} (h : 0 < y) : x / y ≤ cdiv x y := by
  have h1 := (le_fl (L := x / y) (x := x) h).1 (Int.le_refl _)
  have h2 := (ce_le (H := cdiv x y) (x := x) h).1 (Int.le_refl _)
  exact Int.le_of_mul_le_mul_right (Int.le_trans h1 h2) h
theorem fl_mono {x x' y : Int} (h : 0 < y) (k : x ≤ x') : x / y ≤ x' / y := (le_fl h).2 (Int.le_trans ((le_fl h).1 (Int.le_refl _)) k)
theorem ce_mono {x x' y : Int} (h : 0 < y) (k : x ≤ x') : cdiv x y ≤ cdiv x' y := (ce_le h).2 (Int.le_trans k ((ce_le h).1 (Int.le_refl _)))
theorem cdiv_neg (x y : Int) : cdiv (-x) y = -(x / y) := by unfold cdiv; rw [Int.neg_neg]
theorem fl_neg (x y : Int) : (-x) / y = -(cdiv x y) := by unfold cdiv; omega
theorem fl_one (x y : Int) (h : 0 < y) : x * y / y = x := Int.mul_ediv_cancel _ (by omega)
theorem ce_one (x y : Int) (h : 0 < y) : cdiv (x * y) y = x := by unfold cdiv; rw [← Int.neg_mul, fl_one _ _ h]; omega

/-- Go's quotient, turned into the floor -/
theorem tfloor (a b : Int) (hb : 0 < b) : (a.tmod b < 0 → a.tdiv b - 1 = a / b) ∧ (¬ a.tmod b < 0 → a.tdiv b = a / b) := by
  have h := Int.tmod_add_mul_tdiv a b
  have h1 := Int.tmod_lt_of_pos a hb
  have h2 := Int.lt_tmod_of_pos a hb
  generalize a.tmod b = r at *
  generalize a.tdiv b = q at *
  subst h
  constructor
  · intro hr
    rw [Int.add_mul_ediv_left _ _ (by omega)]
    have : r / b = -1 := by rw [Int.ediv_eq_iff_of_pos hb]; omega
    omega
  · intro hr
    rw [Int.add_mul_ediv_left _ _ (by omega), Int.ediv_eq_zero_of_lt (by omega) h1]
    omega
/-- products keep the order -/
theorem mul_le_r {a b c : Int} (h : a ≤ b) (k : 0 ≤ c) : a * c ≤ b * c := Int.mul_le_mul_of_nonneg_right h k
theorem mul_le_l {a b c : Int} (h : a ≤ b) (k : 0 ≤ c) : c * a ≤ c * b := Int.mul_le_mul_of_nonneg_left h k
theorem mul_ge_r {a b c : Int} (h : a ≤ b) (k : c ≤ 0) : b * c ≤ a * c := Int.mul_le_mul_of_nonpos_right h k
theorem mul_ge_l {a b c : Int} (h : a ≤ b) (k : c ≤ 0) : c * b ≤ c * a := Int.mul_le_mul_of_nonpos_left k h
/-- a product of numbers of two bounded sizes -/
theorem mul_abs {a b A B : Int} (h1 : -A ≤ a) (h2 : a ≤ A) (h3 : -B ≤ b) (h4 : b ≤ B) : -(A * B) ≤ a * b ∧ a * b ≤ A * B := by
  have q1 : (a.natAbs : Int) ≤ A := by omega
  have q2 : (b.natAbs : Int) ≤ B := by omega
  have q3 : ((a * b).natAbs : Int) ≤ A * B := by
    rw [Int.natAbs_mul, Int.natCast_mul]
    exact Int.mul_le_mul q1 q2 (by omega) (by omega)
  omega
/-- between two ends, a multiple is between the multiples of the ends -/
theorem lin_le {a b x c M : Int} (h1 : a ≤ x) (h2 : x ≤ b) (k1 : a * c ≤ M) (k2 : b * c ≤ M) : x * c ≤ M := by
  by_cases hc : 0 ≤ c
  · exact Int.le_trans (mul_le_r h2 hc) k2
  · exact Int.le_trans (mul_ge_r h1 (by omega)) k1
theorem lin_ge {a b x c M : Int} (h1 : a ≤ x) (h2 : x ≤ b) (k1 : M ≤ a * c) (k2 : M ≤ b * c) : M ≤ x * c := by
  by_cases hc : 0 ≤ c
  · exact Int.le_trans k1 (mul_le_r h1 hc)
  · exact Int.le_trans k2 (mul_ge_r h2 (by omega))
theorem lin_le' {a b x c M : Int} (h1 : a ≤ x) (h2 : x ≤ b) (k1 : c * a ≤ M) (k2 : c * b ≤ M) : c * x ≤ M := by
  rw [Int.mul_comm c] at k1 k2 ⊢; exact lin_le h1 h2 k1 k2
theorem lin_ge' {a b x c M : Int} (h1 : a ≤ x) (h2 : x ≤ b) (k1 : M ≤ c * a) (k2 : M ≤ c * b) : M ≤ c * x := by
  rw [Int.mul_comm c] at k1 k2 ⊢; exact lin_ge h1 h2 k1 k2
def min4 (x y z w : Int) : Int := min (min x y) (min z w)
def max4 (x y z w : Int) : Int := max (max x y) (max z w)
theorem min4_le (x y z w : Int) : min4 x y z w ≤ x ∧ min4 x y z w ≤ y ∧ min4 x y z w ≤ z ∧ min4 x y z w ≤ w := by unfold min4; omega
theorem le_max4 (x y z w : Int) : x ≤ max4 x y z w ∧ y ≤ max4 x y z w ∧ z ≤ max4 x y z w ∧ w ≤ max4 x y z w := by unfold max4; omega
theorem le_min4 {x y z w M : Int} (h1 : M ≤ x) (h2 : M ≤ y) (h3 : M ≤ z) (h4 : M ≤ w) : M ≤ min4 x y z w := by unfold min4; omega
theorem max4_le {x y z w M : Int} (h1 : x ≤ M) (h2 : y ≤ M) (h3 : z ≤ M) (h4 : w ≤ M) : max4 x y z w ≤ M := by unfold max4; omega
theorem min4_is (x y z w : Int) : min4 x y z w = x ∨ min4 x y z w = y ∨ min4 x y z w = z ∨ min4 x y z w = w := by unfold min4; omega
theorem max4_is (x y z w : Int) : max4 x y z w = x ∨ max4 x y z w = y ∨ max4 x y z w = z ∨ max4 x y z w = w := by unfold max4; omega
theorem min4_swap (x y z w : Int) : min4 x y z w = min4 x z y w := by unfold min4; omega
theorem max4_swap (x y z w : Int) : max4 x y z w = max4 x z y w := by unfold max4; omega
/-- the product of numbers of two intervals is between the products of the ends -/
theorem corner_le {a b c d x y : Int} (h1 : a ≤ x) (h2 : x ≤ b) (h3 : c ≤ y) (h4 : y ≤ d) : min4 (a * c) (a * d) (b * c) (b * d) ≤ x * y := by
  obtain ⟨m1, m2, m3, m4⟩ := min4_le (a * c) (a * d) (b * c) (b * d)
  exact lin_ge h1 h2 (lin_ge' h3 h4 m1 m2) (lin_ge' h3 h4 m3 m4)
theorem le_corner {a b c d x y : Int} (h1 : a ≤ x) (h2 : x ≤ b) (h3 : c ≤ y) (h4 : y ≤ d) : x * y ≤ max4 (a * c) (a * d) (b * c) (b * d) := by
  obtain ⟨m1, m2, m3, m4⟩ := le_max4 (a * c) (a * d) (b * c) (b * d)
  exact lin_le h1 h2 (lin_le' h3 h4 m1 m2) (lin_le' h3 h4 m3 m4)

/-- the interval, or ErrBig -/
def fit (l h : Int) : Fx := if -2147483648 ≤ l ∧ h ≤ 2147483648 then ⟨l, h, 0⟩ else ⟨0, 0, 5⟩
theorem fit_yes {l h : Int} (k : -2147483648 ≤ l ∧ h ≤ 2147483648) : fit l h = ⟨l, h, 0⟩ := if_pos k
theorem fit_no {l h : Int} (k : ¬ (-2147483648 ≤ l ∧ h ≤ 2147483648)) : fit l h = ⟨0, 0, 5⟩ := if_neg k
theorem fit_or (l h : Int) : (fit l h = ⟨l, h, 0⟩ ∧ -2147483648 ≤ l ∧ h ≤ 2147483648) ∨ (fit l h = ⟨0, 0, 5⟩ ∧ ¬ (-2147483648 ≤ l ∧ h ≤ 2147483648)) := by
  by_cases k : -2147483648 ≤ l ∧ h ≤ 2147483648
  · exact .inl ⟨fit_yes k, k⟩
  · exact .inr ⟨fit_no k, k⟩
/-- a number that is asked for beside no result -/
def argR : Fx := ⟨0, 0, 1⟩
/-- the quotient with a positive divisor -/
def tA (a b c : Int) : Int := if c < 0 then -b else a
def tB (a b c : Int) : Int := if c < 0 then -a else b
def tC (c d : Int) : Int := if c < 0 then -d else c
def tD (c d : Int) : Int := if c < 0 then -c else d
def makeR (n d : Int) : Fx := if d = 0 then ⟨0, 0, 16⟩ else if d < 0 then fit (-n * 1073741824 / -d) (cdiv (-n * 1073741824) (-d)) else fit (n * 1073741824 / d) (cdiv (n * 1073741824) d)
def addR (a b c d : Int) : Fx := fit (a + c) (b + d)
def subR (a b c d : Int) : Fx := fit (a - d) (b - c)
def negR (a b : Int) : Fx := ⟨-b, -a, 0⟩
def mulR (a b c d : Int) : Fx := fit (min4 (a * c) (a * d) (b * c) (b * d) / 1073741824) (cdiv (max4 (a * c) (a * d) (b * c) (b * d)) 1073741824)
def squareR (a b : Int) : Fx := fit ((if a ≤ 0 ∧ 0 ≤ b then 0 else min (a * a) (b * b)) / 1073741824) (cdiv (max (a * a) (b * b)) 1073741824)
/-- floors and ceilings of the quotients of four pairs of ends -/
def loQ (a b c d n : Int) : Int := min4 (a * n / c) (a * n / d) (b * n / c) (b * n / d)
def hiQ (a b c d n : Int) : Int := max4 (cdiv (a * n) c) (cdiv (a * n) d) (cdiv (b * n) c) (cdiv (b * n) d)
def divR (a b c d : Int) : Fx := if c ≤ 0 ∧ 0 ≤ d then ⟨0, 0, 16⟩ else
  fit (loQ (tA a b c) (tB a b c) (tC c d) (tD c d) 1073741824) (hiQ (tA a b c) (tB a b c) (tC c d) (tD c d) 1073741824)
/-- the root of an integer rounded down -/
def isRt (n r : Int) : Prop := 0 ≤ r ∧ r * r ≤ n ∧ n < (r + 1) * (r + 1)
theorem isRt_any (n : Nat) : ∃ r : Nat, r * r ≤ n ∧ n < (r + 1) * (r + 1) := by
  induction n with
  | zero => exact ⟨0, by omega, by omega⟩
  | succ n ih =>
    obtain ⟨r, h1, h2⟩ := ih
    by_cases h : n + 1 < (r + 1) * (r + 1)
    · exact ⟨r, by omega, h⟩
    · refine ⟨r + 1, by omega, ?_⟩
      have : (r + 1) * (r + 1) < (r + 1 + 1) * (r + 1 + 1) := Nat.mul_lt_mul'' (by omega) (by omega)
      omega
theorem isRt_ex {n : Int} (h : 0 ≤ n) : ∃ r, isRt n r := by
  obtain ⟨r, h1, h2⟩ := isRt_any n.toNat
  refine ⟨(r : Int), by omega, ?_, ?_⟩
  · have : ((r * r : Nat) : Int) ≤ (n.toNat : Int) := by omega
    rw [Int.natCast_mul] at this; omega
  · have : (n.toNat : Int) < (((r + 1) * (r + 1) : Nat) : Int) := by omega
    rw [Int.natCast_mul] at this; simp at this; omega
theorem sq_le {a b : Int} (h : 0 ≤ a) (k : a ≤ b) : a * a ≤ b * b := Int.mul_le_mul k k h (by omega)
theorem sq_lt {a b : Int} (h : 0 ≤ a) (k : a < b) : a * a < b * b := Int.lt_of_le_of_lt (mul_le_l (Int.le_of_lt k) h) (Int.mul_lt_mul_of_pos_right k (by omega))
theorem isRt_one {n r s : Int} (h : isRt n r) (k : isRt n s) : r = s := by
  obtain ⟨h0, h1, h2⟩ := h
  obtain ⟨k0, k1, k2⟩ := k
  have p1 : ¬ r < s := fun hl => by have := sq_le (a := r + 1) (b := s) (by omega) (by omega); omega
  have p2 : ¬ s < r := fun hl => by have := sq_le (a := s + 1) (b := r) (by omega) (by omega); omega
  omega
theorem isRt_mono {n m r s : Int} (h : isRt n r) (k : isRt m s) (hl : n ≤ m) : r ≤ s := by
  obtain ⟨h0, h1, h2⟩ := h
  obtain ⟨k0, k1, k2⟩ := k
  have p2 : ¬ s < r := fun hl => by have := sq_le (a := s + 1) (b := r) (by omega) (by omega); omega
  omega
/-- what Sqrt answers, told by the roots of its two ends -/
def upR (n r : Int) : Int := if r * r < n then r + 1 else r
structure IsSqrt (a b : Int) (R : Fx) : Prop where
  out : (b < 0 ∧ R = ⟨0, 0, 2⟩) ∨ (0 ≤ b ∧ ∃ r s, isRt (max a 0 * 1073741824) r ∧ isRt (b * 1073741824) s ∧ R = ⟨r, upR (b * 1073741824) s, 0⟩)
theorem IsSqrt.ex (a b : Int) (h : a ≤ b) : ∃ R, IsSqrt a b R := by
  by_cases hb : b < 0
  · exact ⟨_, ⟨.inl ⟨hb, rfl⟩⟩⟩
  · obtain ⟨r, hr⟩ := isRt_ex (n := max a 0 * 1073741824) (by omega)
    obtain ⟨s, hs⟩ := isRt_ex (n := b * 1073741824) (by omega)
    exact ⟨_, ⟨.inr ⟨by omega, r, s, hr, hs, rfl⟩⟩⟩
theorem IsSqrt.one {a b : Int} {R R' : Fx} (h : IsSqrt a b R) (k : IsSqrt a b R') : R = R' := by
  obtain ⟨⟨h0, rfl⟩ | ⟨h0, r, s, hr, hs, rfl⟩⟩ := h
  · obtain ⟨⟨k0, rfl⟩ | ⟨k0, _⟩⟩ := k
    · rfl
    · omega
  · obtain ⟨⟨k0, rfl⟩ | ⟨k0, r', s', hr', hs', rfl⟩⟩ := k
    · omega
    · rw [isRt_one hr hr', isRt_one hs hs']
open Classical in
noncomputable def sqrtR (a b : Int) : Fx := if h : ∃ R, IsSqrt a b R then h.choose else ⟨0, 0, 0⟩
theorem sqrtR_is (a b : Int) (h : a ≤ b) : IsSqrt a b (sqrtR a b) := by
  unfold sqrtR
  rw [dif_pos (IsSqrt.ex a b h)]
  exact (IsSqrt.ex a b h).choose_spec
theorem sqrtR_of {a b : Int} {R : Fx} (h : a ≤ b) (k : IsSqrt a b R) : R = sqrtR a b := k.one (sqrtR_is a b h)
def reach (n : Int) : Bool := decide (-1099511627776 ≤ n ∧ n ≤ 1099511627776)
theorem reach_iff (n : Int) : reach n = true ↔ (-1099511627776 ≤ n ∧ n ≤ 1099511627776) := by unfold reach; simp
theorem reach_not (n : Int) : reach n = false ↔ ¬ (-1099511627776 ≤ n ∧ n ≤ 1099511627776) := by unfold reach; rw [decide_eq_false_iff_not]
def scaleR (a b n : Int) : Fx := if reach n = true then ⟨min (a * n / 1073741824) (b * n / 1073741824), max (cdiv (a * n) 1073741824) (cdiv (b * n) 1073741824), 0⟩ else ⟨0, 0, 2⟩
def quotR (a b c d n : Int) : Fx := if reach n = true then (if c ≤ 0 ∧ 0 ≤ d then ⟨0, 0, 16⟩ else
    if reach (loQ (tA a b c) (tB a b c) (tC c d) (tD c d) n) = true ∧ reach (hiQ (tA a b c) (tB a b c) (tC c d) (tD c d) n) = true then ⟨loQ (tA a b c) (tB a b c) (tC c d) (tD c d) n, hiQ (tA a b c) (tB a b c) (tC c d) (tD c d) n, 0⟩ else ⟨0, 0, 5⟩)
  else ⟨0, 0, 2⟩
def hullR (a b c d : Int) : Fx := ⟨min a c, max b d, 0⟩
def meetR (a b c d : Int) : Fx := if min b d < max a c then ⟨0, 0, 23⟩ else ⟨max a c, min b d, 0⟩
def insideR (a b c d : Int) : Bool := fok a b && fok c d && decide (c ≤ a ∧ b ≤ d)
theorem insideR_iff (a b c d : Int) : insideR a b c d = true ↔ (fok a b = true ∧ fok c d = true ∧ c ≤ a ∧ b ≤ d) := by unfold insideR; simp [and_assoc]
theorem insideR_not (a b c d : Int) : insideR a b c d = false ↔ ¬ (fok a b = true ∧ fok c d = true ∧ c ≤ a ∧ b ≤ d) := by
  rw [← insideR_iff]; simp
end Go.Proofs.YtndcjldnnfhedaaDoor

/- Fixed: what the laws of layer 4 say of the plain answers. -/
namespace Go.Proofs.YtndcjldnnfhedaaDoor
set_option linter.unusedVariables false

/-- what the law of parts asks of two results -/
def Cont (R S : Fx) : Prop := R.e = 0 → (S.e = 0 ∧ insideR S.l S.h R.l R.h = true) ∨ S.e = 2
theorem fok_mk {a b : Int} (h1 : -2147483648 ≤ a) (h2 : b ≤ 2147483648) (h3 : a ≤ b) : fok a b = true := (fok_iff _ _).2 ⟨h1, h2, h3⟩
theorem inside_mk {a b c d : Int} (h : fok c d = true) (h1 : c ≤ a) (h2 : b ≤ d) (h3 : a ≤ b) : insideR a b c d = true := by
  have k := (fok_iff _ _).1 h
  exact (insideR_iff _ _ _ _).2 ⟨fok_mk (by omega) (by omega) h3, h, h1, h2⟩
theorem cont_fit {l h l' h' : Int} (k : l ≤ h) (k' : l' ≤ h') (h1 : l ≤ l') (h2 : h' ≤ h) : Cont (fit l h) (fit l' h') := by
  intro e
  obtain ⟨q, q1, q2⟩ | ⟨q, q1⟩ := fit_or l h
  · rw [q]
    rw [fit_yes (show -2147483648 ≤ l' ∧ h' ≤ 2147483648 by omega)]
    exact .inl ⟨rfl, inside_mk (fok_mk q1 q2 k) h1 h2 k'⟩
  · rw [q] at e; exact absurd e (by decide)
/-- the answer is an interval, or ErrBig -/
theorem fit_e (l h : Int) : (fit l h).e = 0 ∨ (fit l h).e = 5 := by
  obtain ⟨q, _⟩ | ⟨q, _⟩ := fit_or l h
  · rw [q]; exact .inl rfl
  · rw [q]; exact .inr rfl
theorem fit_zero {l h : Int} (k : (fit l h).e = 0) : fit l h = ⟨l, h, 0⟩ ∧ -2147483648 ≤ l ∧ h ≤ 2147483648 := by
  obtain ⟨q, q1, q2⟩ | ⟨q, q1⟩ := fit_or l h
  · exact ⟨q, q1, q2⟩
  · rw [q] at k; exact absurd k (by decide)

theorem min4_le_max4 (x y z w : Int) : min4 x y z w ≤ max4 x y z w := by unfold min4 max4; omega
theorem mul_lo_hi (a b c d : Int) : min4 (a * c) (a * d) (b * c) (b * d) / 1073741824 ≤ cdiv (max4 (a * c) (a * d) (b * c) (b * d)) 1073741824 :=
  Int.le_trans (fl_mono (by omega) (min4_le_max4 _ _ _ _)) (fl_le_ce (by omega))
theorem loQ_hiQ {a b c d n : Int} (hc : 0 < c) : loQ a b c d n ≤ hiQ a b c d n := by
  have h1 := (min4_le (a * n / c) (a * n / d) (b * n / c) (b * n / d)).1
  have h2 := (le_max4 (cdiv (a * n) c) (cdiv (a * n) d) (cdiv (b * n) c) (cdiv (b * n) d)).1
  have h3 := fl_le_ce (x := a * n) hc
  unfold loQ hiQ; omega
/-- the floors of the corners are below each number's quotient -/
theorem loQ_le {a b c d n x y : Int} (hc : 0 < c) (h1 : a ≤ x) (h2 : x ≤ b) (h3 : c ≤ y) (h4 : y ≤ d) : loQ a b c d n ≤ x * n / y := by
  have hd : 0 < d := by omega
  rw [le_fl (by omega)]
  obtain ⟨m1, m2, m3, m4⟩ := min4_le (a * n / c) (a * n / d) (b * n / c) (b * n / d)
  exact lin_ge h1 h2 (lin_le' h3 h4 ((le_fl hc).1 m1) ((le_fl hd).1 m2)) (lin_le' h3 h4 ((le_fl hc).1 m3) ((le_fl hd).1 m4))
theorem le_hiQ {a b c d n x y : Int} (hc : 0 < c) (h1 : a ≤ x) (h2 : x ≤ b) (h3 : c ≤ y) (h4 : y ≤ d) : cdiv (x * n) y ≤ hiQ a b c d n := by
  have hd : 0 < d := by omega
  rw [ce_le (by omega)]
  obtain ⟨m1, m2, m3, m4⟩ := le_max4 (cdiv (a * n) c) (cdiv (a * n) d) (cdiv (b * n) c) (cdiv (b * n) d)
  exact lin_le h1 h2 (lin_ge' h3 h4 ((ce_le hc).1 m1) ((ce_le hd).1 m2)) (lin_ge' h3 h4 ((ce_le hc).1 m3) ((ce_le hd).1 m4))
theorem loQ_same (x y n : Int) : loQ x x y y n = x * n / y := by unfold loQ min4; omega
theorem hiQ_same (x y n : Int) : hiQ x x y y n = cdiv (x * n) y := by unfold hiQ max4; omega
/-- the turned ends -/
theorem turn_pos {a b c d : Int} (h : c ≤ d) (hz : ¬ (c ≤ 0 ∧ 0 ≤ d)) (k : a ≤ b) : 0 < tC c d ∧ tC c d ≤ tD c d ∧ tA a b c ≤ tB a b c := by
  unfold tA tB tC tD
  by_cases hc : c < 0
  · simp only [if_pos hc]; omega
  · simp only [if_neg hc]; omega
theorem turn_in {a b c d x y : Int} (hz : ¬ (c ≤ 0 ∧ 0 ≤ d)) (h1 : a ≤ x) (h2 : x ≤ b) (h3 : c ≤ y) (h4 : y ≤ d) :
    tA a b c ≤ tA x x y ∧ tA x x y ≤ tB a b c ∧ tC c d ≤ tC y y ∧ tC y y ≤ tD c d ∧ tB x x y = tA x x y ∧ tD y y = tC y y := by
  unfold tA tB tC tD
  by_cases hc : c < 0
  · have hy : y < 0 := by omega
    simp only [if_pos hc, if_pos hy]; exact ⟨by omega, by omega, by omega, by omega, trivial, trivial⟩
  · have hy : ¬ y < 0 := by omega
    simp only [if_neg hc, if_neg hy]; exact ⟨by omega, by omega, by omega, by omega, trivial, trivial⟩

theorem cont_add {a b c d x y : Int} (h1 : a ≤ x) (h2 : x ≤ b) (h3 : c ≤ y) (h4 : y ≤ d) : Cont (addR a b c d) (addR x x y y) :=
  cont_fit (by omega) (by omega) (by omega) (by omega)
theorem cont_sub {a b c d x y : Int} (h1 : a ≤ x) (h2 : x ≤ b) (h3 : c ≤ y) (h4 : y ≤ d) : Cont (subR a b c d) (subR x x y y) :=
  cont_fit (by omega) (by omega) (by omega) (by omega)
theorem cont_mul {a b c d x y : Int} (h1 : a ≤ x) (h2 : x ≤ b) (h3 : c ≤ y) (h4 : y ≤ d) : Cont (mulR a b c d) (mulR x x y y) := by
  unfold mulR
  refine cont_fit (mul_lo_hi _ _ _ _) (mul_lo_hi _ _ _ _) (fl_mono (by omega) ?_) (ce_mono (by omega) ?_)
  · have := corner_le h1 h2 h3 h4; exact le_min4 this this this this
  · have := le_corner h1 h2 h3 h4; exact max4_le this this this this
theorem cont_div {a b c d x y : Int} (h1 : a ≤ x) (h2 : x ≤ b) (h3 : c ≤ y) (h4 : y ≤ d) : Cont (divR a b c d) (divR x x y y) := by
  unfold divR
  by_cases hz : c ≤ 0 ∧ 0 ≤ d
  · rw [if_pos hz]; intro e; exact absurd e (by decide)
  · rw [if_neg hz, if_neg (show ¬ (y ≤ 0 ∧ 0 ≤ y) by omega)]
    obtain ⟨p1, p2, p3⟩ := turn_pos (a := a) (b := b) (by omega) hz (by omega)
    obtain ⟨t1, t2, t3, t4, t5, t6⟩ := turn_in hz h1 h2 h3 h4
    rw [t5, t6]
    exact cont_fit (loQ_hiQ p1) (loQ_hiQ (by omega)) (by rw [loQ_same]; exact loQ_le p1 t1 t2 t3 t4) (by rw [hiQ_same]; exact le_hiQ p1 t1 t2 t3 t4)
theorem hull_ok {a b c d : Int} (ha : fok a b = true) (hc : fok c d = true) : fok (min a c) (max b d) = true := by
  rw [fok_iff] at *; omega
theorem cont_hull {a b c d x y : Int} (ha : fok a b = true) (hc : fok c d = true) (h1 : a ≤ x) (h2 : x ≤ b) (h3 : c ≤ y) (h4 : y ≤ d) : Cont (hullR a b c d) (hullR x x y y) := by
  intro _
  exact .inl ⟨rfl, inside_mk (hull_ok ha hc) (by show min a c ≤ min x y; omega) (by show max x y ≤ max b d; omega) (by show min x y ≤ max x y; omega)⟩
theorem sq_nonneg' (a : Int) : 0 ≤ a * a := by
  by_cases h : 0 ≤ a
  · exact Int.mul_nonneg h h
  · exact Int.mul_nonneg_of_nonpos_of_nonpos (by omega) (by omega)
/-- the least and the greatest square of an interval -/
def sLo (a b : Int) : Int := if a ≤ 0 ∧ 0 ≤ b then 0 else min (a * a) (b * b)
def sHi (a b : Int) : Int := max (a * a) (b * b)
theorem sLo_nonneg (a b : Int) : 0 ≤ sLo a b := by
  have := sq_nonneg' a; have := sq_nonneg' b
  unfold sLo; split <;> omega
theorem sLo_le {a b x : Int} (h1 : a ≤ x) (h2 : x ≤ b) : sLo a b ≤ x * x := by
  unfold sLo
  have := sq_nonneg' x
  split
  · omega
  · rename_i hz
    by_cases h : 0 < a
    · have := sq_le (a := a) (b := x) (by omega) h1; omega
    · have e1 := Int.neg_mul_neg x x
      have e2 := Int.neg_mul_neg b b
      have := sq_le (a := -b) (b := -x) (by omega) (by omega); omega
theorem le_sHi {a b x : Int} (h1 : a ≤ x) (h2 : x ≤ b) : x * x ≤ sHi a b := by
  unfold sHi
  by_cases h : 0 ≤ x
  · have := sq_le (a := x) (b := b) h h2; omega
  · have e1 := Int.neg_mul_neg x x
    have e2 := Int.neg_mul_neg a a
    have := sq_le (a := -x) (b := -a) (by omega) (by omega); omega
theorem squareR_eq (a b : Int) : squareR a b = fit (sLo a b / 1073741824) (cdiv (sHi a b) 1073741824) := rfl
theorem sLo_sHi {a b : Int} (h : a ≤ b) : sLo a b ≤ sHi a b := Int.le_trans (sLo_le (Int.le_refl a) h) (le_sHi (Int.le_refl a) h)
theorem cont_square {a b x : Int} (h1 : a ≤ x) (h2 : x ≤ b) : Cont (squareR a b) (squareR x x) := by
  rw [squareR_eq, squareR_eq]
  have s1 : sLo x x = x * x := by have := sLo_le (Int.le_refl x) (Int.le_refl x); have := sq_nonneg' x; unfold sLo at *; split <;> rename_i h <;> first | omega | (obtain rfl : x = 0 := by omega); rfl
  have s2 : sHi x x = x * x := by unfold sHi; omega
  refine cont_fit (Int.le_trans (fl_mono (by omega) (sLo_sHi (by omega))) (fl_le_ce (by omega))) (Int.le_trans (fl_mono (by omega) (sLo_sHi (by omega))) (fl_le_ce (by omega))) (fl_mono (by omega) ?_) (ce_mono (by omega) ?_)
  · rw [s1]; exact sLo_le h1 h2
  · rw [s2]; exact le_sHi h1 h2
theorem cont_neg {a b x : Int} (ha : fok a b = true) (h1 : a ≤ x) (h2 : x ≤ b) : Cont (negR a b) (negR x x) := by
  intro _
  have k := (fok_iff _ _).1 ha
  exact .inl ⟨rfl, inside_mk (fok_mk (by show -2147483648 ≤ -b; omega) (by show -a ≤ 2147483648; omega) (by show -b ≤ -a; omega)) (by show -b ≤ -x; omega) (by show -x ≤ -a; omega) (Int.le_refl _)⟩
theorem upR_le {n r : Int} (h : isRt n r) : r ≤ upR n r ∧ n ≤ upR n r * upR n r ∧ (upR n r = 0 ∨ (upR n r - 1) * (upR n r - 1) < n) := by
  obtain ⟨h0, h1, h2⟩ := h
  unfold upR
  split
  · exact ⟨by omega, by omega, .inr (by rw [show r + 1 - 1 = r by omega]; omega)⟩
  · by_cases hz : r = 0
    · exact ⟨by omega, by omega, .inl hz⟩
    · exact ⟨by omega, by omega, .inr (by have := sq_lt (a := r - 1) (b := r) (by omega) (by omega); omega)⟩
theorem upR_mono {n m r s : Int} (h : isRt n r) (k : isRt m s) (hl : n ≤ m) : upR n r ≤ upR m s := by
  obtain ⟨a1, a2, a3⟩ := upR_le h
  obtain ⟨b1, b2, b3⟩ := upR_le k
  obtain ⟨h0, h1, h2⟩ := h
  obtain ⟨k0, k1, k2⟩ := k
  have p : ¬ upR m s < upR n r := fun hh => by
    have := sq_le (a := upR m s) (b := upR n r - 1) (by omega) (by omega)
    obtain z | z := a3
    · omega
    · omega
  omega
theorem upR_bound {b s : Int} (hb : b ≤ 2147483648) (h0 : 0 ≤ b) (h : isRt (b * 1073741824) s) : upR (b * 1073741824) s ≤ 2147483648 := by
  obtain ⟨b1, b2, b3⟩ := upR_le h
  obtain ⟨k0, k1, k2⟩ := h
  have p : ¬ 2147483648 < upR (b * 1073741824) s := fun hh => by
    have := sq_le (a := 2147483648) (b := upR (b * 1073741824) s - 1) (by omega) (by omega)
    obtain z | z := b3 <;> omega
  omega
theorem sqrt_ok {a b : Int} (ha : fok a b = true) (k : (sqrtR a b).e = 0) : fok (sqrtR a b).l (sqrtR a b).h = true ∧ 0 ≤ (sqrtR a b).l := by
  have ka := (fok_iff _ _).1 ha
  obtain ⟨⟨h0, hR⟩ | ⟨h0, r, s, hr, hs, hR⟩⟩ := sqrtR_is a b (by omega)
  · rw [hR] at k; exact absurd k (by decide)
  · rw [hR]
    have h1 := upR_bound ka.2.1 h0 hs
    have h2 := isRt_mono hr hs (by omega)
    have h3 := (upR_le hs).1
    have h4 := hr.1
    exact ⟨fok_mk (by show -2147483648 ≤ r; omega) h1 (by show r ≤ upR (b * 1073741824) s; omega), h4⟩
theorem cont_root {a b x : Int} (ha : fok a b = true) (h1 : a ≤ x) (h2 : x ≤ b) : Cont (sqrtR a b) (sqrtR x x) := by
  intro k
  obtain ⟨ka, kb⟩ := sqrt_ok ha k
  obtain ⟨⟨h0, hR⟩ | ⟨h0, r, s, hr, hs, hR⟩⟩ := sqrtR_is a b (by omega)
  · rw [hR] at k; exact absurd k (by decide)
  obtain ⟨⟨g0, gR⟩ | ⟨g0, r', s', hr', hs', gR⟩⟩ := sqrtR_is x x (by omega)
  · rw [gR]; exact .inr rfl
  · rw [gR]; rw [hR] at ka ⊢
    refine .inl ⟨rfl, inside_mk ka ?_ ?_ ?_⟩
    · exact isRt_mono hr hr' (by omega)
    · exact upR_mono hs' hs (by omega)
    · have q1 := isRt_mono hr' hs' (by omega)
      have q2 := (upR_le hs').1
      show r' ≤ upR (x * 1073741824) s'; omega
/-- the ends of the root are the nearest ones -/
theorem sqrt_near {a b : Int} (ha : fok a b = true) (k : (sqrtR a b).e = 0) :
    (sqrtR a b).l * (sqrtR a b).l ≤ max a 0 * 1073741824 ∧ max a 0 * 1073741824 < ((sqrtR a b).l + 1) * ((sqrtR a b).l + 1) ∧ b * 1073741824 ≤ (sqrtR a b).h * (sqrtR a b).h ∧ ((sqrtR a b).h = 0 ∨ ((sqrtR a b).h - 1) * ((sqrtR a b).h - 1) < b * 1073741824) := by
  have ka := (fok_iff _ _).1 ha
  obtain ⟨⟨h0, hR⟩ | ⟨h0, r, s, hr, hs, hR⟩⟩ := sqrtR_is a b (by omega)
  · rw [hR] at k; exact absurd k (by decide)
  · rw [hR]
    obtain ⟨q1, q2, q3⟩ := upR_le hs
    exact ⟨hr.2.1, hr.2.2, q2, q3⟩
/-- ranges: a number's is within the interval's -/
theorem cont_scale {a b n x : Int} (h1 : a ≤ x) (h2 : x ≤ b) : (scaleR a b n).e = (scaleR x x n).e ∧ ((scaleR a b n).e = 0 → (scaleR a b n).l ≤ (scaleR x x n).l ∧ (scaleR x x n).l ≤ (scaleR x x n).h ∧ (scaleR x x n).h ≤ (scaleR a b n).h) := by
  unfold scaleR
  by_cases h : reach n = true
  · simp only [if_pos h, true_and]
    intro _
    have k1 : min (a * n / 1073741824) (b * n / 1073741824) ≤ x * n / 1073741824 := by
      rw [le_fl (by omega)]
      exact lin_ge h1 h2 ((le_fl (by omega)).1 (by omega)) ((le_fl (by omega)).1 (by omega))
    have k2 : cdiv (x * n) 1073741824 ≤ max (cdiv (a * n) 1073741824) (cdiv (b * n) 1073741824) := by
      rw [ce_le (by omega)]
      exact lin_le h1 h2 ((ce_le (by omega)).1 (by omega)) ((ce_le (by omega)).1 (by omega))
    have k3 := fl_le_ce (x := x * n) (y := 1073741824) (by omega)
    omega
  · simp only [if_neg h]
    exact ⟨trivial, fun e => absurd e (by decide)⟩
theorem cont_quot {a b c d n x y : Int} (h1 : a ≤ x) (h2 : x ≤ b) (h3 : c ≤ y) (h4 : y ≤ d) (k : (quotR a b c d n).e = 0) :
    (quotR x x y y n).e = 0 ∧ (quotR a b c d n).l ≤ (quotR x x y y n).l ∧ (quotR x x y y n).l ≤ (quotR x x y y n).h ∧ (quotR x x y y n).h ≤ (quotR a b c d n).h := by
  unfold quotR at *
  by_cases h : reach n = true
  · simp only [if_pos h] at k ⊢
    by_cases hz : c ≤ 0 ∧ 0 ≤ d
    · rw [if_pos hz] at k; exact absurd k (by decide)
    · rw [if_neg hz] at k ⊢
      rw [if_neg (show ¬ (y ≤ 0 ∧ 0 ≤ y) by omega)]
      obtain ⟨p1, p2, p3⟩ := turn_pos (a := a) (b := b) (by omega) hz (by omega)
      obtain ⟨t1, t2, t3, t4, t5, t6⟩ := turn_in hz h1 h2 h3 h4
      rw [t5, t6, loQ_same, hiQ_same]
      have q1 := loQ_le (n := n) p1 t1 t2 t3 t4
      have q2 := le_hiQ (n := n) p1 t1 t2 t3 t4
      have q3 := fl_le_ce (x := tA x x y * n) (y := tC y y) (by omega)
      split at k
      · rename_i hr
        have r1 := (reach_iff _).1 hr.1
        have r2 := (reach_iff _).1 hr.2
        rw [if_pos hr, if_pos ⟨(reach_iff _).2 (by omega), (reach_iff _).2 (by omega)⟩]
        exact ⟨rfl, q1, q3, q2⟩
      · exact absurd k (by decide)
  · rw [if_neg h] at k; exact absurd k (by decide)

/- Undone -/
theorem addR_comm (a b c d : Int) : addR a b c d = addR c d a b := by unfold addR; rw [Int.add_comm a c, Int.add_comm b d]
theorem mulR_comm (a b c d : Int) : mulR a b c d = mulR c d a b := by
  unfold mulR
  rw [Int.mul_comm a c, Int.mul_comm a d, Int.mul_comm b c, Int.mul_comm b d, min4_swap, max4_swap]
/-- what is undone is inside, or too big -/
def Back (a b : Int) (S : Fx) : Prop := (S.e = 0 ∧ insideR a b S.l S.h = true) ∨ S.e = 5
theorem back_fit {a b l h : Int} (k : a ≤ b) (h1 : l ≤ a) (h2 : b ≤ h) : Back a b (fit l h) := by
  obtain ⟨q, q1, q2⟩ | ⟨q, q1⟩ := fit_or l h
  · rw [q]; exact .inl ⟨rfl, inside_mk (fok_mk q1 q2 (show l ≤ h by omega)) h1 h2 k⟩
  · rw [q]; exact .inr rfl
theorem add_back {a b c d : Int} (h : a ≤ b) (k : c ≤ d) (e : (addR a b c d).e = 0) : Back a b (subR (addR a b c d).l (addR a b c d).h c d) ∧ fok (addR a b c d).l (addR a b c d).h = true := by
  obtain ⟨q, q1, q2⟩ := fit_zero e
  rw [show addR a b c d = _ from q]
  exact ⟨back_fit h (by show a + c - d ≤ a; omega) (by show b ≤ b + d - c; omega), fok_mk q1 q2 (by show a + c ≤ b + d; omega)⟩
theorem mul_back {a b c d : Int} (h : a ≤ b) (k : c ≤ d) (e : (mulR a b c d).e = 0) :
    (Back a b (divR (mulR a b c d).l (mulR a b c d).h c d) ∨ (divR (mulR a b c d).l (mulR a b c d).h c d).e = 16) ∧ fok (mulR a b c d).l (mulR a b c d).h = true := by
  obtain ⟨q, q1, q2⟩ := fit_zero e
  rw [show mulR a b c d = _ from q]
  have P1 := (le_fl (L := min4 (a * c) (a * d) (b * c) (b * d) / 1073741824) (x := min4 (a * c) (a * d) (b * c) (b * d)) (y := 1073741824) (by omega)).1 (Int.le_refl _)
  have P2 := (ce_le (H := cdiv (max4 (a * c) (a * d) (b * c) (b * d)) 1073741824) (x := max4 (a * c) (a * d) (b * c) (b * d)) (y := 1073741824) (by omega)).1 (Int.le_refl _)
  have P3 := mul_lo_hi a b c d
  obtain ⟨m1, m2, m3, m4⟩ := min4_le (a * c) (a * d) (b * c) (b * d)
  obtain ⟨n1, n2, n3, n4⟩ := le_max4 (a * c) (a * d) (b * c) (b * d)
  generalize min4 (a * c) (a * d) (b * c) (b * d) / 1073741824 = l at *
  generalize cdiv (max4 (a * c) (a * d) (b * c) (b * d)) 1073741824 = u at *
  refine ⟨?_, fok_mk q1 q2 P3⟩
  show Back a b (divR l u c d) ∨ (divR l u c d).e = 16
  unfold divR
  by_cases hz : c ≤ 0 ∧ 0 ≤ d
  · rw [if_pos hz]; exact .inr rfl
  · rw [if_neg hz]
    refine .inl (back_fit h ?_ ?_)
    · unfold tA tB tC tD
      by_cases hc : c < 0
      · simp only [if_pos hc]
        refine Int.le_trans (min4_le _ _ _ _).1 ?_
        have : -u * 1073741824 / -d < a + 1 := by
          rw [fl_lt (by omega)]
          have := Int.mul_neg (a + 1) d
          rw [this, Int.add_mul]; omega
        omega
      · simp only [if_neg hc]
        refine Int.le_trans (min4_le _ _ _ _).1 ?_
        have : l * 1073741824 / c < a + 1 := by
          rw [fl_lt (by omega), Int.add_mul]; omega
        omega
    · unfold tA tB tC tD
      by_cases hc : c < 0
      · simp only [if_pos hc]
        refine Int.le_trans ?_ (le_max4 _ _ _ _).2.2.1
        have : b - 1 < cdiv (-l * 1073741824) (-d) := by
          rw [lt_ce (by omega)]
          have := Int.mul_neg (b - 1) d
          rw [this, Int.sub_mul]; omega
        omega
      · simp only [if_neg hc]
        refine Int.le_trans ?_ (le_max4 _ _ _ _).2.2.1
        have : b - 1 < cdiv (u * 1073741824) c := by
          rw [lt_ce (by omega), Int.sub_mul]; omega
        omega
/-- squares and products -/
theorem square_facts {a b : Int} (h : a ≤ b) : ((squareR a b).e = 0 ∧ 0 ≤ (squareR a b).l ∧ fok (squareR a b).l (squareR a b).h = true ∧ ((mulR a b a b).e = 0 → insideR (squareR a b).l (squareR a b).h (mulR a b a b).l (mulR a b a b).h = true)) ∨ ((squareR a b).e = 5 ∧ (mulR a b a b).e = 5) := by
  rw [squareR_eq]
  have s0 := sLo_nonneg a b
  have s1 : 0 ≤ sLo a b / 1073741824 := (le_fl (by omega)).2 (by omega)
  have s2 : min4 (a * a) (a * b) (b * a) (b * b) ≤ sLo a b := by
    obtain ⟨m1, m2, m3, m4⟩ := min4_le (a * a) (a * b) (b * a) (b * b)
    unfold sLo
    split
    · have := Int.mul_nonpos_of_nonpos_of_nonneg (a := a) (b := b) (by omega) (by omega); omega
    · omega
  have s3 : sHi a b ≤ max4 (a * a) (a * b) (b * a) (b * b) := by
    obtain ⟨m1, m2, m3, m4⟩ := le_max4 (a * a) (a * b) (b * a) (b * b)
    unfold sHi; omega
  have s4 := fl_mono (y := 1073741824) (by omega) s2
  have s5 := ce_mono (y := 1073741824) (by omega) s3
  have s6 := Int.le_trans (fl_mono (y := 1073741824) (by omega) (sLo_sHi h)) (fl_le_ce (x := sHi a b) (by omega))
  have s7 := mul_lo_hi a b a b
  obtain ⟨q, q1, q2⟩ | ⟨q, q1⟩ := fit_or (sLo a b / 1073741824) (cdiv (sHi a b) 1073741824)
  · rw [q]
    refine .inl ⟨rfl, s1, fok_mk q1 q2 s6, fun e => ?_⟩
    obtain ⟨r, r1, r2⟩ := fit_zero e
    rw [show mulR a b a b = _ from r]
    exact inside_mk (fok_mk r1 r2 s7) s4 s5 s6
  · rw [q]
    refine .inr ⟨rfl, ?_⟩
    unfold mulR
    rw [fit_no (by omega)]
/- Meets -/
theorem hullR_comm (a b c d : Int) : hullR a b c d = hullR c d a b := by unfold hullR; rw [Int.min_comm, Int.max_comm]
theorem meetR_comm (a b c d : Int) : meetR a b c d = meetR c d a b := by unfold meetR; rw [Int.min_comm, Int.max_comm]
theorem hull_in {a b c d : Int} (ha : fok a b = true) (hc : fok c d = true) : insideR a b (min a c) (max b d) = true ∧ insideR c d (min a c) (max b d) = true := by
  have k := (fok_iff _ _).1 ha
  have k' := (fok_iff _ _).1 hc
  exact ⟨inside_mk (hull_ok ha hc) (by omega) (by omega) (by omega), inside_mk (hull_ok ha hc) (by omega) (by omega) (by omega)⟩
theorem meet_facts {a b c d : Int} (ha : fok a b = true) (hc : fok c d = true) :
    ((meetR a b c d).e = 0 ∧ insideR (meetR a b c d).l (meetR a b c d).h a b = true ∧ insideR (meetR a b c d).l (meetR a b c d).h c d = true ∧ (∀ u v, insideR u v a b = true → insideR u v c d = true → insideR u v (meetR a b c d).l (meetR a b c d).h = true)) ∨
    ((meetR a b c d).e = 23 ∧ ∀ u v, insideR u v a b = true → insideR u v c d = false) := by
  have k := (fok_iff _ _).1 ha
  have k' := (fok_iff _ _).1 hc
  unfold meetR
  split
  · rename_i h
    refine .inr ⟨rfl, fun u v hu => ?_⟩
    rw [insideR_not]
    rintro ⟨h1, h2, h3, h4⟩
    obtain ⟨g1, g2, g3, g4⟩ := (insideR_iff _ _ _ _).1 hu
    have := (fok_iff _ _).1 h1
    omega
  · rename_i h
    have hm : fok (max a c) (min b d) = true := fok_mk (by omega) (by omega) (by omega)
    refine .inl ⟨rfl, inside_mk ha (by show a ≤ max a c; omega) (by show min b d ≤ b; omega) (by show max a c ≤ min b d; omega), inside_mk hc (by show c ≤ max a c; omega) (by show min b d ≤ d; omega) (by show max a c ≤ min b d; omega), fun u v hu hv => ?_⟩
    obtain ⟨g1, g2, g3, g4⟩ := (insideR_iff _ _ _ _).1 hu
    obtain ⟨i1, i2, i3, i4⟩ := (insideR_iff _ _ _ _).1 hv
    have := (fok_iff _ _).1 g1
    exact inside_mk hm (by show max a c ≤ u; omega) (by show v ≤ min b d; omega) (by omega)
end Go.Proofs.YtndcjldnnfhedaaDoor

/- Fixed: small tools: results, blocks of structs, worlds. -/
namespace Go.Proofs.YtndcjldnnfhedaaDoor
open Go.RowKit
set_option linter.unusedVariables false

theorem ret_bool {a b : Bool} (h : a = b) : Ending.returned (.bool a) = .returned (.bool b) := by rw [h]
theorem ret_int {k : IntKind} {a b : Int} (h : a = b) : Ending.returned (.int k a) = .returned (.int k b) := by rw [h]
theorem below_drewN (B : Nat) (w : World) (n : Nat) : Below B w (w.drewN n) := ⟨rfl, rfl, rfl, Nat.le_refl _, fun _ _ => rfl⟩
/-- the block of a struct result, behind a call -/
theorem alloc_below {w w1 : World} {o : Obj} (hb : Below (w.alloc o).heap.size (w.alloc o) w1) : Below w.heap.size w w1 :=
  ((Below.refl _ _).alloc (Nat.le_refl _) o).trans (hb.mono (by simp))
theorem new2 {w w1 : World} {x y : Value} {T : Nat} (hb : Below (w.alloc (.cells #[x, y] T)).heap.size (w.alloc (.cells #[x, y] T)) w1) :
    w1.cell? ⟨w.heap.size, 0, none⟩ = some x ∧ w1.cell? ⟨w.heap.size, 1, none⟩ = some y ∧ w1.frozen? ⟨w.heap.size, 0, none⟩ = false ∧ w1.frozen? ⟨w.heap.size, 1, none⟩ = false ∧ w.heap.size < w1.heap.size := by
  have hs := hb.size
  simp at hs
  have c0 := hb.cell (p := ⟨w.heap.size, 0, none⟩) (by show w.heap.size < _; simp)
  have c1 := hb.cell (p := ⟨w.heap.size, 1, none⟩) (by show w.heap.size < _; simp)
  have f0 := hb.frozen (p := ⟨w.heap.size, 0, none⟩) (by show w.heap.size < _; simp)
  have f1 := hb.frozen (p := ⟨w.heap.size, 1, none⟩) (by show w.heap.size < _; simp)
  refine ⟨c0.trans ?_, c1.trans ?_, f0.trans ?_, f1.trans ?_, by omega⟩
  · rw [World.cell?_alloc_new]; rfl
  · rw [World.cell?_alloc_new]; rfl
  · go_simp
  · go_simp

/-- a struct of two fields lies in block b -/
structure At2 (w : World) (b : Nat) (x y : Value) : Prop where
  c0 : w.cell? ⟨b, 0, none⟩ = some x
  c1 : w.cell? ⟨b, 1, none⟩ = some y
  f0 : w.frozen? ⟨b, 0, none⟩ = false
  f1 : w.frozen? ⟨b, 1, none⟩ = false
  lt : b < w.heap.size
theorem At2.of {w w1 : World} {x y : Value} {T : Nat} (hb : Below (w.alloc (.cells #[x, y] T)).heap.size (w.alloc (.cells #[x, y] T)) w1) : At2 w1 w.heap.size x y := by
  obtain ⟨a, b, c, d, e⟩ := new2 hb; exact ⟨a, b, c, d, e⟩
theorem At2.keep {w w1 : World} {b : Nat} {x y : Value} (h : At2 w b x y) (hb : Below w.heap.size w w1) : At2 w1 b x y :=
  ⟨(hb.cell (p := ⟨b, 0, none⟩) h.lt).trans h.c0, (hb.cell (p := ⟨b, 1, none⟩) h.lt).trans h.c1, (hb.frozen (p := ⟨b, 0, none⟩) h.lt).trans h.f0, (hb.frozen (p := ⟨b, 1, none⟩) h.lt).trans h.f1, Nat.lt_of_lt_of_le h.lt hb.size⟩
theorem At2.new (w : World) (x y : Value) (T : Nat) : At2 (w.alloc (.cells #[x, y] T)) w.heap.size x y := At2.of (T := T) (Below.refl _ _)
theorem At2.alloc {w : World} {b : Nat} {x y : Value} (h : At2 w b x y) (o : Obj) : At2 (w.alloc o) b x y := h.keep ((Below.refl _ _).alloc (Nat.le_refl _) o)
theorem At2.three (w : World) (a b c d e f : Value) (T T' T'' : Nat) :
    At2 (((w.alloc (.cells #[a, b] T)).alloc (.cells #[c, d] T')).alloc (.cells #[e, f] T'')) w.heap.size a b ∧
    At2 (((w.alloc (.cells #[a, b] T)).alloc (.cells #[c, d] T')).alloc (.cells #[e, f] T'')) (w.heap.size + 1) c d ∧
    At2 (((w.alloc (.cells #[a, b] T)).alloc (.cells #[c, d] T')).alloc (.cells #[e, f] T'')) (w.heap.size + 1 + 1) e f := by
  have h1 := At2.new (w.alloc (.cells #[a, b] T)) c d T'
  have h2 := At2.new ((w.alloc (.cells #[a, b] T)).alloc (.cells #[c, d] T')) e f T''
  simp at h1 h2
  exact ⟨((At2.new w a b T).alloc _).alloc _, h1.alloc _, h2⟩
theorem At2.two (w : World) (a b c d : Value) (T T' : Nat) :
    At2 ((w.alloc (.cells #[a, b] T)).alloc (.cells #[c, d] T')) w.heap.size a b ∧
    At2 ((w.alloc (.cells #[a, b] T)).alloc (.cells #[c, d] T')) (w.heap.size + 1) c d := by
  have h1 := At2.new (w.alloc (.cells #[a, b] T)) c d T'
  simp at h1
  exact ⟨(At2.new w a b T).alloc _, h1⟩
theorem below1 (w : World) (o : Obj) : Below w.heap.size w (w.alloc o) := (Below.refl _ _).alloc (Nat.le_refl _) o
theorem below2 (w : World) (o o' : Obj) : Below w.heap.size w ((w.alloc o).alloc o') := (below1 w o).alloc (by simp) o'
theorem below3 (w : World) (o o' o'' : Obj) : Below w.heap.size w (((w.alloc o).alloc o').alloc o'') := (below2 w o o').alloc (by simp; omega) o''
theorem bstep {w w1 w2 : World} (h : Below w.heap.size w w1) (h' : Below w1.heap.size w1 w2) : Below w.heap.size w w2 := h.trans (h'.mono h.size)
theorem bdrew {w w2 : World} (h : Below w.drew.heap.size w.drew w2) : Below w.heap.size w w2 := (Below.refl _ _).drew.trans h
theorem below_set2 {w w' : World} {n b : Nat} (h : Below n w w') (hn : n ≤ b) (x y : Value) : Below n w ((w'.setCell ⟨b, 0, none⟩ x).setCell ⟨b, 1, none⟩ y) := (h.setCell hn x).setCell hn y
theorem set2 {w1 : World} {b : Nat} {u v : Value} (c0 : w1.cell? ⟨b, 0, none⟩ = some u) (c1 : w1.cell? ⟨b, 1, none⟩ = some v) (x y : Value) :
    (w1.setCell ⟨b, 0, none⟩ x).cell? ⟨b, 0, none⟩ = some x ∧ ((w1.setCell ⟨b, 0, none⟩ x).setCell ⟨b, 1, none⟩ y).cell? ⟨b, 1, none⟩ = some y := by
  have h1 : (w1.setCell ⟨b, 0, none⟩ x).cell? ⟨b, 1, none⟩ = some v := (World.cell?_setCell_other w1 _ _ x (by simp)).trans c1
  exact ⟨World.cell?_setCell_same w1 _ x c0, World.cell?_setCell_same _ _ y h1⟩
/-- a block of two cells behind two stores, and a new block behind -/
theorem put2 {w1 : World} {b : Nat} {u v : Value} (c0 : w1.cell? ⟨b, 0, none⟩ = some u) (c1 : w1.cell? ⟨b, 1, none⟩ = some v) (x y : Value) (o : Obj) :
    (((w1.setCell ⟨b, 0, none⟩ x).setCell ⟨b, 1, none⟩ y).alloc o).cell? ⟨b, 0, none⟩ = some x ∧ (((w1.setCell ⟨b, 0, none⟩ x).setCell ⟨b, 1, none⟩ y).alloc o).cell? ⟨b, 1, none⟩ = some y := by
  obtain ⟨s0, s1⟩ := set2 c0 c1 x y
  exact ⟨Lib.cell?_alloc_some _ ((World.cell?_setCell_other _ _ _ y (by simp)).trans s0), Lib.cell?_alloc_some _ s1⟩
theorem below_put2 {w w' : World} {n b : Nat} (h : Below n w w') (hn : n ≤ b) (hs : n ≤ w'.heap.size) (x y : Value) (o : Obj) : Below n w (((w'.setCell ⟨b, 0, none⟩ x).setCell ⟨b, 1, none⟩ y).alloc o) :=
  (below_set2 h hn x y).alloc (by simpa [World.setCell] using hs) o
theorem At2.put {w : World} {b : Nat} {x y : Value} (h : At2 w b x y) (u v : Value) : At2 ((w.setCell ⟨b, 0, none⟩ u).setCell ⟨b, 1, none⟩ v) b u v := by
  obtain ⟨s0, s1⟩ := set2 h.c0 h.c1 u v
  exact ⟨(World.cell?_setCell_other _ _ _ v (by simp)).trans s0, s1, (World.frozen?_setCell _ _ _ _).trans ((World.frozen?_setCell _ _ _ _).trans h.f0), (World.frozen?_setCell _ _ _ _).trans ((World.frozen?_setCell _ _ _ _).trans h.f1), by simpa [World.setCell] using h.lt⟩
theorem At2.far {w : World} {b c : Nat} {x y : Value} (h : At2 w b x y) (hne : b ≠ c) (u v : Value) : At2 ((w.setCell ⟨c, 0, none⟩ u).setCell ⟨c, 1, none⟩ v) b x y :=
  ⟨(World.cell?_setCell_other _ _ _ _ (by simp; try omega)).trans ((World.cell?_setCell_other _ _ _ _ (by simp; try omega)).trans h.c0), (World.cell?_setCell_other _ _ _ _ (by simp; try omega)).trans ((World.cell?_setCell_other _ _ _ _ (by simp; try omega)).trans h.c1),
   (World.frozen?_setCell _ _ _ _).trans ((World.frozen?_setCell _ _ _ _).trans h.f0), (World.frozen?_setCell _ _ _ _).trans ((World.frozen?_setCell _ _ _ _).trans h.f1), by simpa [World.setCell] using h.lt⟩
/-- worlds behind one, two, three blocks -/
theorem bel1 {w w1 : World} {o : Obj} (hb : Below (w.alloc o).heap.size (w.alloc o) w1) : Below w.heap.size w w1 := alloc_below hb
theorem bel2 {w w1 : World} {o o' : Obj} (hb : Below ((w.alloc o).alloc o').heap.size ((w.alloc o).alloc o') w1) : Below w.heap.size w w1 := bel1 (alloc_below hb)
theorem bel3 {w w1 : World} {o o' o'' : Obj} (hb : Below (((w.alloc o).alloc o').alloc o'').heap.size (((w.alloc o).alloc o').alloc o'') w1) : Below w.heap.size w w1 := bel2 (alloc_below hb)
end Go.Proofs.YtndcjldnnfhedaaDoor

/- Fixed: a region that draws its order, only reads, and calls functions that lay blocks of their own: one walk, in the class of worlds above a given one. -/
namespace Go.Proofs.YtndcjldnnfhedaaDoor
open Go.RowKit
set_option linter.unusedVariables false

/-- a world above another one -/
structure Bel (W : World) where
  w : World
  h : Below W.heap.size W w
instance (W : World) : Inhabited (Bel W) := ⟨⟨W, Below.refl _ _⟩⟩
theorem wp_region_bel {P : Program} {id : Nat} {Q : Exit → Act → World → Prop} {a : Act} {w : World} {l : List Oper} (hm : P.follows .mixedOrders = true) (hB : Region.lexB .any l.toArray = true)
    (h : wpQuiet P l.toArray (fun w' => ∃ p : Bel w, w' = p.w) (fun a' => ∀ w', (∃ p : Bel w, w' = p.w) → Q .normal a' w') l a) : (Code.region id l.toArray true).wp P Q a w :=
  wp_region_quiet (C := fun w' => ∃ p : Bel w, w' = p.w) hm hB ⟨⟨w.drew, (Below.refl _ _).drew⟩, rfl⟩ (by simpa using h)
theorem bel_of {P : Program} {f : FuncId} {args : Array Value} {W : World} {p : Bel W} {v : Value}
    (h : Calls P f args p.w fun e w' => e = .returned v ∧ Below p.w.heap.size p.w w') : Calls P f args p.w fun e w'' => e = .returned v ∧ ∃ q : Bel W, w'' = q.w :=
  h.mono fun _ w' ⟨he, hb⟩ => ⟨he, ⟨w', p.h.trans (hb.mono p.h.size)⟩, rfl⟩
theorem At2.bel {W : World} {b : Nat} {x y : Value} (q : At2 W b x y) : (∀ p : Bel W, p.w.cell? ⟨b, 0, none⟩ = some x) ∧ (∀ p : Bel W, p.w.cell? ⟨b, 1, none⟩ = some y) :=
  ⟨fun p => (q.keep p.h).c0, fun p => (q.keep p.h).c1⟩
end Go.Proofs.YtndcjldnnfhedaaDoor

/- Angle: arcs as plain functions of integers, and what the laws say of them: no run of the model here. -/
namespace Go.Proofs.YtndcjldnnfhedaaDoor
set_option linter.unusedVariables false

/-- is an arc valid -/
def aok (a b : Int) : Bool := decide (-1099511627776 ≤ a ∧ b ≤ 1099511627776 ∧ a ≤ b)
theorem aok_iff (a b : Int) : aok a b = true ↔ (-1099511627776 ≤ a ∧ b ≤ 1099511627776 ∧ a ≤ b) := by unfold aok; simp
theorem aok_not (a b : Int) : aok a b = false ↔ ¬ (-1099511627776 ≤ a ∧ b ≤ 1099511627776 ∧ a ≤ b) := by unfold aok; rw [decide_eq_false_iff_not]
theorem aok_mk {a b : Int} (h1 : -1099511627776 ≤ a) (h2 : b ≤ 1099511627776) (h3 : a ≤ b) : aok a b = true := (aok_iff _ _).2 ⟨h1, h2, h3⟩
/-- the same direction, from 0 to a turn, and around 0 -/
def wrapN (n : Int) : Int := n % 21600000
def signN (n : Int) : Int := if 10800000 ≤ n % 21600000 then n % 21600000 - 21600000 else n % 21600000
theorem wrapN_in (n : Int) : 0 ≤ wrapN n ∧ wrapN n < 21600000 := by unfold wrapN; omega
theorem signN_in (n : Int) : -10800000 ≤ signN n ∧ signN n < 10800000 := by unfold signN; split <;> omega
theorem signN_wrapN (n : Int) : signN n = wrapN n ∨ signN n = wrapN n - 21600000 := by unfold signN wrapN; split <;> omega
/-- the arc, or ErrBig -/
def afit (l h : Int) : Fx := if aok l h = true then ⟨l, h, 0⟩ else ⟨0, 0, 5⟩
theorem afit_yes {l h : Int} (k : aok l h = true) : afit l h = ⟨l, h, 0⟩ := if_pos k
theorem afit_no {l h : Int} (k : aok l h = false) : afit l h = ⟨0, 0, 5⟩ := if_neg (by rw [k]; simp)
def aaddR (a b c d : Int) : Fx := afit (a + c) (b + d)
def asubR (a b c d : Int) : Fx := afit (a - d) (b - c)
def anegR (a b : Int) : Fx := ⟨-b, -a, 0⟩
def tmL (a b n d : Int) : Int := if n < 0 then -b * -n / d else a * n / d
def tmH (a b n d : Int) : Int := if n < 0 then cdiv (-a * -n) d else cdiv (b * n) d
def tmOk (n d : Int) : Bool := decide (-1048576 ≤ n ∧ n ≤ 1048576 ∧ 1 ≤ d ∧ d ≤ 1048576)
theorem tmOk_iff (n d : Int) : tmOk n d = true ↔ (-1048576 ≤ n ∧ n ≤ 1048576 ∧ 1 ≤ d ∧ d ≤ 1048576) := by unfold tmOk; simp
theorem tmOk_not (n d : Int) : tmOk n d = false ↔ ¬ (-1048576 ≤ n ∧ n ≤ 1048576 ∧ 1 ≤ d ∧ d ≤ 1048576) := by unfold tmOk; rw [decide_eq_false_iff_not]
def atimesR (a b n d : Int) : Fx := if tmOk n d = true then afit (tmL a b n d) (tmH a b n d) else ⟨0, 0, 2⟩
def ahullR (a b c d : Int) : Fx := ⟨min a c, max b d, 0⟩
def ameets (a b c d : Int) : Bool := decide (a ≤ d ∧ c ≤ b)
def ameetR (a b c d : Int) : Fx := if ameets a b c d = true then ⟨max a c, min b d, 0⟩ else ⟨0, 0, 23⟩
def ainR (a b c d : Int) : Bool := aok a b && aok c d && decide (c ≤ a ∧ b ≤ d)
theorem ainR_yes {a b c d : Int} (h : aok a b = true) (k : aok c d = true) (h1 : c ≤ a) (h2 : b ≤ d) : ainR a b c d = true := by unfold ainR; rw [h, k]; simp [h1, h2]
/-- the direction form -/
def trL (a b : Int) : Int := if 21600000 ≤ b - a then 0 else a % 21600000
def trH (a b : Int) : Int := if 21600000 ≤ b - a then 21600000 else a % 21600000 + (b - a)
def aturnR (a b : Int) : Fx := ⟨trL a b, trH a b, 0⟩
theorem tr_in {a b : Int} (h : a ≤ b) : 0 ≤ trL a b ∧ trL a b < 21600000 ∧ trL a b ≤ trH a b ∧ trH a b - trL a b ≤ 21600000 := by
  unfold trL trH; split <;> omega
/-- do two direction forms meet, one of them moved by so many turns -/
def agK (a b c d k : Int) : Bool := ameets (trL a b) (trH a b) (trL c d + k) (trH c d + k)
def agR (a b c d : Int) : Bool := agK a b c d (-21600000) || (agK a b c d 0 || agK a b c d 21600000)
theorem agK_iff (a b c d k : Int) : agK a b c d k = true ↔ (trL a b ≤ trH c d + k ∧ trL c d + k ≤ trH a b) := by unfold agK ameets; simp
theorem agR_iff (a b c d : Int) : agR a b c d = true ↔ (agK a b c d (-21600000) = true ∨ agK a b c d 0 = true ∨ agK a b c d 21600000 = true) := by unfold agR; simp [Bool.or_eq_true]
theorem agR_comm (a b c d : Int) : agR a b c d = agR c d a b := by
  rw [Bool.eq_iff_iff, agR_iff, agR_iff]
  simp only [agK_iff]
  omega
theorem tr_move (a b t : Int) : trL (a + t * 21600000) (b + t * 21600000) = trL a b ∧ trH (a + t * 21600000) (b + t * 21600000) = trH a b := by
  unfold trL trH
  rw [show b + t * 21600000 - (a + t * 21600000) = b - a by omega, show (a + t * 21600000) % 21600000 = a % 21600000 by omega]
  exact ⟨rfl, rfl⟩
theorem agR_move (a b c d t : Int) : agR (a + t * 21600000) (b + t * 21600000) c d = agR a b c d := by
  unfold agR agK
  rw [(tr_move a b t).1, (tr_move a b t).2]
theorem tr_form {a b : Int} (h : a ≤ b) : trL (trL a b) (trH a b) = trL a b ∧ trH (trL a b) (trH a b) = trH a b := by
  unfold trL trH
  by_cases k : 21600000 ≤ b - a
  · simp only [if_pos k]; decide
  · simp only [if_neg k]
    rw [if_neg (by omega), if_neg (by omega)]
    omega
theorem agR_self {a b : Int} (h : a ≤ b) : agR a b a b = true := by
  rw [agR_iff]; refine .inr (.inl ?_)
  rw [agK_iff]
  have := tr_in h
  omega
theorem agR_form {a b : Int} (h : a ≤ b) : agR a b (trL a b) (trH a b) = true := by
  have k := agR_self h
  rw [agR_iff] at *
  simp only [agK_iff] at *
  rw [(tr_form h).1, (tr_form h).2]
  exact k
theorem agR_part {a b z : Int} (h1 : a ≤ z) (h2 : z ≤ b) : agR a b z z = true := by
  rw [agR_iff]
  simp only [agK_iff]
  unfold trL trH
  rw [if_neg (show ¬ 21600000 ≤ z - z by omega), if_neg (show ¬ 21600000 ≤ z - z by omega)]
  by_cases k : 21600000 ≤ b - a
  · simp only [if_pos k]; omega
  · simp only [if_neg k]; omega
/-- divided, and multiplied again -/
theorem tm_one {a b d : Int} (hd : 0 < d) : tmL a b 1 d = a / d ∧ tmH a b 1 d = cdiv b d := by
  unfold tmL tmH
  rw [if_neg (by omega), if_neg (by omega), Int.mul_one, Int.mul_one]
  exact ⟨rfl, rfl⟩
theorem tm_back {a b d : Int} (hd : 0 ≤ d) : tmL a b d 1 = a * d ∧ tmH a b d 1 = b * d := by
  unfold tmL tmH
  rw [if_neg (by omega), if_neg (by omega), Int.ediv_one]
  exact ⟨rfl, by unfold cdiv; rw [Int.ediv_one]; omega⟩
theorem tm_bounds {a b d : Int} (hd : 0 < d) : a / d * d ≤ a ∧ a < a / d * d + d ∧ b ≤ cdiv b d * d ∧ cdiv b d * d < b + d := by
  have h1 := (le_fl (L := a / d) (x := a) hd).1 (Int.le_refl _)
  have h2 := (fl_lt (L := a / d + 1) (x := a) hd).1 (by omega)
  have h3 := (ce_le (H := cdiv b d) (x := b) hd).1 (Int.le_refl _)
  have h4 := (lt_ce (H := cdiv b d - 1) (x := b) hd).1 (by omega)
  rw [Int.add_mul, Int.one_mul] at h2
  rw [Int.sub_mul, Int.one_mul] at h4
  exact ⟨h1, h2, h3, by omega⟩
end Go.Proofs.YtndcjldnnfhedaaDoor

/- Angle: results as values, contracts told by their numbers. -/
namespace Go.Proofs.YtndcjldnnfhedaaDoor
open Go.RowKit
set_option linter.unusedVariables false

def vI (l h : Int) : Value := .agg #[.int .i64 l, .int .i64 h]
def vR (R : Fx) : Value := .tuple #[.agg #[.int .i64 R.l, .int .i64 R.h], .int .i64 R.e]
theorem w64_is {x y : Int} (h : x = y) (h1 : -9223372036854775808 ≤ y) (h2 : y ≤ 9223372036854775807) : wrap64 x = y := by rw [h, IntWalk.wrap64_in _ ⟨h1, h2⟩]
theorem i64_is {x : Int} (h1 : -9223372036854775808 ≤ x) (h2 : x ≤ 9223372036854775807) : IntKind.i64.wrap x = x := by rw [IntKind.wrap_i64]; omega
theorem told {f : Nat} {args : Array Value} {w : World} {R : Fx} (l h k : Int) (e : R = ⟨l, h, k⟩) (C : Calls Tryd.prog f args w fun e w' => e = .returned (vR R) ∧ Below w.heap.size w w') :
    Calls Tryd.prog f args w fun e w' => e = .returned (.tuple #[.agg #[.int .i64 l, .int .i64 h], .int .i64 k]) ∧ Below w.heap.size w w' := by
  rw [e] at C; exact C
theorem told1 {f : Nat} {args : Array Value} {w : World} {r : Bool} (s : Bool) (e : r = s) (C : Calls Tryd.prog f args w fun e w' => e = .returned (.bool r) ∧ Below w.heap.size w w') :
    Calls Tryd.prog f args w fun e w' => e = .returned (.bool s) ∧ Below w.heap.size w w' := by
  rw [e] at C; exact C
theorem toldI {f : Nat} {args : Array Value} {w : World} {r : Int} (s : Int) (e : r = s) (C : Calls Tryd.prog f args w fun e w' => e = .returned (.int .i64 r) ∧ Below w.heap.size w w') :
    Calls Tryd.prog f args w fun e w' => e = .returned (.int .i64 s) ∧ Below w.heap.size w w' := by
  rw [e] at C; exact C
theorem tceil (a b : Int) (hb : 0 < b) : (0 < a.tmod b → a.tdiv b + 1 = cdiv a b) ∧ (¬ 0 < a.tmod b → a.tdiv b = cdiv a b) := by
  obtain ⟨f1, f2⟩ := tfloor (-a) b hb
  rw [Int.neg_tmod, Int.neg_tdiv] at f1 f2
  unfold cdiv
  exact ⟨fun h => by have := f1 (by omega); omega, fun h => by have := f2 (by omega); omega⟩
theorem fl_abs {a b : Int} (hb : 0 < b) (h1 : -9223372036854775807 ≤ a) (h2 : a ≤ 9223372036854775807) : -9223372036854775807 ≤ a / b ∧ a / b ≤ 9223372036854775807 := by
  constructor
  · rw [le_fl hb]
    have := mul_ge_l (a := 1) (b := b) (c := -9223372036854775807) (by omega) (by omega); omega
  · have : a / b < 9223372036854775807 + 1 := by
      rw [fl_lt hb]
      have := mul_le_l (a := 1) (b := b) (c := 9223372036854775807 + 1) (by omega) (by omega); omega
    omega
/-- quotients are not greater than the number -/
theorem fl_bd {N y B : Int} (hy : 0 < y) (h1 : -B ≤ N) (h2 : N ≤ B) : (-B ≤ N / y ∧ N / y ≤ B) ∧ -B ≤ cdiv N y ∧ cdiv N y ≤ B := by
  have hB : 0 ≤ B := by omega
  have k1 : -B ≤ N / y := by
    rw [le_fl hy]
    have := mul_ge_l (a := 1) (b := y) (c := -B) (by omega) (by omega); omega
  have k2 : cdiv N y ≤ B := by
    rw [ce_le hy]
    have := mul_le_l (a := 1) (b := y) (c := B) (by omega) (by omega); omega
  have := fl_le_ce (x := N) hy
  omega
end Go.Proofs.YtndcjldnnfhedaaDoor
