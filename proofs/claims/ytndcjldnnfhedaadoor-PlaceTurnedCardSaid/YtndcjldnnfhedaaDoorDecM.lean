/- Plain facts on decimal digits: the digits of a number, the decimal text, and its parts. No program in sight. -/
import Derived.WalkKit
namespace Go.Proofs.YtndcjldnnfhedaaDoor

/-- the last digit of a number, as a byte -/
def dch (n : Nat) : UInt8 := UInt8.ofNat (48 + n % 10)
theorem dch_toNat (n : Nat) : (dch n).toNat = 48 + n % 10 := by
  unfold dch; rw [UInt8.toNat_ofNat']; omega

/-- the k last digits of a number -/
def digs : Nat → Nat → List UInt8
  | 0, _ => []
  | k + 1, n => digs k (n / 10) ++ [dch n]
theorem digs_length (k n : Nat) : (digs k n).length = k := by
  induction k generalizing n with
  | zero => rfl
  | succ k ih => simp [digs, ih]
theorem digs_cons (k n : Nat) : digs (k + 1) n = dch (n / 10 ^ k) :: digs k n := by
  induction k generalizing n with
  | zero => simp [digs]
  | succ k ih =>
    rw [digs, ih (n / 10), digs]
    rw [Nat.div_div_eq_div_mul, show 10 * 10 ^ k = 10 ^ (k + 1) by rw [Nat.pow_succ, Nat.mul_comm]]
    rfl
theorem digs_add (a b n : Nat) : digs (a + b) n = digs a (n / 10 ^ b) ++ digs b n := by
  induction a with
  | zero => simp [digs]
  | succ a ih =>
    rw [show a + 1 + b = (a + b) + 1 by omega, digs_cons, ih, digs_cons, Nat.div_div_eq_div_mul, ← Nat.pow_add, Nat.add_comm b a]
    rfl
theorem digs_mod (k n : Nat) : digs k (n % 10 ^ k) = digs k n := by
  induction k generalizing n with
  | zero => rfl
  | succ k ih =>
    rw [digs, digs]
    congr 1
    · rw [← ih (n / 10)]
      congr 1
      rw [show (10 : Nat) ^ (k + 1) = 10 * 10 ^ k by rw [Nat.pow_succ, Nat.mul_comm]]
      rw [Nat.mod_mul_right_div_self]
    · unfold dch
      congr 2
      rw [show (10 : Nat) ^ (k + 1) = 10 * 10 ^ k by rw [Nat.pow_succ, Nat.mul_comm]]
      rw [Nat.mod_mul_right_mod]

/-- how many digits a number below 10^20 has (0 has none) -/
def ndF : Nat → Nat → Nat
  | 0, _ => 0
  | f + 1, n => if n = 0 then 0 else ndF f (n / 10) + 1
def ndig (n : Nat) : Nat := ndF 20 n
theorem ndF_le (f n : Nat) : ndF f n ≤ f := by
  induction f generalizing n with
  | zero => simp [ndF]
  | succ f ih => unfold ndF; split <;> simp [ih]
theorem ndF_zero (f n : Nat) (h : n < 10 ^ f) : n / 10 ^ ndF f n = 0 := by
  induction f generalizing n with
  | zero => simp at h; subst h; simp
  | succ f ih =>
    unfold ndF
    split
    · rename_i h0; subst h0; simp
    · rw [Nat.pow_succ, Nat.mul_comm, ← Nat.div_div_eq_div_mul]
      apply ih
      rw [Nat.div_lt_iff_lt_mul (by omega)]
      rw [Nat.pow_succ] at h
      exact h
theorem ndF_pos (f n k : Nat) (h : k < ndF f n) : 0 < n / 10 ^ k := by
  induction f generalizing n k with
  | zero => simp [ndF] at h
  | succ f ih =>
    unfold ndF at h
    split at h
    · simp at h
    · cases k with
      | zero => simp; omega
      | succ k =>
        rw [Nat.pow_succ, Nat.mul_comm, ← Nat.div_div_eq_div_mul]
        exact ih _ _ (by omega)
theorem ndF_le_of (f n k : Nat) (h : n / 10 ^ k = 0) : ndF f n ≤ k := by
  rcases Nat.lt_or_ge k (ndF f n) with h1 | h1
  · have := ndF_pos f n k h1; omega
  · exact h1

/-- what decimalText has written after k rounds -/
def outD (d n : Nat) : Nat → List UInt8
  | 0 => []
  | k + 1 => dch (n / 10 ^ k) :: if k = d ∧ 0 < d then 46 :: outD d n k else outD d n k
theorem outD_low (d n k : Nat) (h : k ≤ d) : outD d n k = digs k n := by
  induction k with
  | zero => rfl
  | succ k ih => rw [digs_cons, outD, if_neg (by omega), ih (by omega)]
theorem outD_high (d n j : Nat) : outD d n (d + 1 + j) = digs (j + 1) (n / 10 ^ d) ++ (if 0 < d then 46 :: digs d n else []) := by
  induction j with
  | zero =>
    rw [Nat.add_zero, outD, outD_low d n d (Nat.le_refl _)]
    by_cases h : 0 < d
    · simp [h, digs]
    · obtain rfl : d = 0 := by omega
      simp [digs]
  | succ j ih =>
    rw [show d + 1 + (j + 1) = (d + 1 + j) + 1 by omega, outD, if_neg (by omega), ih, digs_cons (j + 1), Nat.div_div_eq_div_mul, ← Nat.pow_add]
    rw [show d + 1 + j = d + (j + 1) by omega]; first | done | rfl
theorem outD_length (d n k : Nat) : (outD d n k).length = k + if d < k ∧ 0 < d then 1 else 0 := by
  induction k with
  | zero => simp [outD]
  | succ k ih =>
    rw [outD]
    by_cases h : k = d ∧ 0 < d
    · rw [if_pos h]; simp only [List.length_cons, ih]; rw [if_neg (by omega), if_pos (by omega)]
    · rw [if_neg h]; simp only [List.length_cons, ih]
      by_cases h2 : d < k ∧ 0 < d
      · rw [if_pos h2, if_pos (by omega)]
      · rw [if_neg h2, if_neg (by omega)]

/-- how many digits decimalText writes -/
def rnds (d n : Nat) : Nat := max (d + 1) (ndig n)
theorem rnds_gt (d n : Nat) : d < rnds d n := by unfold rnds; omega
theorem rnds_le (d n : Nat) (h : d ≤ 9) : rnds d n ≤ 20 := by have := ndF_le 20 n; unfold rnds ndig; omega
theorem rnds_le19 (d n : Nat) (h : d ≤ 9) (hn : n ≤ 1152921504606846976) : rnds d n ≤ 19 := by
  have := ndF_le_of 20 n 19 (Nat.div_eq_of_lt (by omega)); unfold rnds ndig; omega
theorem rnds_zero (d n : Nat) (hn : n ≤ 1152921504606846976) : n / 10 ^ rnds d n = 0 := by
  have h := ndF_zero 20 n (by omega)
  unfold rnds ndig
  rw [Nat.div_eq_zero_iff] at h ⊢
  right
  rcases h with h | h
  · exact absurd h (by have := Nat.pow_pos (a := 10) (n := ndF 20 n) (by omega); omega)
  · exact Nat.lt_of_lt_of_le h (Nat.pow_le_pow_right (by omega) (by omega))
theorem rnds_go (d n k : Nat) (h : k < rnds d n) (h2 : d < k) : 0 < n / 10 ^ k := by
  unfold rnds ndig at h
  exact ndF_pos 20 n k (by omega)

/-- the decimal text -/
def decT (n : Int) (d : Nat) : List UInt8 := (if n < 0 then [45] else []) ++ outD d n.natAbs (rnds d n.natAbs)
end Go.Proofs.YtndcjldnnfhedaaDoor
