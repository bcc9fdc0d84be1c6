/- Plain numbers under math/bits.Div64 (the schoolbook division by digits of 32 bits): no run of the model here. -/
import Derived.Test.YtdkigfcglfgpoaaRows
namespace Go.Proofs.Ytdkigfcglfgpoaa.wd
set_option linter.unusedVariables false

/-- the state of the search for a digit of the quotient: q is at least the digit Q, and q a + r = u -/
structure Dg (u a b d q r : Nat) : Prop where
  e : q * a + r = u
  ge : (u * 4294967296 + d) / (a * 4294967296 + b) ≤ q
  le : q ≤ 4294967297

theorem dg_start (u a b d : Nat) (ha : 2147483648 ≤ a) (hb : b < 4294967296) (hd : d < 4294967296) (hu : u < a * 4294967296 + b) : Dg u a b d (u / a) (u - u / a * a) := by
  have h1 : u / a * a ≤ u := Nat.div_mul_le_self u a
  refine ⟨by omega, ?_, ?_⟩
  · rw [Nat.le_div_iff_mul_le (by omega)]
    have h2 := Nat.div_mul_le_self (u * 4294967296 + d) (a * 4294967296 + b)
    generalize (u * 4294967296 + d) / (a * 4294967296 + b) = Q at *
    have e : Q * (a * 4294967296 + b) = Q * a * 4294967296 + Q * b := by rw [Nat.mul_add, Nat.mul_assoc]
    rw [e] at h2
    generalize Q * a = x at *
    generalize Q * b = y at *
    omega
  · have : u / a < 4294967298 := by
      rw [Nat.div_lt_iff_lt_mul (by omega)]
      omega
    omega

theorem dg_lt (u a b d : Nat) (hd : d < 4294967296) (hu : u < a * 4294967296 + b) : (u * 4294967296 + d) / (a * 4294967296 + b) < 4294967296 := by
  rw [Nat.div_lt_iff_lt_mul (by omega)]
  omega

theorem dg_stop {u a b d q r : Nat} (h : Dg u a b d q r) (ha : 0 < a) (h2 : q * b ≤ 4294967296 * r + d) : q = (u * 4294967296 + d) / (a * 4294967296 + b) := by
  refine Nat.le_antisymm ?_ h.ge
  rw [Nat.le_div_iff_mul_le (by omega)]
  have e : q * (a * 4294967296 + b) = q * a * 4294967296 + q * b := by rw [Nat.mul_add, Nat.mul_assoc]
  have he := h.e
  rw [e]
  generalize q * a = x at *
  generalize q * b = y at *
  omega

theorem dg_gt {u a b d q r : Nat} (h : Dg u a b d q r) (ha : 0 < a) (hd : d < 4294967296) (hu : u < a * 4294967296 + b) (h2 : 4294967296 ≤ q ∨ 4294967296 * r + d < q * b) : (u * 4294967296 + d) / (a * 4294967296 + b) < q := by
  rcases h2 with h2 | h2
  · have := dg_lt u a b d hd hu; omega
  · rw [Nat.div_lt_iff_lt_mul (by omega)]
    have e : q * (a * 4294967296 + b) = q * a * 4294967296 + q * b := by rw [Nat.mul_add, Nat.mul_assoc]
    have he := h.e
    rw [e]
    generalize q * a = x at *
    generalize q * b = y at *
    omega

theorem dg_more {u a b d q r : Nat} (h : Dg u a b d q r) (ha : 0 < a) (hd : d < 4294967296) (hu : u < a * 4294967296 + b) (h2 : 4294967296 ≤ q ∨ 4294967296 * r + d < q * b) : 1 ≤ q ∧ Dg u a b d (q - 1) (r + a) := by
  have hg := dg_gt h ha hd hu h2
  have h1 : 1 ≤ q := Nat.lt_of_le_of_lt (Nat.zero_le _) hg
  refine ⟨h1, ?_, Nat.le_sub_one_of_lt hg, by have := h.le; omega⟩
  obtain ⟨p, rfl⟩ : ∃ p, q = p + 1 := ⟨q - 1, by omega⟩
  have he := h.e
  rw [Nat.add_mul] at he
  show p * a + (r + a) = u
  omega

theorem dg_break {u a b d q r : Nat} (h : Dg u a b d q r) (ha : 0 < a) (hb : b < 4294967296) (hq : q ≤ 4294967296) (hr : 4294967296 ≤ r) : q = (u * 4294967296 + d) / (a * 4294967296 + b) := by
  refine dg_stop h ha ?_
  have h1 : q * b ≤ 4294967296 * b := Nat.mul_le_mul_right b hq
  omega

/-- the remainder behind a digit -/
theorem dg_rest (u y d : Nat) (hy : 0 < y) (B : Nat) : u * B + d - (u * B + d) / y * y = (u * B + d) % y := by
  have h := Nat.div_add_mod (u * B + d) y
  rw [Nat.mul_comm] at h
  omega

theorem two_digits_aux (m d0 y B : Nat) (hy : 0 < y) :
    m / y * B + (m % y * B + d0) / y = (m * B + d0) / y ∧ (m % y * B + d0) % y = (m * B + d0) % y := by
  have h := Nat.div_add_mod m y
  have e : m * B + d0 = y * (m / y * B) + (m % y * B + d0) := by
    conv => lhs; rw [← h]
    rw [Nat.add_mul, Nat.mul_assoc]; omega
  constructor
  · rw [e, Nat.mul_add_div hy]
  · rw [e, Nat.mul_add_mod]
/-- both digits together -/
theorem two_digits (u d1 d0 y : Nat) (hy : 0 < y) :
    (u * 4294967296 + d1) / y * 4294967296 + ((u * 4294967296 + d1) % y * 4294967296 + d0) / y = ((u * 4294967296 + d1) * 4294967296 + d0) / y ∧
    ((u * 4294967296 + d1) % y * 4294967296 + d0) % y = ((u * 4294967296 + d1) * 4294967296 + d0) % y :=
  two_digits_aux _ d0 y _ hy

/-- the shift of dividend and divisor by k = 2^s -/
theorem shifted (N y k : Nat) (hk : 0 < k) : N * k / (y * k) = N / y ∧ (N * k) % (y * k) / k = N % y := by
  constructor
  · exact Nat.mul_div_mul_right N y hk
  · rw [Nat.mul_mod_mul_right, Nat.mul_div_cancel _ hk]

/-- the upper word of the shifted dividend -/
theorem shift_high (hi lo s : Nat) (hs : s ≤ 63) (hlo : lo < 18446744073709551616) :
    (hi * 18446744073709551616 + lo) * 2 ^ s = (hi * 2 ^ s + lo / 2 ^ (64 - s)) * 18446744073709551616 + lo * 2 ^ s % 18446744073709551616 ∧ lo / 2 ^ (64 - s) < 2 ^ s := by
  have e : (18446744073709551616 : Nat) = 2 ^ (64 - s) * 2 ^ s := by rw [← Nat.pow_add]; rw [show 64 - s + s = 64 by omega]
  have hp : 0 < 2 ^ s := Nat.pow_pos (by omega)
  have hp2 : 0 < 2 ^ (64 - s) := Nat.pow_pos (by omega)
  constructor
  · have h := Nat.div_add_mod lo (2 ^ (64 - s))
    have e2 : lo * 2 ^ s % 18446744073709551616 = lo % 2 ^ (64 - s) * 2 ^ s := by
      rw [e, Nat.mul_mod_mul_right]
    have e3 : lo * 2 ^ s = lo / 2 ^ (64 - s) * 18446744073709551616 + lo % 2 ^ (64 - s) * 2 ^ s := by
      conv => lhs; rw [← h]
      rw [Nat.add_mul, e]
      rw [Nat.mul_comm (2 ^ (64 - s)) (lo / 2 ^ (64 - s)), Nat.mul_assoc]
    rw [Nat.add_mul, e2, Nat.add_mul, e3]
    have : hi * 18446744073709551616 * 2 ^ s = hi * 2 ^ s * 18446744073709551616 := by rw [Nat.mul_right_comm]
    omega
  · rw [Nat.div_lt_iff_lt_mul hp2, Nat.mul_comm, ← e]; exact hlo
end Go.Proofs.Ytdkigfcglfgpoaa.wd
