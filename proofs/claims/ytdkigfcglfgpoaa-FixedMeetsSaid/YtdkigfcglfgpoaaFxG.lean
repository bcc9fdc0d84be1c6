/- Fixed: contracts of the reference's times, big, corners, Scale. -/
import Derived.Test.YtdkigfcglfgpoaaFxE
namespace Go.Proofs.Ytdkigfcglfgpoaa
open Go.RowKit
set_option linter.unusedVariables false

/-- a quotient of a product, by two steps -/
theorem times_eq (x n y hi lo p q r : Int) (hy : 0 < y) (hn : n = hi * 1048576 + lo) (hp : p = x * hi) (hq : q = p / y) (hr : r = p - q * y) :
    x * n / y = q * 1048576 + (r * 1048576 + x * lo) / y ∧ 0 ≤ r ∧ r < y := by
  have m1 := Int.emod_nonneg p (show y ≠ 0 by omega)
  have m2 := Int.emod_lt_of_pos p hy
  have m3 := Int.mul_ediv_add_emod p y
  have e : r = p % y := by rw [hr, hq, Int.mul_comm]; omega
  refine ⟨?_, by omega, by omega⟩
  have e2 : x * n = (r * 1048576 + x * lo) + (q * 1048576) * y := by
    rw [hn, Int.mul_add, ← Int.mul_assoc, ← hp]
    have : p = q * y + r := by omega
    rw [show p * 1048576 = (q * y + r) * 1048576 by rw [← this], Int.add_mul, Int.mul_right_comm]
    omega
  rw [e2, Int.add_mul_ediv_right _ _ (by omega)]
  omega
theorem fl_bound {a b B : Int} (hb : 0 < b) (h1 : -B ≤ a) (h2 : a ≤ B) (hB : 0 ≤ B) : -B ≤ a / b ∧ a / b ≤ B := by
  constructor
  · rw [le_fl hb]
    have := mul_ge_l (a := 1) (b := b) (c := -B) (by omega) (by omega); omega
  · have : a / b < B + 1 := by
      rw [fl_lt hb]
      have := mul_le_l (a := 1) (b := b) (c := B + 1) (by omega) (by omega); omega
    omega
theorem split20 (n : Int) (h : reach n = true) : n = n.tdiv 1048576 * 1048576 + n.tmod 1048576 ∧ -1048576 < n.tmod 1048576 ∧ n.tmod 1048576 < 1048576 ∧ -1048576 ≤ n.tdiv 1048576 ∧ n.tdiv 1048576 ≤ 1048576 ∧ (n - n.tmod 1048576).tdiv 1048576 = n.tdiv 1048576 := by
  have hr := (reach_iff _).1 h
  have e := Int.tmod_add_mul_tdiv n 1048576
  have b1 := Int.tmod_lt_of_pos n (show (0 : Int) < 1048576 by omega)
  have b2 := Int.lt_tmod_of_pos n (show (0 : Int) < 1048576 by omega)
  generalize n.tmod 1048576 = lo at *
  generalize n.tdiv 1048576 = hi at *
  refine ⟨by omega, b2, b1, by omega, by omega, ?_⟩
  rw [show n - lo = hi * 1048576 by omega, Int.mul_tdiv_cancel _ (by omega)]
/-- what must be small, that the steps fit -/
def Small (x n y : Int) : Prop := -(8388608 * y) ≤ x * n.tdiv 1048576 ∧ x * n.tdiv 1048576 ≤ 8388608 * y
set_option maxHeartbeats 1000000 in
theorem rTimes (x n y : Int) (w : World) (h1 : -2147483648 ≤ x) (h2 : x ≤ 2147483648) (hn : reach n = true) (hy : 0 < y) (hy2 : y ≤ 2147483648) (hs : Small x n y) :
    Calls Try.prog 70 #[.int .i64 x, .int .i64 n, .int .i64 y] w fun e w' => e = .returned (.int .i64 (x * n / y)) ∧ w' = w := by
  obtain ⟨e0, l1, l2, g1, g2, e1⟩ := split20 n hn
  unfold Small at hs
  have nb := (reach_iff _).1 hn
  obtain ⟨lo, hlo⟩ : ∃ lo, n.tmod 1048576 = lo := ⟨_, rfl⟩
  obtain ⟨hi, hhi⟩ : ∃ hi, n.tdiv 1048576 = hi := ⟨_, rfl⟩
  rw [hlo] at e0 e1 l1 l2
  rw [hhi] at e0 e1 g1 g2 hs
  obtain ⟨p, hp⟩ : ∃ p, x * hi = p := ⟨_, rfl⟩
  rw [hp] at hs
  have pb : -2251799813685248 ≤ p ∧ p ≤ 2251799813685248 := by
    have := mul_abs (a := x) (b := hi) (A := 2147483648) (B := 1048576) (by omega) (by omega) (by omega) (by omega); omega
  have qb : -8388608 ≤ p / y ∧ p / y ≤ 8388608 := by
    constructor
    · rw [le_fl hy]; omega
    · have : p / y < 8388608 + 1 := by rw [fl_lt hy]; omega
      omega
  obtain ⟨q, hq⟩ : ∃ q, p / y = q := ⟨_, rfl⟩
  obtain ⟨r, hr⟩ : ∃ r, p - q * y = r := ⟨_, rfl⟩
  obtain ⟨T1, r1, r2⟩ := times_eq x n y hi lo p q r hy e0 hp.symm hq.symm hr.symm
  obtain ⟨v, hv⟩ : ∃ v, x * lo = v := ⟨_, rfl⟩
  have vb : -2251799813685248 ≤ v ∧ v ≤ 2251799813685248 := by
    have := mul_abs (a := x) (b := lo) (A := 2147483648) (B := 1048576) (by omega) (by omega) (by omega) (by omega); omega
  rw [hv] at T1
  obtain ⟨s, hsu⟩ : ∃ s, r * 1048576 + v = s := ⟨_, rfl⟩
  rw [hsu] at T1
  have sb := fl_bound (a := s) (b := y) (B := 9007199254740992) hy (by omega) (by omega) (by omega)
  rw [T1]
  rw [hq] at qb
  have F1 := Lib.hid (fun wx => rFl p y wx hy (by omega) (by omega))
  have F2 := Lib.hid (fun wx => rFl s y wx hy (by omega) (by omega))
  rw [hq] at F1
  obtain ⟨t, ht⟩ : ∃ t, s / y = t := ⟨_, rfl⟩
  rw [ht] at F2 sb ⊢
  obtain ⟨z, hz⟩ : ∃ z, q * y = z := ⟨_, rfl⟩
  rw [hz] at hr
  have w1 := w64_is hp (by omega) (by omega)
  have w2 := w64_is hv (by omega) (by omega)
  have w3 := w64_is hz (by omega) (by omega)
  have w4 := w64_is hr (by omega) (by omega)
  have w5 := w64_is hsu (by omega) (by omega)
  have d1 : (n - lo).tdiv 1048576 = hi := e1
  clear e0 e1 T1 hs hq hhi hp hv ht hz hn pb
  obtain ⟨n1, n2⟩ := nb
  obtain ⟨q1, q2⟩ := qb
  obtain ⟨t1, t2⟩ := sb
  obtain ⟨v1, v2⟩ := vb
  go_enter Try.func70, Try.ntmps70
  go_wp2_with fail
  refine (F1.out _).mono ?_
  rintro e w1 ⟨rfl, rfl⟩
  go_wp2_with fail
  refine (F2.out _).mono ?_
  rintro e w1 ⟨rfl, rfl⟩
  go_wp2_with fail
  go_ret
  exact ⟨rfl, rfl⟩
end Go.Proofs.Ytdkigfcglfgpoaa
