/- Fixed: contracts of the reference's big, corners, Scale. -/
import Derived.Test.YtdkigfcglfgpoaaFxG
namespace Go.Proofs.Ytdkigfcglfgpoaa
open Go.RowKit
set_option linter.unusedVariables false

/-- is a quotient surely too great -/
def bigB (x n y : Int) : Bool := decide (2 ≤ (x.natAbs : Int) / y ∧ 4194304 < (n.natAbs : Int) / 1048576 * ((x.natAbs : Int) / y))
theorem reach_neg {n : Int} (h : reach n = true) : reach (-n) = true := by rw [reach_iff] at *; omega
theorem abs20 (n : Int) : ((n.tdiv 1048576).natAbs : Int) = (n.natAbs : Int) / 1048576 := by
  rw [Int.natAbs_tdiv]
  show ((n.natAbs / 1048576 : Nat) : Int) = _
  omega
/-- where big denies it, the steps fit -/
theorem small_of {x n c y : Int} (hc : 0 < c) (hy : c ≤ y) (hn : reach n = true) (h : bigB x n c = false) : Small x n y := by
  unfold bigB at h
  rw [decide_eq_false_iff_not] at h
  have nb := (reach_iff _).1 hn
  obtain ⟨H, hH⟩ : ∃ H, (n.natAbs : Int) / 1048576 = H := ⟨_, rfl⟩
  obtain ⟨Q, hQ⟩ : ∃ Q, (x.natAbs : Int) / c = Q := ⟨_, rfl⟩
  rw [hH, hQ] at h
  have H1 : 0 ≤ H ∧ H ≤ 1048576 := by omega
  have Q0 : 0 ≤ Q := by rw [← hQ]; exact Int.ediv_nonneg (by omega) (by omega)
  have hx : (x.natAbs : Int) < (Q + 1) * c := by rw [← fl_lt hc]; omega
  have e := abs20 n
  rw [hH] at e
  have q : ((x * n.tdiv 1048576).natAbs : Int) = (x.natAbs : Int) * H := by rw [Int.natAbs_mul, Int.natCast_mul, e]
  have m1 : (x.natAbs : Int) * H ≤ (Q + 1) * c * H := Int.mul_le_mul_of_nonneg_right (Int.le_of_lt hx) H1.1
  have m2 : (Q + 1) * H ≤ 8388608 := by
    rw [Int.add_mul, Int.one_mul]
    by_cases h2 : 2 ≤ Q
    · have : ¬ 4194304 < H * Q := fun k => h ⟨h2, k⟩
      rw [Int.mul_comm] at this; omega
    · have := mul_le_r (show Q ≤ 1 by omega) H1.1; omega
  have m3 : (Q + 1) * c * H = (Q + 1) * H * c := by rw [Int.mul_assoc, Int.mul_comm c H, ← Int.mul_assoc]
  have m4 : (Q + 1) * H * c ≤ 8388608 * c := mul_le_r m2 (by omega)
  have m5 : 8388608 * c ≤ 8388608 * y := by omega
  unfold Small
  omega
/-- where big affirms it, the quotient is too great -/
theorem big_far {x n c : Int} (hc : 0 < c) (h : bigB x n c = true) : 1099511627776 * c < x * n ∨ x * n < -1099511627776 * c := by
  unfold bigB at h
  rw [decide_eq_true_iff] at h
  obtain ⟨h1, h2⟩ := h
  obtain ⟨H, hH⟩ : ∃ H, (n.natAbs : Int) / 1048576 = H := ⟨_, rfl⟩
  obtain ⟨Q, hQ⟩ : ∃ Q, (x.natAbs : Int) / c = Q := ⟨_, rfl⟩
  rw [hH, hQ] at h2
  have H0 : 0 ≤ H := by omega
  have a1 : Q * c ≤ (x.natAbs : Int) := by rw [← le_fl hc]; omega
  have a2 : H * 1048576 ≤ (n.natAbs : Int) := by omega
  have m : (Q * c) * (H * 1048576) ≤ (x.natAbs : Int) * (n.natAbs : Int) := Int.mul_le_mul a1 a2 (by omega) (by omega)
  have e : (Q * c) * (H * 1048576) = (H * Q) * (c * 1048576) := by
    rw [Int.mul_comm H Q, Int.mul_assoc, Int.mul_assoc, ← Int.mul_assoc c H, Int.mul_comm c H, Int.mul_assoc]
  have m2 : 4194305 * (c * 1048576) ≤ (H * Q) * (c * 1048576) := mul_le_r (by omega) (by omega)
  have q : ((x * n).natAbs : Int) = (x.natAbs : Int) * (n.natAbs : Int) := by rw [Int.natAbs_mul, Int.natCast_mul]
  omega
set_option maxHeartbeats 1000000 in
theorem rBig (x n y : Int) (w : World) (h1 : -2147483648 ≤ x) (h2 : x ≤ 2147483648) (hn : reach n = true) (hy : 0 < y) :
    Calls Try.prog 63 #[.int .i64 x, .int .i64 n, .int .i64 y] w fun e w' => e = .returned (.bool (bigB x n y)) ∧ w' = w := by
  have nb := (reach_iff _).1 hn
  unfold bigB
  obtain ⟨X, hX⟩ : ∃ X : Int, (x.natAbs : Int) = X := ⟨_, rfl⟩
  obtain ⟨N, hN⟩ : ∃ N : Int, (n.natAbs : Int) = N := ⟨_, rfl⟩
  rw [hX, hN]
  obtain ⟨Q, hQ⟩ : ∃ Q, X / y = Q := ⟨_, rfl⟩
  obtain ⟨H, hH⟩ : ∃ H, N / 1048576 = H := ⟨_, rfl⟩
  rw [hQ, hH]
  have d1 : X.tdiv y = Q := by rw [Int.tdiv_eq_ediv_of_nonneg (by omega)]; exact hQ
  have d2 : N.tdiv 1048576 = H := by rw [Int.tdiv_eq_ediv_of_nonneg (by omega)]; exact hH
  have Qb := fl_bound (a := X) (b := y) (B := 2147483648) hy (by omega) (by omega) (by omega)
  rw [hQ] at Qb
  have pb := mul_abs (a := H) (b := Q) (A := 1048576) (B := 2147483648) (by omega) (by omega) (by omega) (by omega)
  obtain ⟨p, hp⟩ : ∃ p, H * Q = p := ⟨_, rfl⟩
  rw [hp] at pb ⊢
  have w1 := w64_is hp (by omega) (by omega)
  have yz : ¬ y = 0 := by omega
  have hb1 : 0 ≤ H := by omega
  have hb2 : H ≤ 1048576 := by omega
  have w0 : wrap64 H = H := w64_is rfl (by omega) (by omega)
  obtain ⟨n1, n2⟩ := nb
  obtain ⟨q1, q2⟩ := Qb
  clear hp hQ hH hn pb
  obtain ⟨r, hr⟩ : ∃ r, r = decide (2 ≤ Q ∧ 4194304 < p) := ⟨_, rfl⟩
  rw [← hr]
  by_cases cx : x < 0
  · by_cases cn : n < 0
    · have ex : -x = X := by omega
      have en : -n = N := by omega
      clear hX hN
      by_cases c1 : 2 ≤ Q
      · by_cases c2 : 4194304 < p
        · obtain rfl : r = true := by rw [hr]; exact decide_eq_true ⟨c1, c2⟩
          have c2' : decide (4194304 < p) = true := decide_eq_true c2
          have c1' : Q ≥ 2 := c1
          clear hr
          go_enter Try.func63, Try.ntmps63
          go_wp2_with fail
          go_ret
          exact ⟨rfl, rfl⟩
        · obtain rfl : r = false := by rw [hr]; exact decide_eq_false (fun k => c2 k.2)
          have c2' : decide (4194304 < p) = false := decide_eq_false c2
          have c1' : Q ≥ 2 := c1
          clear hr
          go_enter Try.func63, Try.ntmps63
          go_wp2_with fail
          go_ret
          exact ⟨rfl, rfl⟩
      · obtain rfl : r = false := by rw [hr]; exact decide_eq_false (fun k => c1 k.1)
        have c1' : ¬ Q ≥ 2 := c1
        have c1'' : decide (Q ≥ 2) = false := decide_eq_false c1'
        clear hr
        go_enter Try.func63, Try.ntmps63
        go_wp2_with fail
        go_ret
        exact ⟨rfl, rfl⟩
    · have ex : -x = X := by omega
      have en : n = N := by omega
      subst en
      clear hX hN
      by_cases c1 : 2 ≤ Q
      · by_cases c2 : 4194304 < p
        · obtain rfl : r = true := by rw [hr]; exact decide_eq_true ⟨c1, c2⟩
          have c2' : decide (4194304 < p) = true := decide_eq_true c2
          have c1' : Q ≥ 2 := c1
          clear hr
          go_enter Try.func63, Try.ntmps63
          go_wp2_with fail
          go_ret
          exact ⟨rfl, rfl⟩
        · obtain rfl : r = false := by rw [hr]; exact decide_eq_false (fun k => c2 k.2)
          have c2' : decide (4194304 < p) = false := decide_eq_false c2
          have c1' : Q ≥ 2 := c1
          clear hr
          go_enter Try.func63, Try.ntmps63
          go_wp2_with fail
          go_ret
          exact ⟨rfl, rfl⟩
      · obtain rfl : r = false := by rw [hr]; exact decide_eq_false (fun k => c1 k.1)
        have c1' : ¬ Q ≥ 2 := c1
        have c1'' : decide (Q ≥ 2) = false := decide_eq_false c1'
        clear hr
        go_enter Try.func63, Try.ntmps63
        go_wp2_with fail
        go_ret
        exact ⟨rfl, rfl⟩
  · by_cases cn : n < 0
    · have ex : x = X := by omega
      subst ex
      have en : -n = N := by omega
      clear hX hN
      by_cases c1 : 2 ≤ Q
      · by_cases c2 : 4194304 < p
        · obtain rfl : r = true := by rw [hr]; exact decide_eq_true ⟨c1, c2⟩
          have c2' : decide (4194304 < p) = true := decide_eq_true c2
          have c1' : Q ≥ 2 := c1
          clear hr
          go_enter Try.func63, Try.ntmps63
          go_wp2_with fail
          go_ret
          exact ⟨rfl, rfl⟩
        · obtain rfl : r = false := by rw [hr]; exact decide_eq_false (fun k => c2 k.2)
          have c2' : decide (4194304 < p) = false := decide_eq_false c2
          have c1' : Q ≥ 2 := c1
          clear hr
          go_enter Try.func63, Try.ntmps63
          go_wp2_with fail
          go_ret
          exact ⟨rfl, rfl⟩
      · obtain rfl : r = false := by rw [hr]; exact decide_eq_false (fun k => c1 k.1)
        have c1' : ¬ Q ≥ 2 := c1
        have c1'' : decide (Q ≥ 2) = false := decide_eq_false c1'
        clear hr
        go_enter Try.func63, Try.ntmps63
        go_wp2_with fail
        go_ret
        exact ⟨rfl, rfl⟩
    · have ex : x = X := by omega
      subst ex
      have en : n = N := by omega
      subst en
      clear hX hN
      by_cases c1 : 2 ≤ Q
      · by_cases c2 : 4194304 < p
        · obtain rfl : r = true := by rw [hr]; exact decide_eq_true ⟨c1, c2⟩
          have c2' : decide (4194304 < p) = true := decide_eq_true c2
          have c1' : Q ≥ 2 := c1
          clear hr
          go_enter Try.func63, Try.ntmps63
          go_wp2_with fail
          go_ret
          exact ⟨rfl, rfl⟩
        · obtain rfl : r = false := by rw [hr]; exact decide_eq_false (fun k => c2 k.2)
          have c2' : decide (4194304 < p) = false := decide_eq_false c2
          have c1' : Q ≥ 2 := c1
          clear hr
          go_enter Try.func63, Try.ntmps63
          go_wp2_with fail
          go_ret
          exact ⟨rfl, rfl⟩
      · obtain rfl : r = false := by rw [hr]; exact decide_eq_false (fun k => c1 k.1)
        have c1' : ¬ Q ≥ 2 := c1
        have c1'' : decide (Q ≥ 2) = false := decide_eq_false c1'
        clear hr
        go_enter Try.func63, Try.ntmps63
        go_wp2_with fail
        go_ret
        exact ⟨rfl, rfl⟩
end Go.Proofs.Ytdkigfcglfgpoaa
