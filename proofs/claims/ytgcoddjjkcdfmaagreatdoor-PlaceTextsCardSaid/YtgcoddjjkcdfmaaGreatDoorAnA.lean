/- Angle: contracts of the reference's small functions. -/
import Derived.Test.YtgcoddjjkcdfmaaGreatDoorAnU
namespace Go.Proofs.YtgcoddjjkcdfmaaGreatDoor
open Go.RowKit
set_option linter.unusedVariables false

theorem rFloor (a b : Int) (w : World) (hb : 0 < b) (h1 : -9223372036854775806 ≤ a) (h2 : a ≤ 9223372036854775806) :
    Calls Tryz.prog 64 #[.int .i64 a, .int .i64 b] w fun e w' => e = .returned (.int .i64 (a / b)) ∧ w' = w := by
  obtain ⟨f1, f2⟩ := tfloor a b hb
  have b0 : ¬ b = 0 := by omega
  have q1 : a.tdiv b ≤ 9223372036854775806 ∧ -9223372036854775806 ≤ a.tdiv b := by
    have e : (a.tdiv b).natAbs ≤ a.natAbs := by rw [Int.natAbs_tdiv]; exact Nat.div_le_self _ _
    omega
  by_cases h : a.tmod b < 0
  · have E := Lib.hid (f1 h)
    obtain ⟨q, hq⟩ : ∃ q, a.tdiv b = q := ⟨_, rfl⟩
    rw [hq] at q1 E
    obtain ⟨q1, q2⟩ := q1
    clear f1 f2
    go_enter Tryz.func64, Tryz.ntmps64
    go_wp2
    go_ret
    exact ⟨ret_int (by have := E.out; go_num), rfl⟩
  · have E := Lib.hid (f2 h)
    obtain ⟨q, hq⟩ : ∃ q, a.tdiv b = q := ⟨_, rfl⟩
    rw [hq] at q1 E
    obtain ⟨q1, q2⟩ := q1
    clear f1 f2
    go_enter Tryz.func64, Tryz.ntmps64
    go_wp2
    go_ret
    exact ⟨ret_int (by have := E.out; go_num), rfl⟩

theorem tmodT (n : Int) : (n.tmod 21600000 < 0 → n.tmod 21600000 + 21600000 = n % 21600000) ∧ (¬ n.tmod 21600000 < 0 → n.tmod 21600000 = n % 21600000) ∧ -21600000 < n.tmod 21600000 ∧ n.tmod 21600000 < 21600000 := by
  have e := Int.tmod_add_mul_tdiv n 21600000
  have b1 := Int.tmod_lt_of_pos n (show (0 : Int) < 21600000 by omega)
  have b2 := Int.lt_tmod_of_pos n (show (0 : Int) < 21600000 by omega)
  generalize n.tmod 21600000 = r at *
  generalize n.tdiv 21600000 = q at *
  omega
end Go.Proofs.YtgcoddjjkcdfmaaGreatDoor
