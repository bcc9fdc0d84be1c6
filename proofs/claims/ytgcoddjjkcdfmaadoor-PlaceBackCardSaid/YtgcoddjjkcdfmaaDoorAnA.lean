/- Angle: contracts of the reference's small functions. -/
import Derived.Test.YtgcoddjjkcdfmaaDoorAnU
namespace Go.Proofs.YtgcoddjjkcdfmaaDoor
open Go.RowKit
set_option linter.unusedVariables false

theorem tmodT (n : Int) : (n.tmod 21600000 < 0 → n.tmod 21600000 + 21600000 = n % 21600000) ∧ (¬ n.tmod 21600000 < 0 → n.tmod 21600000 = n % 21600000) ∧ -21600000 < n.tmod 21600000 ∧ n.tmod 21600000 < 21600000 := by
  have e := Int.tmod_add_mul_tdiv n 21600000
  have b1 := Int.tmod_lt_of_pos n (show (0 : Int) < 21600000 by omega)
  have b2 := Int.lt_tmod_of_pos n (show (0 : Int) < 21600000 by omega)
  generalize n.tmod 21600000 = r at *
  generalize n.tdiv 21600000 = q at *
  omega
theorem rWrap (n : Int) (w : World) :
    Calls Tryd.prog 61 #[.int .i64 n] w fun e w' => e = .returned (.int .i64 (wrapN n)) ∧ w' = w := by
  obtain ⟨m1, m2, m3, m4⟩ := tmodT n
  unfold wrapN
  generalize n % 21600000 = v at *
  obtain ⟨r, hr⟩ : ∃ r, n.tmod 21600000 = r := ⟨_, rfl⟩
  rw [hr] at m1 m2 m3 m4
  by_cases h : r < 0
  · have E := Lib.hid (m1 h)
    clear m1 m2
    go_enter Tryd.func61, Tryd.ntmps61
    go_wp2
    go_ret
    exact ⟨ret_int (by have := E.out; go_num), rfl⟩
  · have E := Lib.hid (m2 h)
    clear m1 m2
    go_enter Tryd.func61, Tryd.ntmps61
    go_wp2
    go_ret
    exact ⟨ret_int (by have := E.out; go_num), rfl⟩
theorem rSigned (n : Int) (w : World) :
    Calls Tryd.prog 52 #[.int .i64 n] w fun e w' => e = .returned (.int .i64 (signN n)) ∧ w' = w := by
  have CW := Lib.hid (fun wx => rWrap n wx)
  have hw := wrapN_in n
  rw [show signN n = if 10800000 ≤ wrapN n then wrapN n - 21600000 else wrapN n from rfl]
  generalize wrapN n = v at *
  obtain ⟨v1, v2⟩ := hw
  by_cases h : v ≥ 10800000
  · rw [if_pos (show 10800000 ≤ v from h)]
    go_enter Tryd.func52, Tryd.ntmps52
    go_wp2_with fail
    refine (CW.out _).mono ?_
    rintro e w1 ⟨rfl, rfl⟩
    go_wp2_with fail
    go_ret
    exact ⟨rfl, rfl⟩
  · rw [if_neg (show ¬ 10800000 ≤ v from h)]
    go_enter Tryd.func52, Tryd.ntmps52
    go_wp2_with fail
    refine (CW.out _).mono ?_
    rintro e w1 ⟨rfl, rfl⟩
    go_wp2_with fail
    go_ret
    exact ⟨rfl, rfl⟩

theorem rMeets (a b c d : Int) (w : World) :
    Calls Tryd.prog 40 #[.agg #[.int .i64 a, .int .i64 b], .agg #[.int .i64 c, .int .i64 d]] w fun e w' => e = .returned (.bool (ameets a b c d)) ∧ Below w.heap.size w w' := by
  obtain ⟨⟨a0, a1, af0, af1, alt⟩, ⟨b0, b1, bf0, bf1, blt⟩⟩ := At2.two w (.int .i64 a) (.int .i64 b) (.int .i64 c) (.int .i64 d) 23 23
  unfold ameets
  by_cases c1 : a ≤ d
  · by_cases c2 : c ≤ b
    · rw [decide_eq_true (show a ≤ d ∧ c ≤ b from ⟨c1, c2⟩)]
      go_enter Tryd.func40, Tryd.ntmps40
      go_wp2
      go_ret
      exact ⟨rfl, below2 _ _ _⟩
    · rw [decide_eq_false (show ¬ (a ≤ d ∧ c ≤ b) from fun k => c2 k.2)]
      have c2' : decide (c ≤ b) = false := decide_eq_false c2
      go_enter Tryd.func40, Tryd.ntmps40
      go_wp2
      go_ret
      exact ⟨rfl, below2 _ _ _⟩
  · rw [decide_eq_false (show ¬ (a ≤ d ∧ c ≤ b) from fun k => c1 k.1)]
    go_enter Tryd.func40, Tryd.ntmps40
    go_wp2
    go_ret
    exact ⟨rfl, below2 _ _ _⟩

end Go.Proofs.YtgcoddjjkcdfmaaDoor
