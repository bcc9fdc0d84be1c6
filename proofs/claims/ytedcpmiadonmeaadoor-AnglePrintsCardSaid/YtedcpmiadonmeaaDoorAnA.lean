/- Angle: contracts of the reference's small functions. -/
import Derived.Test.YtedcpmiadonmeaaDoorAnU
namespace Go.Proofs.YtedcpmiadonmeaaDoor
open Go.RowKit
set_option linter.unusedVariables false

theorem rFloor (a b : Int) (w : World) (hb : 0 < b) (h1 : -9223372036854775806 ≤ a) (h2 : a ≤ 9223372036854775806) :
    Calls Tryd.prog 50 #[.int .i64 a, .int .i64 b] w fun e w' => e = .returned (.int .i64 (a / b)) ∧ w' = w := by
  obtain ⟨f1, f2⟩ := tfloor a b hb
  have b0 : ¬ b = 0 := by omega
  have q1 : a.tdiv b ≤ 9223372036854775806 ∧ -9223372036854775806 ≤ a.tdiv b := by
    have e : (a.tdiv b).natAbs ≤ a.natAbs := by rw [Int.natAbs_tdiv]; exact Nat.div_le_self _ _
    omega
  by_cases h : a.tmod b < 0
  · have E := Lib.hid (f1 h)
    obtain ⟨q, hq⟩ : ∃ q, a.tdiv b = q := ⟨_, rfl⟩
    rw [hq] at q1 E
    obtain ⟨q1, q2⟩ := q1
    clear f1 f2
    go_enter Tryd.func50, Tryd.ntmps50
    go_wp2
    go_ret
    exact ⟨ret_int (by have := E.out; go_num), rfl⟩
  · have E := Lib.hid (f2 h)
    obtain ⟨q, hq⟩ : ∃ q, a.tdiv b = q := ⟨_, rfl⟩
    rw [hq] at q1 E
    obtain ⟨q1, q2⟩ := q1
    clear f1 f2
    go_enter Tryd.func50, Tryd.ntmps50
    go_wp2
    go_ret
    exact ⟨ret_int (by have := E.out; go_num), rfl⟩

theorem rCeil (a b : Int) (w : World) (hb : 0 < b) (h1 : -9223372036854775806 ≤ a) (h2 : a ≤ 9223372036854775806) :
    Calls Tryd.prog 51 #[.int .i64 a, .int .i64 b] w fun e w' => e = .returned (.int .i64 (cdiv a b)) ∧ w' = w := by
  obtain ⟨f1, f2⟩ := tceil a b hb
  have b0 : ¬ b = 0 := by omega
  have q1 : a.tdiv b ≤ 9223372036854775806 ∧ -9223372036854775806 ≤ a.tdiv b := by
    have e : (a.tdiv b).natAbs ≤ a.natAbs := by rw [Int.natAbs_tdiv]; exact Nat.div_le_self _ _
    omega
  by_cases h : 0 < a.tmod b
  · have E := Lib.hid (f1 h)
    obtain ⟨q, hq⟩ : ∃ q, a.tdiv b = q := ⟨_, rfl⟩
    rw [hq] at q1 E
    obtain ⟨q1, q2⟩ := q1
    clear f1 f2
    go_enter Tryd.func51, Tryd.ntmps51
    go_wp2
    go_ret
    exact ⟨ret_int (by have := E.out; go_num), rfl⟩
  · have E := Lib.hid (f2 h)
    obtain ⟨q, hq⟩ : ∃ q, a.tdiv b = q := ⟨_, rfl⟩
    rw [hq] at q1 E
    obtain ⟨q1, q2⟩ := q1
    clear f1 f2
    go_enter Tryd.func51, Tryd.ntmps51
    go_wp2
    go_ret
    exact ⟨ret_int (by have := E.out; go_num), rfl⟩

theorem tmodT (n : Int) : (n.tmod 21600000 < 0 → n.tmod 21600000 + 21600000 = n % 21600000) ∧ (¬ n.tmod 21600000 < 0 → n.tmod 21600000 = n % 21600000) ∧ -21600000 < n.tmod 21600000 ∧ n.tmod 21600000 < 21600000 := by
  have e := Int.tmod_add_mul_tdiv n 21600000
  have b1 := Int.tmod_lt_of_pos n (show (0 : Int) < 21600000 by omega)
  have b2 := Int.lt_tmod_of_pos n (show (0 : Int) < 21600000 by omega)
  generalize n.tmod 21600000 = r at *
  generalize n.tdiv 21600000 = q at *
  omega
theorem rWrap (n : Int) (w : World) :
    Calls Tryd.prog 18 #[.int .i64 n] w fun e w' => e = .returned (.int .i64 (wrapN n)) ∧ w' = w := by
  obtain ⟨m1, m2, m3, m4⟩ := tmodT n
  unfold wrapN
  generalize n % 21600000 = v at *
  obtain ⟨r, hr⟩ : ∃ r, n.tmod 21600000 = r := ⟨_, rfl⟩
  rw [hr] at m1 m2 m3 m4
  by_cases h : r < 0
  · have E := Lib.hid (m1 h)
    clear m1 m2
    go_enter Tryd.func18, Tryd.ntmps18
    go_wp2
    go_ret
    exact ⟨ret_int (by have := E.out; go_num), rfl⟩
  · have E := Lib.hid (m2 h)
    clear m1 m2
    go_enter Tryd.func18, Tryd.ntmps18
    go_wp2
    go_ret
    exact ⟨ret_int (by have := E.out; go_num), rfl⟩
theorem rSigned (n : Int) (w : World) :
    Calls Tryd.prog 19 #[.int .i64 n] w fun e w' => e = .returned (.int .i64 (signN n)) ∧ w' = w := by
  have CW := Lib.hid (fun wx => rWrap n wx)
  have hw := wrapN_in n
  rw [show signN n = if 10800000 ≤ wrapN n then wrapN n - 21600000 else wrapN n from rfl]
  generalize wrapN n = v at *
  obtain ⟨v1, v2⟩ := hw
  by_cases h : v ≥ 10800000
  · rw [if_pos (show 10800000 ≤ v from h)]
    go_enter Tryd.func19, Tryd.ntmps19
    go_wp2_with fail
    refine (CW.out _).mono ?_
    rintro e w1 ⟨rfl, rfl⟩
    go_wp2_with fail
    go_ret
    exact ⟨rfl, rfl⟩
  · rw [if_neg (show ¬ 10800000 ≤ v from h)]
    go_enter Tryd.func19, Tryd.ntmps19
    go_wp2_with fail
    refine (CW.out _).mono ?_
    rintro e w1 ⟨rfl, rfl⟩
    go_wp2_with fail
    go_ret
    exact ⟨rfl, rfl⟩

theorem rValid (a b : Int) (w : World) :
    Calls Tryd.prog 15 #[.agg #[.int .i64 a, .int .i64 b]] w fun e w' => e = .returned (.bool (aok a b)) ∧ Below w.heap.size w w' := by
  obtain ⟨a0, a1, af0, af1, alt⟩ := At2.new w (.int .i64 a) (.int .i64 b) 23
  unfold aok
  by_cases c1 : a ≤ b
  · by_cases c2 : a ≥ -1099511627776
    · by_cases c3 : b ≤ 1099511627776
      · rw [decide_eq_true (show -1099511627776 ≤ a ∧ b ≤ 1099511627776 ∧ a ≤ b by omega)]
        go_enter Tryd.func15, Tryd.ntmps15
        go_wp2
        go_ret
        exact ⟨rfl, below1 _ _⟩
      · rw [decide_eq_false (show ¬ (-1099511627776 ≤ a ∧ b ≤ 1099511627776 ∧ a ≤ b) by omega)]
        have c3' : decide (b ≤ 1099511627776) = false := decide_eq_false c3
        go_enter Tryd.func15, Tryd.ntmps15
        go_wp2
        go_ret
        exact ⟨rfl, below1 _ _⟩
    · rw [decide_eq_false (show ¬ (-1099511627776 ≤ a ∧ b ≤ 1099511627776 ∧ a ≤ b) by omega)]
      go_enter Tryd.func15, Tryd.ntmps15
      go_wp2
      go_ret
      exact ⟨rfl, below1 _ _⟩
  · rw [decide_eq_false (show ¬ (-1099511627776 ≤ a ∧ b ≤ 1099511627776 ∧ a ≤ b) by omega)]
    go_enter Tryd.func15, Tryd.ntmps15
    go_wp2
    go_ret
    exact ⟨rfl, below1 _ _⟩
theorem rValid_is (a b : Int) (r : Bool) (h : aok a b = r) (w : World) :
    Calls Tryd.prog 15 #[.agg #[.int .i64 a, .int .i64 b]] w fun e w' => e = .returned (.bool r) ∧ Below w.heap.size w w' := h ▸ rValid a b w

theorem rMeets (a b c d : Int) (w : World) :
    Calls Tryd.prog 32 #[.agg #[.int .i64 a, .int .i64 b], .agg #[.int .i64 c, .int .i64 d]] w fun e w' => e = .returned (.bool (ameets a b c d)) ∧ Below w.heap.size w w' := by
  obtain ⟨⟨a0, a1, af0, af1, alt⟩, ⟨b0, b1, bf0, bf1, blt⟩⟩ := At2.two w (.int .i64 a) (.int .i64 b) (.int .i64 c) (.int .i64 d) 23 23
  unfold ameets
  by_cases c1 : a ≤ d
  · by_cases c2 : c ≤ b
    · rw [decide_eq_true (show a ≤ d ∧ c ≤ b from ⟨c1, c2⟩)]
      go_enter Tryd.func32, Tryd.ntmps32
      go_wp2
      go_ret
      exact ⟨rfl, below2 _ _ _⟩
    · rw [decide_eq_false (show ¬ (a ≤ d ∧ c ≤ b) from fun k => c2 k.2)]
      have c2' : decide (c ≤ b) = false := decide_eq_false c2
      go_enter Tryd.func32, Tryd.ntmps32
      go_wp2
      go_ret
      exact ⟨rfl, below2 _ _ _⟩
  · rw [decide_eq_false (show ¬ (a ≤ d ∧ c ≤ b) from fun k => c1 k.1)]
    go_enter Tryd.func32, Tryd.ntmps32
    go_wp2
    go_ret
    exact ⟨rfl, below2 _ _ _⟩

theorem rInside (a b c d : Int) (w : World) :
    Calls Tryd.prog 17 #[.agg #[.int .i64 a, .int .i64 b], .agg #[.int .i64 c, .int .i64 d]] w fun e w' => e = .returned (.bool (decide (c ≤ a ∧ b ≤ d))) ∧ Below w.heap.size w w' := by
  obtain ⟨⟨a0, a1, af0, af1, alt⟩, ⟨b0, b1, bf0, bf1, blt⟩⟩ := At2.two w (.int .i64 a) (.int .i64 b) (.int .i64 c) (.int .i64 d) 23 23
  by_cases c1 : c ≤ a
  · by_cases c2 : b ≤ d
    · rw [decide_eq_true (show c ≤ a ∧ b ≤ d from ⟨c1, c2⟩)]
      go_enter Tryd.func17, Tryd.ntmps17
      go_wp2
      go_ret
      exact ⟨rfl, below2 _ _ _⟩
    · rw [decide_eq_false (show ¬ (c ≤ a ∧ b ≤ d) from fun k => c2 k.2)]
      have c2' : decide (b ≤ d) = false := decide_eq_false c2
      go_enter Tryd.func17, Tryd.ntmps17
      go_wp2
      go_ret
      exact ⟨rfl, below2 _ _ _⟩
  · rw [decide_eq_false (show ¬ (c ≤ a ∧ b ≤ d) from fun k => c1 k.1)]
    go_enter Tryd.func17, Tryd.ntmps17
    go_wp2
    go_ret
    exact ⟨rfl, below2 _ _ _⟩
end Go.Proofs.YtedcpmiadonmeaaDoor
