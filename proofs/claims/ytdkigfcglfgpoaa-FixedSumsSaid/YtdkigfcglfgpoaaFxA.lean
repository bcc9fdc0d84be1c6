/- Fixed: contracts of the reference's small functions. -/
import Derived.Test.YtdkigfcglfgpoaaFxU
namespace Go.Proofs.Ytdkigfcglfgpoaa
open Go.RowKit
set_option linter.unusedVariables false

/-- a result as values -/
def vI (l h : Int) : Value := .agg #[.int .i64 l, .int .i64 h]
def vR (R : Fx) : Value := .tuple #[.agg #[.int .i64 R.l, .int .i64 R.h], .int .i64 R.e]

theorem rFl (a b : Int) (w : World) (hb : 0 < b) (h1 : -9223372036854775807 ≤ a) (h2 : a ≤ 9223372036854775807) :
    Calls Try.prog 54 #[.int .i64 a, .int .i64 b] w fun e w' => e = .returned (.int .i64 (a / b)) ∧ w' = w := by
  obtain ⟨f1, f2⟩ := tfloor a b hb
  have b0 : ¬ b = 0 := by omega
  have q1 : a.tdiv b ≤ 9223372036854775807 ∧ -9223372036854775807 ≤ a.tdiv b := by
    have e : (a.tdiv b).natAbs ≤ a.natAbs := by rw [Int.natAbs_tdiv]; exact Nat.div_le_self _ _
    omega
  by_cases h : a.tmod b < 0
  · have E := Lib.hid (f1 h)
    obtain ⟨q, hq⟩ : ∃ q, a.tdiv b = q := ⟨_, rfl⟩
    rw [hq] at q1 E
    obtain ⟨q1, q2⟩ := q1
    clear f1 f2
    go_enter Try.func54, Try.ntmps54
    go_wp2
    go_ret
    exact ⟨ret_int (by have := E.out; go_num), rfl⟩
  · have E := Lib.hid (f2 h)
    obtain ⟨q, hq⟩ : ∃ q, a.tdiv b = q := ⟨_, rfl⟩
    rw [hq] at q1 E
    obtain ⟨q1, q2⟩ := q1
    clear f1 f2
    go_enter Try.func54, Try.ntmps54
    go_wp2
    go_ret
    exact ⟨ret_int (by have := E.out; go_num), rfl⟩
theorem fl_abs {a b : Int} (hb : 0 < b) (h1 : -9223372036854775807 ≤ a) (h2 : a ≤ 9223372036854775807) : -9223372036854775807 ≤ a / b ∧ a / b ≤ 9223372036854775807 := by
  constructor
  · rw [le_fl hb]
    have := mul_ge_l (a := 1) (b := b) (c := -9223372036854775807) (by omega) (by omega); omega
  · have : a / b < 9223372036854775807 + 1 := by
      rw [fl_lt hb]
      have := mul_le_l (a := 1) (b := b) (c := 9223372036854775807 + 1) (by omega) (by omega); omega
    omega
theorem rCe (a b : Int) (w : World) (hb : 0 < b) (h1 : -9223372036854775807 ≤ a) (h2 : a ≤ 9223372036854775807) :
    Calls Try.prog 55 #[.int .i64 a, .int .i64 b] w fun e w' => e = .returned (.int .i64 (cdiv a b)) ∧ w' = w := by
  have C := Lib.hid (fun wx => rFl (-a) b wx hb (by omega) (by omega))
  obtain ⟨k1, k2⟩ := fl_abs (a := -a) hb (by omega) (by omega)
  unfold cdiv
  generalize -a / b = q at *
  go_enter Try.func55, Try.ntmps55
  go_wp2_with fail
  refine (C.out _).mono ?_
  rintro e w1 ⟨rfl, rfl⟩
  go_wp2_with fail
  go_ret
  exact ⟨rfl, rfl⟩
theorem rLe (a b : Int) (w : World) :
    Calls Try.prog 50 #[.int .i64 a, .int .i64 b] w fun e w' => e = .returned (.int .i64 (min a b)) ∧ w' = w := by
  by_cases h : b < a
  · rw [show min a b = b by omega]
    go_enter Try.func50, Try.ntmps50
    go_wp2
    go_ret
    exact ⟨rfl, rfl⟩
  · rw [show min a b = a by omega]
    go_enter Try.func50, Try.ntmps50
    go_wp2
    go_ret
    exact ⟨rfl, rfl⟩
theorem rMo (a b : Int) (w : World) :
    Calls Try.prog 49 #[.int .i64 a, .int .i64 b] w fun e w' => e = .returned (.int .i64 (max a b)) ∧ w' = w := by
  by_cases h : a < b
  · rw [show max a b = b by omega]
    go_enter Try.func49, Try.ntmps49
    go_wp2
    go_ret
    exact ⟨rfl, rfl⟩
  · rw [show max a b = a by omega]
    go_enter Try.func49, Try.ntmps49
    go_wp2
    go_ret
    exact ⟨rfl, rfl⟩
theorem rSize (n : Int) (w : World) (h1 : -9223372036854775808 ≤ n) (h2 : n ≤ 9223372036854775807) :
    Calls Try.prog 47 #[.int .i64 n] w fun e w' => e = .returned (.int .u64 ((n.natAbs : Nat) : Int)) ∧ w' = w := by
  by_cases h : n < 0
  · go_enter Try.func47, Try.ntmps47
    go_wp2
    go_ret
    exact ⟨ret_int (by rw [IntKind.wrap_u64, IntKind.wrap_u64]; omega), rfl⟩
  · go_enter Try.func47, Try.ntmps47
    go_wp2
    go_ret
    exact ⟨ret_int (by omega), rfl⟩
theorem rReach (n : Int) (w : World) :
    Calls Try.prog 61 #[.int .i64 n] w fun e w' => e = .returned (.bool (reach n)) ∧ w' = w := by
  unfold reach
  by_cases c1 : n ≥ -1099511627776
  · by_cases c2 : n ≤ 1099511627776
    · rw [decide_eq_true (show -1099511627776 ≤ n ∧ n ≤ 1099511627776 by omega)]
      go_enter Try.func61, Try.ntmps61
      go_wp2
      go_ret
      exact ⟨rfl, rfl⟩
    · rw [decide_eq_false (show ¬ (-1099511627776 ≤ n ∧ n ≤ 1099511627776) by omega)]
      go_enter Try.func61, Try.ntmps61
      go_wp2
      go_ret
      exact ⟨rfl, rfl⟩
  · rw [decide_eq_false (show ¬ (-1099511627776 ≤ n ∧ n ≤ 1099511627776) by omega)]
    go_enter Try.func61, Try.ntmps61
    go_wp2
    go_ret
    exact ⟨rfl, rfl⟩
theorem rFit (l h : Int) (w : World) :
    Calls Try.prog 48 #[.int .i64 l, .int .i64 h] w fun e w' => e = .returned (vR (fit l h)) ∧ Below w.heap.size w w' := by
  obtain ⟨a0, a1, af0, af1, alt⟩ := At2.new w (.int .i64 0) (.int .i64 0) 23
  unfold vR
  by_cases c : -2147483648 ≤ l ∧ h ≤ 2147483648
  · rw [fit_yes c]
    obtain ⟨c1, c2⟩ := c
    go_enter Try.func48, Try.ntmps48
    go_wp2
    refine bodyPost_ret (v := .tuple #[.agg #[.int .i64 l, .int .i64 h], .int .i64 0]) (by simp [results, Try.results48, go_sem]) rfl ⟨rfl, ?_⟩
    exact below1 _ _
  · rw [fit_no c]
    by_cases c1 : l < -2147483648
    · go_enter Try.func48, Try.ntmps48
      go_wp2
      refine bodyPost_ret (v := .tuple #[.agg #[.int .i64 0, .int .i64 0], .int .i64 5]) (by simp [results, Try.results48, go_sem]) rfl ⟨rfl, ?_⟩
      exact below1 _ _
    · have c2 : h > 2147483648 := by omega
      go_enter Try.func48, Try.ntmps48
      go_wp2
      refine bodyPost_ret (v := .tuple #[.agg #[.int .i64 0, .int .i64 0], .int .i64 5]) (by simp [results, Try.results48, go_sem]) rfl ⟨rfl, ?_⟩
      exact below1 _ _
theorem rValid (a b : Int) (w : World) :
    Calls Try.prog 16 #[.agg #[.int .i64 a, .int .i64 b]] w fun e w' => e = .returned (.bool (fok a b)) ∧ Below w.heap.size w w' := by
  obtain ⟨a0, a1, af0, af1, alt⟩ := At2.new w (.int .i64 a) (.int .i64 b) 23
  unfold fok
  by_cases c1 : a ≥ -2147483648
  · by_cases c2 : b ≤ 2147483648
    · by_cases c3 : a ≤ b
      · rw [decide_eq_true (show -2147483648 ≤ a ∧ b ≤ 2147483648 ∧ a ≤ b by omega)]
        go_enter Try.func16, Try.ntmps16
        go_wp2
        go_ret
        exact ⟨rfl, below1 _ _⟩
      · rw [decide_eq_false (show ¬ (-2147483648 ≤ a ∧ b ≤ 2147483648 ∧ a ≤ b) by omega)]
        go_enter Try.func16, Try.ntmps16
        go_wp2
        go_ret
        exact ⟨rfl, below1 _ _⟩
    · rw [decide_eq_false (show ¬ (-2147483648 ≤ a ∧ b ≤ 2147483648 ∧ a ≤ b) by omega)]
      go_enter Try.func16, Try.ntmps16
      go_wp2
      go_ret
      exact ⟨rfl, below1 _ _⟩
  · rw [decide_eq_false (show ¬ (-2147483648 ≤ a ∧ b ≤ 2147483648 ∧ a ≤ b) by omega)]
    go_enter Try.func16, Try.ntmps16
    go_wp2
    go_ret
    exact ⟨rfl, below1 _ _⟩
theorem rValid_is (a b : Int) (r : Bool) (h : fok a b = r) (w : World) :
    Calls Try.prog 16 #[.agg #[.int .i64 a, .int .i64 b]] w fun e w' => e = .returned (.bool r) ∧ Below w.heap.size w w' := h ▸ rValid a b w
/-- does an interval contain 0 -/
def zin (a b : Int) : Bool := decide (a ≤ 0 ∧ 0 ≤ b)
theorem rZero (a b : Int) (w : World) :
    Calls Try.prog 56 #[.agg #[.int .i64 a, .int .i64 b]] w fun e w' => e = .returned (.bool (zin a b)) ∧ Below w.heap.size w w' := by
  obtain ⟨a0, a1, af0, af1, alt⟩ := At2.new w (.int .i64 a) (.int .i64 b) 23
  unfold zin
  by_cases c1 : a ≤ 0
  · by_cases c2 : b ≥ 0
    · rw [decide_eq_true (show a ≤ 0 ∧ 0 ≤ b by omega)]
      go_enter Try.func56, Try.ntmps56
      go_wp2
      go_ret
      exact ⟨rfl, below1 _ _⟩
    · rw [decide_eq_false (show ¬ (a ≤ 0 ∧ 0 ≤ b) by omega)]
      go_enter Try.func56, Try.ntmps56
      go_wp2
      go_ret
      exact ⟨rfl, below1 _ _⟩
  · rw [decide_eq_false (show ¬ (a ≤ 0 ∧ 0 ≤ b) by omega)]
    go_enter Try.func56, Try.ntmps56
    go_wp2
    go_ret
    exact ⟨rfl, below1 _ _⟩
end Go.Proofs.Ytdkigfcglfgpoaa
