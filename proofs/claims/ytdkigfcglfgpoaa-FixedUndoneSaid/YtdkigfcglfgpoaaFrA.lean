/- fixed: contracts of the program's small functions. -/
import Derived.Test.YtdkigfcglfgpoaaFxJ
import Derived.Test.YtdkigfcglfgpoaaWdS
import Derived.Test.YtdkigfcglfgpoaaWdT
namespace Go.Proofs.Ytdkigfcglfgpoaa
open Go.RowKit
set_option linter.unusedVariables false

theorem pValid (a b : Int) (w : World) :
    Calls Try.prog 15 #[.agg #[.int .i64 a, .int .i64 b]] w fun e w' => e = .returned (.bool (fok a b)) ∧ Below w.heap.size w w' := by
  obtain ⟨a0, a1, af0, af1, alt⟩ := At2.new w (.int .i64 a) (.int .i64 b) 23
  unfold fok
  by_cases c1 : -2147483648 ≤ a
  · by_cases c2 : a ≤ b
    · by_cases c3 : b ≤ 2147483648
      · rw [decide_eq_true (show -2147483648 ≤ a ∧ b ≤ 2147483648 ∧ a ≤ b by omega)]
        go_enter Try.func15, Try.ntmps15
        go_wp2
        go_ret
        exact ⟨rfl, below1 _ _⟩
      · rw [decide_eq_false (show ¬ (-2147483648 ≤ a ∧ b ≤ 2147483648 ∧ a ≤ b) by omega)]
        go_enter Try.func15, Try.ntmps15
        go_wp2
        go_ret
        exact ⟨rfl, below1 _ _⟩
    · rw [decide_eq_false (show ¬ (-2147483648 ≤ a ∧ b ≤ 2147483648 ∧ a ≤ b) by omega)]
      go_enter Try.func15, Try.ntmps15
      go_wp2
      go_ret
      exact ⟨rfl, below1 _ _⟩
  · rw [decide_eq_false (show ¬ (-2147483648 ≤ a ∧ b ≤ 2147483648 ∧ a ≤ b) by omega)]
    go_enter Try.func15, Try.ntmps15
    go_wp2
    go_ret
    exact ⟨rfl, below1 _ _⟩
theorem pValid_is (a b : Int) (r : Bool) (h : fok a b = r) (w : World) :
    Calls Try.prog 15 #[.agg #[.int .i64 a, .int .i64 b]] w fun e w' => e = .returned (.bool r) ∧ Below w.heap.size w w' := h ▸ pValid a b w
theorem pZero (a b : Int) (w : World) :
    Calls Try.prog 52 #[.agg #[.int .i64 a, .int .i64 b]] w fun e w' => e = .returned (.bool (zin a b)) ∧ Below w.heap.size w w' := by
  obtain ⟨a0, a1, af0, af1, alt⟩ := At2.new w (.int .i64 a) (.int .i64 b) 23
  unfold zin
  by_cases c1 : a ≤ 0
  · by_cases c2 : b ≥ 0
    · rw [decide_eq_true (show a ≤ 0 ∧ 0 ≤ b by omega)]
      go_enter Try.func52, Try.ntmps52
      go_wp2
      go_ret
      exact ⟨rfl, below1 _ _⟩
    · rw [decide_eq_false (show ¬ (a ≤ 0 ∧ 0 ≤ b) by omega)]
      go_enter Try.func52, Try.ntmps52
      go_wp2
      go_ret
      exact ⟨rfl, below1 _ _⟩
  · rw [decide_eq_false (show ¬ (a ≤ 0 ∧ 0 ≤ b) by omega)]
    go_enter Try.func52, Try.ntmps52
    go_wp2
    go_ret
    exact ⟨rfl, below1 _ _⟩
theorem pZero_is (a b : Int) (r : Bool) (h : zin a b = r) (w : World) :
    Calls Try.prog 52 #[.agg #[.int .i64 a, .int .i64 b]] w fun e w' => e = .returned (.bool r) ∧ Below w.heap.size w w' := h ▸ pZero a b w
theorem pArc (n : Int) (w : World) :
    Calls Try.prog 60 #[.int .i64 n] w fun e w' => e = .returned (.bool (reach n)) ∧ w' = w := by
  unfold reach
  by_cases c1 : -1099511627776 ≤ n
  · by_cases c2 : n ≤ 1099511627776
    · rw [decide_eq_true (show -1099511627776 ≤ n ∧ n ≤ 1099511627776 by omega)]
      go_enter Try.func60, Try.ntmps60
      go_wp2
      go_ret
      exact ⟨rfl, rfl⟩
    · rw [decide_eq_false (show ¬ (-1099511627776 ≤ n ∧ n ≤ 1099511627776) by omega)]
      go_enter Try.func60, Try.ntmps60
      go_wp2
      go_ret
      exact ⟨rfl, rfl⟩
  · rw [decide_eq_false (show ¬ (-1099511627776 ≤ n ∧ n ≤ 1099511627776) by omega)]
    go_enter Try.func60, Try.ntmps60
    go_wp2
    go_ret
    exact ⟨rfl, rfl⟩
theorem pArc_is (n : Int) (r : Bool) (h : reach n = r) (w : World) :
    Calls Try.prog 60 #[.int .i64 n] w fun e w' => e = .returned (.bool r) ∧ w' = w := h ▸ pArc n w

/-- the interval with these ends, if there is one -/
theorem pFit (l h : Int) (w : World) (hl : l ≤ h) :
    Calls Try.prog 46 #[.int .i64 l, .int .i64 h] w fun e w' => e = .returned (vR (fit l h)) ∧ Below w.heap.size w w' := by
  have C := Lib.hid (fun wx => pValid l h wx)
  obtain ⟨R, A⟩ := At2.two w (.int .i64 0) (.int .i64 0) (.int .i64 l) (.int .i64 h) 23 23
  obtain ⟨a0, a1, af0, af1, alt⟩ := id A
  unfold vR
  by_cases c : -2147483648 ≤ l ∧ h ≤ 2147483648
  · rw [fit_yes c]
    rw [show fok l h = true from (fok_iff _ _).2 (by omega)] at C
    clear hl c
    go_enter Try.func46, Try.ntmps46
    go_wp2_with fail
    refine (C.out _).mono ?_
    rintro e w1 ⟨rfl, hb⟩
    clear a0 a1 af0 af1 alt
    obtain ⟨a0, a1, af0, af1, alt⟩ := A.keep hb
    obtain ⟨r0, r1, rf0, rf1, rlt⟩ := R.keep hb
    obtain ⟨s0, s1⟩ := set2 r0 r1 (.int .i64 l) (.int .i64 h)
    go_wp2_with fail
    refine bodyPost_ret (v := .tuple #[.agg #[.int .i64 l, .int .i64 h], .int .i64 0]) (by simp [results, Try.results46, go_sem, s0, s1]) rfl ⟨rfl, ?_⟩
    exact below_set2 (bel2 hb) (by omega) _ _
  · rw [fit_no c]
    rw [show fok l h = false from (fok_not _ _).2 (by omega)] at C
    clear hl c
    go_enter Try.func46, Try.ntmps46
    go_wp2_with fail
    refine (C.out _).mono ?_
    rintro e w1 ⟨rfl, hb⟩
    clear a0 a1 af0 af1 alt
    obtain ⟨r0, r1, rf0, rf1, rlt⟩ := R.keep hb
    obtain ⟨s0, s1⟩ := set2 r0 r1 (.int .i64 0) (.int .i64 0)
    go_wp2_with fail
    refine bodyPost_ret (v := .tuple #[.agg #[.int .i64 0, .int .i64 0], .int .i64 5]) (by simp [results, Try.results46, go_sem, s0, s1]) rfl ⟨rfl, ?_⟩
    exact below_set2 (bel2 hb) (by omega) _ _

/-- shifts round down -/
theorem pShift (l h : Int) (w : World) (hl : l ≤ h) (l1 : -9223372036854775807 ≤ l) (h1 : h ≤ 9223372036854775807) :
    Calls Try.prog 51 #[.int .i64 l, .int .i64 h] w fun e w' => e = .returned (vR (fit (l / 1073741824) (cdiv h 1073741824))) ∧ Below w.heap.size w w' := by
  have R := At2.new w (.int .i64 0) (.int .i64 0) 23
  have e2 : cdiv h 1073741824 = -(-h / 1073741824) := rfl
  have hle : l / 1073741824 ≤ cdiv h 1073741824 := Int.le_trans (fl_le_ce (by omega)) (ce_mono (by omega) hl)
  have C := Lib.hid (fun wx => pFit (l / 1073741824) (cdiv h 1073741824) wx hle)
  rw [e2] at C ⊢
  obtain ⟨F, hF⟩ : ∃ F, fit (l / 1073741824) (-(-h / 1073741824)) = F := ⟨_, rfl⟩
  rw [hF] at C ⊢
  clear hF e2 hle
  have q1 : -8589934592 ≤ -h / 1073741824 ∧ -h / 1073741824 ≤ 8589934592 := by omega
  unfold vR at *
  go_enter Try.func51, Try.ntmps51
  go_wp2_with fail
  refine (C.out _).mono ?_
  rintro e w1 ⟨rfl, hb⟩
  obtain ⟨r0, r1, rf0, rf1, rlt⟩ := R.keep hb
  obtain ⟨s0, s1⟩ := set2 r0 r1 (.int .i64 F.l) (.int .i64 F.h)
  go_wp2_with fail
  refine bodyPost_ret (v := .tuple #[.agg #[.int .i64 F.l, .int .i64 F.h], .int .i64 F.e]) (by simp [results, Try.results51, go_sem, s0, s1]) rfl ⟨rfl, ?_⟩
  exact below_set2 (bel1 hb) (by omega) _ _
end Go.Proofs.Ytdkigfcglfgpoaa
