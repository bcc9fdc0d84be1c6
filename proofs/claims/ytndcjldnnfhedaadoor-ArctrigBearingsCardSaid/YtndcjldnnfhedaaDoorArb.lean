/- The program of layer 7: arcsines. -/
import Derived.Test.YtndcjldnnfhedaaDoorBsa
import Derived.Deep.CutRange
import Derived.Test.YtndcjldnnfhedaaDoorAra
import Derived.FnLit
/- Arctrig: the program's intervals: Valid, fitted, Meet, and part. -/
namespace Go.Proofs.YtndcjldnnfhedaaDoor.fr
open Go.RowKit
set_option linter.unusedVariables false
set_option maxRecDepth 100000

theorem pValid (a b : Int) (w : World) :
    Calls Tryd.prog 19 #[.agg #[.int .i64 a, .int .i64 b]] w fun e w' => e = .returned (.bool (fok a b)) ∧ Below w.heap.size w w' := by
  obtain ⟨a0, a1, af0, af1, alt⟩ := At2.new w (.int .i64 a) (.int .i64 b) 23
  unfold fok
  by_cases c1 : -2147483648 ≤ a
  · by_cases c2 : a ≤ b
    · by_cases c3 : b ≤ 2147483648
      · rw [decide_eq_true (show -2147483648 ≤ a ∧ b ≤ 2147483648 ∧ a ≤ b by omega)]
        go_enter Tryd.func19, Tryd.ntmps19
        go_wp2
        go_ret
        exact ⟨rfl, below1 _ _⟩
      · rw [decide_eq_false (show ¬ (-2147483648 ≤ a ∧ b ≤ 2147483648 ∧ a ≤ b) by omega)]
        go_enter Tryd.func19, Tryd.ntmps19
        go_wp2
        go_ret
        exact ⟨rfl, below1 _ _⟩
    · rw [decide_eq_false (show ¬ (-2147483648 ≤ a ∧ b ≤ 2147483648 ∧ a ≤ b) by omega)]
      go_enter Tryd.func19, Tryd.ntmps19
      go_wp2
      go_ret
      exact ⟨rfl, below1 _ _⟩
  · rw [decide_eq_false (show ¬ (-2147483648 ≤ a ∧ b ≤ 2147483648 ∧ a ≤ b) by omega)]
    go_enter Tryd.func19, Tryd.ntmps19
    go_wp2
    go_ret
    exact ⟨rfl, below1 _ _⟩
theorem pValid_is (a b : Int) (r : Bool) (h : fok a b = r) (w : World) :
    Calls Tryd.prog 19 #[.agg #[.int .i64 a, .int .i64 b]] w fun e w' => e = .returned (.bool r) ∧ Below w.heap.size w w' := h ▸ pValid a b w
/-- the interval with these ends, if there is one -/
theorem pFit (l h : Int) (w : World) (hl : l ≤ h) :
    Calls Tryd.prog 60 #[.int .i64 l, .int .i64 h] w fun e w' => e = .returned (vR (fit l h)) ∧ Below w.heap.size w w' := by
  have C := Lib.hid (fun wx => pValid l h wx)
  obtain ⟨R, A⟩ := At2.two w (.int .i64 0) (.int .i64 0) (.int .i64 l) (.int .i64 h) 23 23
  obtain ⟨a0, a1, af0, af1, alt⟩ := id A
  unfold vR
  by_cases c : -2147483648 ≤ l ∧ h ≤ 2147483648
  · rw [fit_yes c]
    rw [show fok l h = true from (fok_iff _ _).2 (by omega)] at C
    clear hl c
    go_enter Tryd.func60, Tryd.ntmps60
    go_wp2_with fail
    refine (C.out _).mono ?_
    rintro e w1 ⟨rfl, hb⟩
    clear a0 a1 af0 af1 alt
    obtain ⟨a0, a1, af0, af1, alt⟩ := A.keep hb
    obtain ⟨r0, r1, rf0, rf1, rlt⟩ := R.keep hb
    obtain ⟨s0, s1⟩ := set2 r0 r1 (.int .i64 l) (.int .i64 h)
    go_wp2_with fail
    refine bodyPost_ret (v := .tuple #[.agg #[.int .i64 l, .int .i64 h], .int .i64 0]) (by simp [results, Tryd.results60, go_sem, s0, s1]) rfl ⟨rfl, ?_⟩
    exact below_set2 (bel2 hb) (by omega) _ _
  · rw [fit_no c]
    rw [show fok l h = false from (fok_not _ _).2 (by omega)] at C
    clear hl c
    go_enter Tryd.func60, Tryd.ntmps60
    go_wp2_with fail
    refine (C.out _).mono ?_
    rintro e w1 ⟨rfl, hb⟩
    clear a0 a1 af0 af1 alt
    obtain ⟨r0, r1, rf0, rf1, rlt⟩ := R.keep hb
    obtain ⟨s0, s1⟩ := set2 r0 r1 (.int .i64 0) (.int .i64 0)
    go_wp2_with fail
    refine bodyPost_ret (v := .tuple #[.agg #[.int .i64 0, .int .i64 0], .int .i64 5]) (by simp [results, Tryd.results60, go_sem, s0, s1]) rfl ⟨rfl, ?_⟩
    exact below_set2 (bel2 hb) (by omega) _ _

theorem pMeet_bad1 (a b c d : Int) (w : World) (h : fok a b = false) :
    Calls Tryd.prog 47 #[.agg #[.int .i64 a, .int .i64 b], .agg #[.int .i64 c, .int .i64 d]] w fun e w' => e = .returned (vR ⟨0, 0, 1⟩) ∧ Below w.heap.size w w' := by
  obtain ⟨A, B, R⟩ := At2.three w (.int .i64 a) (.int .i64 b) (.int .i64 c) (.int .i64 d) (.int .i64 0) (.int .i64 0) 23 23 23
  have C1 := Lib.hid (fun wx => pValid_is a b false h wx)
  obtain ⟨a0, a1, af0, af1, alt⟩ := id A
  clear h
  unfold vR
  go_enter Tryd.func47, Tryd.ntmps47
  go_wp2_with fail
  refine (C1.out _).mono ?_
  rintro e w1 ⟨rfl, hb⟩
  clear a0 a1 af0 af1 alt
  obtain ⟨r0, r1, rf0, rf1, rlt⟩ := R.keep hb
  obtain ⟨s0, s1⟩ := set2 r0 r1 (.int .i64 0) (.int .i64 0)
  go_wp2_with fail
  refine bodyPost_ret (v := .tuple #[.agg #[.int .i64 (0), .int .i64 (0)], .int .i64 (1)]) (by simp [results, Tryd.results47, go_sem, s0, s1]) rfl ⟨rfl, ?_⟩
  exact below_set2 (bel3 hb) (by omega) _ _
theorem pMeet_bad2 (a b c d : Int) (w : World) (h : fok a b = true) (k : fok c d = false) :
    Calls Tryd.prog 47 #[.agg #[.int .i64 a, .int .i64 b], .agg #[.int .i64 c, .int .i64 d]] w fun e w' => e = .returned (vR ⟨0, 0, 1⟩) ∧ Below w.heap.size w w' := by
  obtain ⟨A, B, R⟩ := At2.three w (.int .i64 a) (.int .i64 b) (.int .i64 c) (.int .i64 d) (.int .i64 0) (.int .i64 0) 23 23 23
  have C1 := Lib.hid (fun wx => pValid_is a b true h wx)
  have C2 := Lib.hid (fun wx => pValid_is c d false k wx)
  obtain ⟨a0, a1, af0, af1, alt⟩ := id A
  clear h k
  unfold vR
  go_enter Tryd.func47, Tryd.ntmps47
  go_wp2_with fail
  refine (C1.out _).mono ?_
  rintro e w1 ⟨rfl, hb⟩
  have B := B.keep hb
  have R := R.keep hb
  have HB := Lib.hid (bel3 hb)
  clear hb a0 a1 af0 af1 alt
  obtain ⟨b0, b1, bf0, bf1, blt⟩ := id B
  go_wp2_with fail
  refine (C2.out _).mono ?_
  rintro e w2 ⟨rfl, hb⟩
  clear b0 b1 bf0 bf1 blt
  have R := R.keep hb
  have HB := Lib.hid (bstep HB.out hb)
  clear hb
  obtain ⟨r0, r1, rf0, rf1, rlt⟩ := id R
  obtain ⟨s0, s1⟩ := set2 r0 r1 (.int .i64 0) (.int .i64 0)
  go_wp2_with fail
  refine bodyPost_ret (v := .tuple #[.agg #[.int .i64 (0), .int .i64 (0)], .int .i64 (1)]) (by simp [results, Tryd.results47, go_sem, s0, s1]) rfl ⟨rfl, ?_⟩
  exact below_set2 HB.out (by omega) _ _

set_option maxHeartbeats 1000000 in
theorem pMeet_m00 (a b c d : Int) (w : World) (h : fok a b = true) (k : fok c d = true) (ka : a < c) (kb : d < b) (hc : c > d) :
    Calls Tryd.prog 47 #[.agg #[.int .i64 a, .int .i64 b], .agg #[.int .i64 c, .int .i64 d]] w fun e w' => e = .returned (vR ⟨0, 0, 23⟩) ∧ Below w.heap.size w w' := by
  obtain ⟨A, B, R⟩ := At2.three w (.int .i64 a) (.int .i64 b) (.int .i64 c) (.int .i64 d) (.int .i64 0) (.int .i64 0) 23 23 23
  have C1 := Lib.hid (fun wx => pValid_is a b true h wx)
  have C2 := Lib.hid (fun wx => pValid_is c d true k wx)
  obtain ⟨h1, h2, h3⟩ := (fok_iff _ _).1 h
  obtain ⟨k1, k2, k3⟩ := (fok_iff _ _).1 k
  obtain ⟨a0, a1, af0, af1, alt⟩ := id A
  clear h k
  unfold vR
  clear h1 h2 h3 k1 k2 k3
  go_enter Tryd.func47, Tryd.ntmps47
  go_wp2_with fail
  refine (C1.out _).mono ?_
  rintro e w1 ⟨rfl, hb⟩
  have A := A.keep hb
  have B := B.keep hb
  have R := R.keep hb
  have HB := Lib.hid (bel3 hb)
  clear hb a0 a1 af0 af1 alt
  obtain ⟨b0, b1, bf0, bf1, blt⟩ := id B
  go_wp2_with fail
  refine (C2.out _).mono ?_
  rintro e w2 ⟨rfl, hb⟩
  clear b0 b1 bf0 bf1 blt
  have R := R.keep hb
  obtain ⟨a0, a1, af0, af1, alt⟩ := A.keep hb
  obtain ⟨b0, b1, bf0, bf1, blt⟩ := B.keep hb
  have HB := Lib.hid (bstep HB.out hb)
  clear hb A B
  go_upto_region 3 with fail
  go_region
  clear a0 a1 af0 af1 alt b0 b1 bf0 bf1 blt
  obtain ⟨r0, r1, rf0, rf1, rlt⟩ := id R
  obtain ⟨s0, s1⟩ := set2 r0 r1 (.int .i64 0) (.int .i64 0)
  go_wp2_with fail
  refine bodyPost_ret (v := .tuple #[.agg #[.int .i64 (0), .int .i64 (0)], .int .i64 (23)]) (by simp [results, Tryd.results47, go_sem, s0, s1]) rfl ⟨rfl, ?_⟩
  exact below_set2 HB.out.drew (by omega) _ _
set_option maxHeartbeats 1000000 in
theorem pMeet_o00 (a b c d : Int) (w : World) (h : fok a b = true) (k : fok c d = true) (ka : a < c) (kb : d < b) (hc : ¬ c > d) :
    Calls Tryd.prog 47 #[.agg #[.int .i64 a, .int .i64 b], .agg #[.int .i64 c, .int .i64 d]] w fun e w' => e = .returned (vR ⟨c, d, 0⟩) ∧ Below w.heap.size w w' := by
  obtain ⟨A, B, R⟩ := At2.three w (.int .i64 a) (.int .i64 b) (.int .i64 c) (.int .i64 d) (.int .i64 0) (.int .i64 0) 23 23 23
  have C1 := Lib.hid (fun wx => pValid_is a b true h wx)
  have C2 := Lib.hid (fun wx => pValid_is c d true k wx)
  obtain ⟨h1, h2, h3⟩ := (fok_iff _ _).1 h
  obtain ⟨k1, k2, k3⟩ := (fok_iff _ _).1 k
  obtain ⟨a0, a1, af0, af1, alt⟩ := id A
  clear h k
  have C := Lib.hid (fun wx => pFit c d wx (by omega))
  rw [fit_yes (by omega)] at C
  unfold vR at *
  clear h1 h2 h3 k1 k2 k3
  go_enter Tryd.func47, Tryd.ntmps47
  go_wp2_with fail
  refine (C1.out _).mono ?_
  rintro e w1 ⟨rfl, hb⟩
  have A := A.keep hb
  have B := B.keep hb
  have R := R.keep hb
  have HB := Lib.hid (bel3 hb)
  clear hb a0 a1 af0 af1 alt
  obtain ⟨b0, b1, bf0, bf1, blt⟩ := id B
  go_wp2_with fail
  refine (C2.out _).mono ?_
  rintro e w2 ⟨rfl, hb⟩
  clear b0 b1 bf0 bf1 blt
  have R := R.keep hb
  obtain ⟨a0, a1, af0, af1, alt⟩ := A.keep hb
  obtain ⟨b0, b1, bf0, bf1, blt⟩ := B.keep hb
  have HB := Lib.hid (bstep HB.out hb)
  clear hb A B
  go_upto_region 3 with fail
  go_region
  clear a0 a1 af0 af1 alt b0 b1 bf0 bf1 blt
  go_wp2_with fail
  refine (C.out _).mono ?_
  rintro e w3 ⟨rfl, hb⟩
  have HB := Lib.hid (bstep HB.out.drew hb)
  obtain ⟨r0, r1, rf0, rf1, rlt⟩ := (R.keep (Below.refl _ _).drew).keep hb
  clear hb
  obtain ⟨s0, s1⟩ := set2 r0 r1 (.int .i64 (c)) (.int .i64 (d))
  go_wp2_with fail
  refine bodyPost_ret (v := .tuple #[.agg #[.int .i64 (c), .int .i64 (d)], .int .i64 (0)]) (by simp [results, Tryd.results47, go_sem, s0, s1]) rfl ⟨rfl, ?_⟩
  exact below_set2 HB.out (by omega) _ _

set_option maxHeartbeats 1000000 in
theorem pMeet_m01 (a b c d : Int) (w : World) (h : fok a b = true) (k : fok c d = true) (ka : a < c) (kb : b ≤ d) (hc : c > b) :
    Calls Tryd.prog 47 #[.agg #[.int .i64 a, .int .i64 b], .agg #[.int .i64 c, .int .i64 d]] w fun e w' => e = .returned (vR ⟨0, 0, 23⟩) ∧ Below w.heap.size w w' := by
  obtain ⟨A, B, R⟩ := At2.three w (.int .i64 a) (.int .i64 b) (.int .i64 c) (.int .i64 d) (.int .i64 0) (.int .i64 0) 23 23 23
  have C1 := Lib.hid (fun wx => pValid_is a b true h wx)
  have C2 := Lib.hid (fun wx => pValid_is c d true k wx)
  obtain ⟨h1, h2, h3⟩ := (fok_iff _ _).1 h
  obtain ⟨k1, k2, k3⟩ := (fok_iff _ _).1 k
  obtain ⟨a0, a1, af0, af1, alt⟩ := id A
  clear h k
  unfold vR
  clear h1 h2 h3 k1 k2 k3
  go_enter Tryd.func47, Tryd.ntmps47
  go_wp2_with fail
  refine (C1.out _).mono ?_
  rintro e w1 ⟨rfl, hb⟩
  have A := A.keep hb
  have B := B.keep hb
  have R := R.keep hb
  have HB := Lib.hid (bel3 hb)
  clear hb a0 a1 af0 af1 alt
  obtain ⟨b0, b1, bf0, bf1, blt⟩ := id B
  go_wp2_with fail
  refine (C2.out _).mono ?_
  rintro e w2 ⟨rfl, hb⟩
  clear b0 b1 bf0 bf1 blt
  have R := R.keep hb
  obtain ⟨a0, a1, af0, af1, alt⟩ := A.keep hb
  obtain ⟨b0, b1, bf0, bf1, blt⟩ := B.keep hb
  have HB := Lib.hid (bstep HB.out hb)
  clear hb A B
  go_upto_region 3 with fail
  go_region
  clear a0 a1 af0 af1 alt b0 b1 bf0 bf1 blt
  obtain ⟨r0, r1, rf0, rf1, rlt⟩ := id R
  obtain ⟨s0, s1⟩ := set2 r0 r1 (.int .i64 0) (.int .i64 0)
  go_wp2_with fail
  refine bodyPost_ret (v := .tuple #[.agg #[.int .i64 (0), .int .i64 (0)], .int .i64 (23)]) (by simp [results, Tryd.results47, go_sem, s0, s1]) rfl ⟨rfl, ?_⟩
  exact below_set2 HB.out.drew (by omega) _ _
set_option maxHeartbeats 1000000 in
theorem pMeet_o01 (a b c d : Int) (w : World) (h : fok a b = true) (k : fok c d = true) (ka : a < c) (kb : b ≤ d) (hc : ¬ c > b) :
    Calls Tryd.prog 47 #[.agg #[.int .i64 a, .int .i64 b], .agg #[.int .i64 c, .int .i64 d]] w fun e w' => e = .returned (vR ⟨c, b, 0⟩) ∧ Below w.heap.size w w' := by
  obtain ⟨A, B, R⟩ := At2.three w (.int .i64 a) (.int .i64 b) (.int .i64 c) (.int .i64 d) (.int .i64 0) (.int .i64 0) 23 23 23
  have C1 := Lib.hid (fun wx => pValid_is a b true h wx)
  have C2 := Lib.hid (fun wx => pValid_is c d true k wx)
  obtain ⟨h1, h2, h3⟩ := (fok_iff _ _).1 h
  obtain ⟨k1, k2, k3⟩ := (fok_iff _ _).1 k
  obtain ⟨a0, a1, af0, af1, alt⟩ := id A
  clear h k
  have C := Lib.hid (fun wx => pFit c b wx (by omega))
  rw [fit_yes (by omega)] at C
  unfold vR at *
  clear h1 h2 h3 k1 k2 k3
  go_enter Tryd.func47, Tryd.ntmps47
  go_wp2_with fail
  refine (C1.out _).mono ?_
  rintro e w1 ⟨rfl, hb⟩
  have A := A.keep hb
  have B := B.keep hb
  have R := R.keep hb
  have HB := Lib.hid (bel3 hb)
  clear hb a0 a1 af0 af1 alt
  obtain ⟨b0, b1, bf0, bf1, blt⟩ := id B
  go_wp2_with fail
  refine (C2.out _).mono ?_
  rintro e w2 ⟨rfl, hb⟩
  clear b0 b1 bf0 bf1 blt
  have R := R.keep hb
  obtain ⟨a0, a1, af0, af1, alt⟩ := A.keep hb
  obtain ⟨b0, b1, bf0, bf1, blt⟩ := B.keep hb
  have HB := Lib.hid (bstep HB.out hb)
  clear hb A B
  go_upto_region 3 with fail
  go_region
  clear a0 a1 af0 af1 alt b0 b1 bf0 bf1 blt
  go_wp2_with fail
  refine (C.out _).mono ?_
  rintro e w3 ⟨rfl, hb⟩
  have HB := Lib.hid (bstep HB.out.drew hb)
  obtain ⟨r0, r1, rf0, rf1, rlt⟩ := (R.keep (Below.refl _ _).drew).keep hb
  clear hb
  obtain ⟨s0, s1⟩ := set2 r0 r1 (.int .i64 (c)) (.int .i64 (b))
  go_wp2_with fail
  refine bodyPost_ret (v := .tuple #[.agg #[.int .i64 (c), .int .i64 (b)], .int .i64 (0)]) (by simp [results, Tryd.results47, go_sem, s0, s1]) rfl ⟨rfl, ?_⟩
  exact below_set2 HB.out (by omega) _ _

set_option maxHeartbeats 1000000 in
theorem pMeet_m10 (a b c d : Int) (w : World) (h : fok a b = true) (k : fok c d = true) (ka : c ≤ a) (kb : d < b) (hc : a > d) :
    Calls Tryd.prog 47 #[.agg #[.int .i64 a, .int .i64 b], .agg #[.int .i64 c, .int .i64 d]] w fun e w' => e = .returned (vR ⟨0, 0, 23⟩) ∧ Below w.heap.size w w' := by
  obtain ⟨A, B, R⟩ := At2.three w (.int .i64 a) (.int .i64 b) (.int .i64 c) (.int .i64 d) (.int .i64 0) (.int .i64 0) 23 23 23
  have C1 := Lib.hid (fun wx => pValid_is a b true h wx)
  have C2 := Lib.hid (fun wx => pValid_is c d true k wx)
  obtain ⟨h1, h2, h3⟩ := (fok_iff _ _).1 h
  obtain ⟨k1, k2, k3⟩ := (fok_iff _ _).1 k
  obtain ⟨a0, a1, af0, af1, alt⟩ := id A
  clear h k
  unfold vR
  clear h1 h2 h3 k1 k2 k3
  go_enter Tryd.func47, Tryd.ntmps47
  go_wp2_with fail
  refine (C1.out _).mono ?_
  rintro e w1 ⟨rfl, hb⟩
  have A := A.keep hb
  have B := B.keep hb
  have R := R.keep hb
  have HB := Lib.hid (bel3 hb)
  clear hb a0 a1 af0 af1 alt
  obtain ⟨b0, b1, bf0, bf1, blt⟩ := id B
  go_wp2_with fail
  refine (C2.out _).mono ?_
  rintro e w2 ⟨rfl, hb⟩
  clear b0 b1 bf0 bf1 blt
  have R := R.keep hb
  obtain ⟨a0, a1, af0, af1, alt⟩ := A.keep hb
  obtain ⟨b0, b1, bf0, bf1, blt⟩ := B.keep hb
  have HB := Lib.hid (bstep HB.out hb)
  clear hb A B
  go_upto_region 3 with fail
  go_region
  clear a0 a1 af0 af1 alt b0 b1 bf0 bf1 blt
  obtain ⟨r0, r1, rf0, rf1, rlt⟩ := id R
  obtain ⟨s0, s1⟩ := set2 r0 r1 (.int .i64 0) (.int .i64 0)
  go_wp2_with fail
  refine bodyPost_ret (v := .tuple #[.agg #[.int .i64 (0), .int .i64 (0)], .int .i64 (23)]) (by simp [results, Tryd.results47, go_sem, s0, s1]) rfl ⟨rfl, ?_⟩
  exact below_set2 HB.out.drew (by omega) _ _
set_option maxHeartbeats 1000000 in
theorem pMeet_o10 (a b c d : Int) (w : World) (h : fok a b = true) (k : fok c d = true) (ka : c ≤ a) (kb : d < b) (hc : ¬ a > d) :
    Calls Tryd.prog 47 #[.agg #[.int .i64 a, .int .i64 b], .agg #[.int .i64 c, .int .i64 d]] w fun e w' => e = .returned (vR ⟨a, d, 0⟩) ∧ Below w.heap.size w w' := by
  obtain ⟨A, B, R⟩ := At2.three w (.int .i64 a) (.int .i64 b) (.int .i64 c) (.int .i64 d) (.int .i64 0) (.int .i64 0) 23 23 23
  have C1 := Lib.hid (fun wx => pValid_is a b true h wx)
  have C2 := Lib.hid (fun wx => pValid_is c d true k wx)
  obtain ⟨h1, h2, h3⟩ := (fok_iff _ _).1 h
  obtain ⟨k1, k2, k3⟩ := (fok_iff _ _).1 k
  obtain ⟨a0, a1, af0, af1, alt⟩ := id A
  clear h k
  have C := Lib.hid (fun wx => pFit a d wx (by omega))
  rw [fit_yes (by omega)] at C
  unfold vR at *
  clear h1 h2 h3 k1 k2 k3
  go_enter Tryd.func47, Tryd.ntmps47
  go_wp2_with fail
  refine (C1.out _).mono ?_
  rintro e w1 ⟨rfl, hb⟩
  have A := A.keep hb
  have B := B.keep hb
  have R := R.keep hb
  have HB := Lib.hid (bel3 hb)
  clear hb a0 a1 af0 af1 alt
  obtain ⟨b0, b1, bf0, bf1, blt⟩ := id B
  go_wp2_with fail
  refine (C2.out _).mono ?_
  rintro e w2 ⟨rfl, hb⟩
  clear b0 b1 bf0 bf1 blt
  have R := R.keep hb
  obtain ⟨a0, a1, af0, af1, alt⟩ := A.keep hb
  obtain ⟨b0, b1, bf0, bf1, blt⟩ := B.keep hb
  have HB := Lib.hid (bstep HB.out hb)
  clear hb A B
  go_upto_region 3 with fail
  go_region
  clear a0 a1 af0 af1 alt b0 b1 bf0 bf1 blt
  go_wp2_with fail
  refine (C.out _).mono ?_
  rintro e w3 ⟨rfl, hb⟩
  have HB := Lib.hid (bstep HB.out.drew hb)
  obtain ⟨r0, r1, rf0, rf1, rlt⟩ := (R.keep (Below.refl _ _).drew).keep hb
  clear hb
  obtain ⟨s0, s1⟩ := set2 r0 r1 (.int .i64 (a)) (.int .i64 (d))
  go_wp2_with fail
  refine bodyPost_ret (v := .tuple #[.agg #[.int .i64 (a), .int .i64 (d)], .int .i64 (0)]) (by simp [results, Tryd.results47, go_sem, s0, s1]) rfl ⟨rfl, ?_⟩
  exact below_set2 HB.out (by omega) _ _

set_option maxHeartbeats 1000000 in
theorem pMeet_m11 (a b c d : Int) (w : World) (h : fok a b = true) (k : fok c d = true) (ka : c ≤ a) (kb : b ≤ d) (hc : a > b) :
    Calls Tryd.prog 47 #[.agg #[.int .i64 a, .int .i64 b], .agg #[.int .i64 c, .int .i64 d]] w fun e w' => e = .returned (vR ⟨0, 0, 23⟩) ∧ Below w.heap.size w w' := by
  obtain ⟨A, B, R⟩ := At2.three w (.int .i64 a) (.int .i64 b) (.int .i64 c) (.int .i64 d) (.int .i64 0) (.int .i64 0) 23 23 23
  have C1 := Lib.hid (fun wx => pValid_is a b true h wx)
  have C2 := Lib.hid (fun wx => pValid_is c d true k wx)
  obtain ⟨h1, h2, h3⟩ := (fok_iff _ _).1 h
  obtain ⟨k1, k2, k3⟩ := (fok_iff _ _).1 k
  obtain ⟨a0, a1, af0, af1, alt⟩ := id A
  clear h k
  unfold vR
  clear h1 h2 h3 k1 k2 k3
  go_enter Tryd.func47, Tryd.ntmps47
  go_wp2_with fail
  refine (C1.out _).mono ?_
  rintro e w1 ⟨rfl, hb⟩
  have A := A.keep hb
  have B := B.keep hb
  have R := R.keep hb
  have HB := Lib.hid (bel3 hb)
  clear hb a0 a1 af0 af1 alt
  obtain ⟨b0, b1, bf0, bf1, blt⟩ := id B
  go_wp2_with fail
  refine (C2.out _).mono ?_
  rintro e w2 ⟨rfl, hb⟩
  clear b0 b1 bf0 bf1 blt
  have R := R.keep hb
  obtain ⟨a0, a1, af0, af1, alt⟩ := A.keep hb
  obtain ⟨b0, b1, bf0, bf1, blt⟩ := B.keep hb
  have HB := Lib.hid (bstep HB.out hb)
  clear hb A B
  go_upto_region 3 with fail
  go_region
  clear a0 a1 af0 af1 alt b0 b1 bf0 bf1 blt
  obtain ⟨r0, r1, rf0, rf1, rlt⟩ := id R
  obtain ⟨s0, s1⟩ := set2 r0 r1 (.int .i64 0) (.int .i64 0)
  go_wp2_with fail
  refine bodyPost_ret (v := .tuple #[.agg #[.int .i64 (0), .int .i64 (0)], .int .i64 (23)]) (by simp [results, Tryd.results47, go_sem, s0, s1]) rfl ⟨rfl, ?_⟩
  exact below_set2 HB.out.drew (by omega) _ _
set_option maxHeartbeats 1000000 in
theorem pMeet_o11 (a b c d : Int) (w : World) (h : fok a b = true) (k : fok c d = true) (ka : c ≤ a) (kb : b ≤ d) (hc : ¬ a > b) :
    Calls Tryd.prog 47 #[.agg #[.int .i64 a, .int .i64 b], .agg #[.int .i64 c, .int .i64 d]] w fun e w' => e = .returned (vR ⟨a, b, 0⟩) ∧ Below w.heap.size w w' := by
  obtain ⟨A, B, R⟩ := At2.three w (.int .i64 a) (.int .i64 b) (.int .i64 c) (.int .i64 d) (.int .i64 0) (.int .i64 0) 23 23 23
  have C1 := Lib.hid (fun wx => pValid_is a b true h wx)
  have C2 := Lib.hid (fun wx => pValid_is c d true k wx)
  obtain ⟨h1, h2, h3⟩ := (fok_iff _ _).1 h
  obtain ⟨k1, k2, k3⟩ := (fok_iff _ _).1 k
  obtain ⟨a0, a1, af0, af1, alt⟩ := id A
  clear h k
  have C := Lib.hid (fun wx => pFit a b wx (by omega))
  rw [fit_yes (by omega)] at C
  unfold vR at *
  clear h1 h2 h3 k1 k2 k3
  go_enter Tryd.func47, Tryd.ntmps47
  go_wp2_with fail
  refine (C1.out _).mono ?_
  rintro e w1 ⟨rfl, hb⟩
  have A := A.keep hb
  have B := B.keep hb
  have R := R.keep hb
  have HB := Lib.hid (bel3 hb)
  clear hb a0 a1 af0 af1 alt
  obtain ⟨b0, b1, bf0, bf1, blt⟩ := id B
  go_wp2_with fail
  refine (C2.out _).mono ?_
  rintro e w2 ⟨rfl, hb⟩
  clear b0 b1 bf0 bf1 blt
  have R := R.keep hb
  obtain ⟨a0, a1, af0, af1, alt⟩ := A.keep hb
  obtain ⟨b0, b1, bf0, bf1, blt⟩ := B.keep hb
  have HB := Lib.hid (bstep HB.out hb)
  clear hb A B
  go_upto_region 3 with fail
  go_region
  clear a0 a1 af0 af1 alt b0 b1 bf0 bf1 blt
  go_wp2_with fail
  refine (C.out _).mono ?_
  rintro e w3 ⟨rfl, hb⟩
  have HB := Lib.hid (bstep HB.out.drew hb)
  obtain ⟨r0, r1, rf0, rf1, rlt⟩ := (R.keep (Below.refl _ _).drew).keep hb
  clear hb
  obtain ⟨s0, s1⟩ := set2 r0 r1 (.int .i64 (a)) (.int .i64 (b))
  go_wp2_with fail
  refine bodyPost_ret (v := .tuple #[.agg #[.int .i64 (a), .int .i64 (b)], .int .i64 (0)]) (by simp [results, Tryd.results47, go_sem, s0, s1]) rfl ⟨rfl, ?_⟩
  exact below_set2 HB.out (by omega) _ _

theorem pMeet_ok (a b c d : Int) (w : World) (h : fok a b = true) (k : fok c d = true) :
    Calls Tryd.prog 47 #[.agg #[.int .i64 a, .int .i64 b], .agg #[.int .i64 c, .int .i64 d]] w fun e w' => e = .returned (vR (meetR a b c d)) ∧ Below w.heap.size w w' := by
  unfold meetR
  rcases Int.lt_or_le a c with ka | ka
  · rw [show max a c = c by omega]
    rcases Int.lt_or_le d b with kb | kb
    · rw [show min b d = d by omega]
      by_cases hc : c > d
      · rw [if_pos hc]; exact pMeet_m00 a b c d w h k ka kb hc
      · rw [if_neg hc]; exact pMeet_o00 a b c d w h k ka kb hc
    · rw [show min b d = b by omega]
      by_cases hc : c > b
      · rw [if_pos hc]; exact pMeet_m01 a b c d w h k ka kb hc
      · rw [if_neg hc]; exact pMeet_o01 a b c d w h k ka kb hc
  · rw [show max a c = a by omega]
    rcases Int.lt_or_le d b with kb | kb
    · rw [show min b d = d by omega]
      by_cases hc : a > d
      · rw [if_pos hc]; exact pMeet_m10 a b c d w h k ka kb hc
      · rw [if_neg hc]; exact pMeet_o10 a b c d w h k ka kb hc
    · rw [show min b d = b by omega]
      by_cases hc : a > b
      · rw [if_pos hc]; exact pMeet_m11 a b c d w h k ka kb hc
      · rw [if_neg hc]; exact pMeet_o11 a b c d w h k ka kb hc
end Go.Proofs.YtndcjldnnfhedaaDoor.fr
namespace Go.Proofs.YtndcjldnnfhedaaDoor
open Go.RowKit
set_option linter.unusedVariables false
/-- the part of an interval from some number up to 1 -/
def paE (a b m : Int) : Int := if fok a b = true then (if max a m > min b 1073741824 then 2 else 0) else 1
def paL (a b m : Int) : Int := if paE a b m = 0 then max a m else 0
def paH (a b m : Int) : Int := if paE a b m = 0 then min b 1073741824 else 0
theorem part_miss (a b m l h e : Int) (w : World) 
    (C0 : Hid (∀ wx, Calls Tryd.prog 47 #[.agg #[.int .i64 a, .int .i64 b], .agg #[.int .i64 m, .int .i64 1073741824]] wx fun e' w' => e' = .returned (.tuple #[.agg #[.int .i64 l, .int .i64 h], .int .i64 23]) ∧ Below wx.heap.size wx w')) :
    Calls Tryd.prog 35 #[.agg #[.int .i64 a, .int .i64 b], .int .i64 m] w fun e' w' => e' = .returned (.tuple #[.agg #[.int .i64 l, .int .i64 h], .int .i64 2]) ∧ Below w.heap.size w w' := by
  obtain ⟨A, R⟩ := At2.two w (.int .i64 a) (.int .i64 b) (.int .i64 0) (.int .i64 0) 23 23
  have HB := Lib.hid (below2 w (.cells #[.int .i64 a, .int .i64 b] 23) (.cells #[.int .i64 0, .int .i64 0] 23))
  obtain ⟨A0, A1, -, -, -⟩ := id A
  go_enter Tryd.func35, Tryd.ntmps35
  go_wp2_with fail
  refine (C0.out _).mono ?_
  rintro e' w1 ⟨rfl, hb⟩
  clear A0 A1
  have A := A.keep hb
  have R := R.keep hb
  have HB := Lib.hid (bstep HB.out hb)
  clear hb
  obtain ⟨A0, A1, F0, F1, -⟩ := id A
  go_upto_region 2 with fail
  have A := A.put (.int .i64 l) (.int .i64 h)
  have R := R.far (show w.heap.size + 1 ≠ w.heap.size by omega) (.int .i64 l) (.int .i64 h)
  have HB := Lib.hid (below_set2 HB.out (Nat.le_refl _) (.int .i64 l) (.int .i64 h))
  clear A0 A1 F0 F1
  obtain ⟨A0, A1, -, -, -⟩ := id A
  obtain ⟨R0, R1, R2, R3, -⟩ := id R
  obtain ⟨z0, z1⟩ := set2 R0 R1 (.int .i64 l) (.int .i64 h)
  go_wp2_with fail
  refine bodyPost_ret (v := .tuple #[.agg #[.int .i64 l, .int .i64 h], .int .i64 2]) (by simp [results, Tryd.results35, go_sem, z0, z1]) rfl ⟨rfl, ?_⟩
  exact below_set2 HB.out (by omega) _ _
theorem part_ok (a b m l h e : Int) (w : World) (he : (e == 23) = false)
    (C0 : Hid (∀ wx, Calls Tryd.prog 47 #[.agg #[.int .i64 a, .int .i64 b], .agg #[.int .i64 m, .int .i64 1073741824]] wx fun e' w' => e' = .returned (.tuple #[.agg #[.int .i64 l, .int .i64 h], .int .i64 e]) ∧ Below wx.heap.size wx w')) :
    Calls Tryd.prog 35 #[.agg #[.int .i64 a, .int .i64 b], .int .i64 m] w fun e' w' => e' = .returned (.tuple #[.agg #[.int .i64 l, .int .i64 h], .int .i64 e]) ∧ Below w.heap.size w w' := by
  obtain ⟨A, R⟩ := At2.two w (.int .i64 a) (.int .i64 b) (.int .i64 0) (.int .i64 0) 23 23
  have HB := Lib.hid (below2 w (.cells #[.int .i64 a, .int .i64 b] 23) (.cells #[.int .i64 0, .int .i64 0] 23))
  obtain ⟨A0, A1, -, -, -⟩ := id A
  go_enter Tryd.func35, Tryd.ntmps35
  go_wp2_with fail
  refine (C0.out _).mono ?_
  rintro e' w1 ⟨rfl, hb⟩
  clear A0 A1
  have A := A.keep hb
  have R := R.keep hb
  have HB := Lib.hid (bstep HB.out hb)
  clear hb
  obtain ⟨A0, A1, F0, F1, -⟩ := id A
  go_upto_region 2 with fail
  have A := A.put (.int .i64 l) (.int .i64 h)
  have R := R.far (show w.heap.size + 1 ≠ w.heap.size by omega) (.int .i64 l) (.int .i64 h)
  have HB := Lib.hid (below_set2 HB.out (Nat.le_refl _) (.int .i64 l) (.int .i64 h))
  clear A0 A1 F0 F1
  obtain ⟨A0, A1, -, -, -⟩ := id A
  obtain ⟨R0, R1, R2, R3, -⟩ := id R
  obtain ⟨z0, z1⟩ := set2 R0 R1 (.int .i64 l) (.int .i64 h)
  go_wp2_with fail
  refine bodyPost_ret (v := .tuple #[.agg #[.int .i64 l, .int .i64 h], .int .i64 e]) (by simp [results, Tryd.results35, go_sem, z0, z1]) rfl ⟨rfl, ?_⟩
  exact below_set2 HB.out (by omega) _ _
theorem part_any (a b m : Int) (w : World) (m1 : -2147483648 ≤ m) (m2 : m ≤ 1073741824) :
    Calls Tryd.prog 35 #[.agg #[.int .i64 a, .int .i64 b], .int .i64 m] w fun e' w' => e' = .returned (.tuple #[.agg #[.int .i64 (paL a b m), .int .i64 (paH a b m)], .int .i64 (paE a b m)]) ∧ Below w.heap.size w w' := by
  have k : fok m 1073741824 = true := (fok_iff _ _).2 (by omega)
  unfold paL paH paE
  rcases Bool.eq_false_or_eq_true (fok a b) with h | h
  · rw [if_pos h]
    by_cases c : max a m > min b 1073741824
    · rw [if_pos c, if_neg (by decide), if_neg (by decide)]
      refine part_miss a b m 0 0 0 w (Lib.hid fun wx => ?_)
      have C := fr.pMeet_ok a b m 1073741824 wx h k
      rwa [show meetR a b m 1073741824 = ⟨0, 0, 23⟩ from if_pos c] at C
    · rw [if_neg c, if_pos rfl, if_pos rfl]
      refine part_ok a b m (max a m) (min b 1073741824) 0 w rfl (Lib.hid fun wx => ?_)
      have C := fr.pMeet_ok a b m 1073741824 wx h k
      rwa [show meetR a b m 1073741824 = ⟨max a m, min b 1073741824, 0⟩ from if_neg c] at C
  · have hf : ¬ fok a b = true := by rw [h]; exact Bool.false_ne_true
    rw [if_neg hf, if_neg (show ¬ (1 : Int) = 0 by decide), if_neg (show ¬ (1 : Int) = 0 by decide)]
    exact part_ok a b m 0 0 1 w rfl (Lib.hid fun wx => fr.pMeet_bad1 a b m 1073741824 wx h)
end Go.Proofs.YtndcjldnnfhedaaDoor

/- Arctrig: the program's search around an angle, and its arcsine. -/
namespace Go.Proofs.YtndcjldnnfhedaaDoor
open Go.RowKit
set_option linter.unusedVariables false
set_option maxRecDepth 100000

/-- what the search knows: the sine of the lower angle is less, that of the upper one greater, but at the ends -/
structure Sr (v l u : Int) : Prop where
  a : -5400001 ≤ l
  b : l < u
  c : u ≤ 5400001
  d : l = -5400001 ∨ blN l v < 0
  e : u = 5400001 ∨ 0 < blN u v
theorem Sr.zero (v : Int) : Sr v (-5400001) 5400001 := ⟨by omega, by omega, by omega, .inl rfl, .inl rfl⟩
theorem bln_zero {n v : Int} (h : blN n v = 0) : L6.lo n = v ∧ L6.hi n = v := by
  have a := bln_le n v
  have b := bln_ge n v
  have c := L6.lo_le_hi n
  refine ⟨?_, ?_⟩ <;> (rcases Int.lt_or_le v (L6.hi n) with k | k <;> rcases Int.lt_or_le (L6.lo n) v with k' | k' <;> omega)
theorem a_exact {n v : Int} (h1 : -5400000 ≤ n) (h2 : n ≤ 5400000) (h : blN n v = 0) : L6.aLo v = n ∧ L6.aHi v = n := by
  obtain ⟨a, b⟩ := bln_zero h
  obtain ⟨e1, e2⟩ := L6.lo_neg n (L6.ok_q (by omega) (by omega))
  refine ⟨L6.aF_eq ⟨h1, h2, by omega, ?_⟩, ?_⟩
  · rcases (show n = 5400000 ∨ n < 5400000 by omega) with c | c
    · exact .inl c
    · exact .inr (by have := L6.lo_next h1 c; omega)
  · have : L6.aF (-v) = -n := L6.aF_eq ⟨by omega, by omega, by omega, ?_⟩
    · unfold L6.aHi; omega
    · rcases (show n = -5400000 ∨ -5400000 < n by omega) with c | c
      · exact .inl (by omega)
      · refine .inr ?_
        obtain ⟨f1, f2⟩ := L6.lo_neg (n - 1) (L6.ok_q (by omega) (by omega))
        have := L6.lo_next (n := n - 1) (by omega) (by omega)
        rw [show -n + 1 = -(n - 1) by omega]
        rw [show n - 1 + 1 = n by omega] at this
        omega
theorem hi_top : L6.lo 5400000 = 1073741824 ∧ L6.hi 5400000 = 1073741824 := by
  have e := L6.quarter_pt 5400000 0 (by omega)
  have x : L6.ex 5400000 = true := by decide
  have : L6.hi 5400000 = L6.lo 5400000 := by unfold L6.hi L6.lo; rw [if_pos x]
  omega
theorem Sr.fin {v l u : Int} (v1 : -1073741824 ≤ v) (v2 : v ≤ 1073741824) (h : Sr v l u) (k : u = l + 1) : L6.aLo v = l ∧ L6.aHi v = u := by
  obtain ⟨a, b, c, d, e⟩ := h
  subst k
  have lb : l ≠ -5400001 := fun x => by
    subst x
    rcases e with e | e
    · omega
    · have := (bln_le (-5400000) v).1 (by rw [L6.hi_bottom]; omega)
      rw [show (-5400001 : Int) + 1 = -5400000 by omega] at e
      omega
  have ub : l + 1 ≠ 5400001 := fun x => by
    have : l = 5400000 := by omega
    subst this
    rcases d with d | d
    · omega
    · have := (bln_ge 5400000 v).1 (by rw [hi_top.1]; omega)
      omega
  have d := d.resolve_left lb
  have e := e.resolve_left ub
  have p1 := bln_le l v
  have p2 := bln_ge l v
  have q1 := bln_le (l + 1) v
  have q2 := bln_ge (l + 1) v
  have r1 : L6.hi l ≤ v := by refine Classical.byContradiction fun x => ?_; have := p1.2.1 (by omega); omega
  have r2 : L6.lo l < v := by refine Classical.byContradiction fun x => ?_; have := p2.1 (by omega); omega
  have r3 : v < L6.hi (l + 1) := by refine Classical.byContradiction fun x => ?_; have := q1.1 (by omega); omega
  have r4 : v ≤ L6.lo (l + 1) := by refine Classical.byContradiction fun x => ?_; have := q2.2 (by omega); omega
  refine ⟨L6.aF_eq ⟨by omega, by omega, r1, .inr r3⟩, ?_⟩
  obtain ⟨f1, f2⟩ := L6.lo_neg (l + 1) (L6.ok_q (by omega) (by omega))
  obtain ⟨g1, g2⟩ := L6.lo_neg l (L6.ok_q (by omega) (by omega))
  have : L6.aF (-v) = -(l + 1) := L6.aF_eq ⟨by omega, by omega, by omega, .inr (by rw [show -(l + 1) + 1 = -l by omega]; omega)⟩
  unfold L6.aHi
  omega
theorem clo_any (n v : Int) (g : Nat) (w0 w : World) (P : TrProg w0) (h0 : Below w0.heap.size w0 w) (n1 : I64 n) (v1 : I64 v) (cv : w.cell? ⟨g, 0, none⟩ = some (.int .i64 v)) :
    Calls Tryd.prog 49 #[.int .i64 n, .pointer (some ⟨g, 0, none⟩)] w fun e w' => e = .returned (.int .i64 (blN n v)) ∧ Below w.heap.size w w' := by
  have C := Lib.hid (P.below n v w h0 n1 v1)
  go_enter Tryd.func49, Tryd.ntmps49
  go_wp2_with fail
  refine C.out.mono ?_
  rintro e w1 ⟨rfl, hb⟩
  go_wp2_with fail
  go_ret
  exact ⟨rfl, hb⟩
set_option maxHeartbeats 1000000 in
theorem around_a (v : Int) (g : Nat) (w0 w : World) (P : TrProg w0) (h0 : Below w0.heap.size w0 w) (v1 : -1073741824 ≤ v) (v2 : v ≤ 1073741824) (cv : w.cell? ⟨g, 0, none⟩ = some (.int .i64 v)) :
    Calls Tryd.prog 48 #[.int .i64 (-5400001), .int .i64 5400001, .func (.func 49) #[] #[.pointer (some ⟨g, 0, none⟩)]] w fun e w' => e = .returned (.tuple #[.int .i64 (L6.aLo v), .int .i64 (L6.aHi v)]) ∧ Below w.heap.size w w' := by
  have gl := World.block_lt_of_cell? _ _ cv
  have C := Lib.hid (fun (n : Int) (wx : World) (hb : Below w.heap.size w wx) (k : I64 n) => clo_any n v g w0 wx P (bstep h0 hb) k ⟨by omega, by omega⟩ ((hb.cell (p := ⟨g, 0, none⟩) gl).trans cv))
  have HB := Lib.hid (Below.refl w.heap.size w)
  have V := Lib.hid (And.intro v1 v2)
  clear P h0 v1 v2 cv gl
  go_enter Tryd.func48, Tryd.ntmps48
  go_wp2_with fail
  go_loopg [0, 1] 10800002 (fun m x y wr => ∃ l u : Int, m = (u - l).toNat ∧ x = .int .i64 l ∧ y = .int .i64 u ∧ Hid (Sr v l u) ∧ Hid (Below w.heap.size w wr))
  case atStart => exact ⟨-5400001, 5400001, rfl, rfl, rfl, Sr.zero v, HB⟩
  case round =>
    obtain ⟨l, u, hm, rfl, rfl, HS, HB⟩ := hrel
    have HM := Lib.hid hm
    clear hm
    obtain ⟨s1, s2, s3, -, -⟩ := HS.out
    obtain ⟨d, hd⟩ : ∃ d, u - l = d := ⟨_, rfl⟩
    by_cases c : d > 1
    · obtain ⟨q, hq⟩ : ∃ q, d.tdiv 2 = q := ⟨_, rfl⟩
      obtain ⟨m, hm⟩ : ∃ m, l + q = m := ⟨_, rfl⟩
      have q1 : d.tdiv 2 = d / 2 := Int.tdiv_eq_ediv_of_nonneg (by omega)
      have m1 : l < m := by omega
      have m2 : m < u := by omega
      have q2 : q ≤ 10800002 := by omega
      have q3 : 0 ≤ q := by omega
      have KB := Lib.hid (C.out m wr HB.out ⟨by omega, by omega⟩)
      obtain ⟨r, hr⟩ : ∃ r, blN m v = r := ⟨_, rfl⟩
      rw [hr] at KB
      have HR := Lib.hid hr
      have M := Lib.hid (And.intro m1 m2)
      have d1 : d ≤ 10800002 := by omega
      have m3 : -5400001 ≤ m := by omega
      have m4 : m ≤ 5400001 := by omega
      clear hr q1 m1 m2
      have HD := Lib.hid hd
      rcases (show r = 0 ∨ r < 0 ∨ 0 < r by omega) with k | k | k
      · subst k
        go_wp2_with fail
        refine KB.out.mono ?_
        rintro e w1 ⟨rfl, hb⟩
        have HB := Lib.hid (bstep HB.out hb)
        clear hb
        go_wp2_with fail
        go_ret2
        have hs := HS.out
        obtain ⟨e1, e2⟩ := a_exact (n := m) (v := v) (by have := M.out; omega) (by have := M.out; omega) HR.out
        rw [e1, e2]
        exact ⟨rfl, HB.out⟩
      · have kz : ¬ r = 0 := by omega
        go_wp2_with fail
        refine KB.out.mono ?_
        rintro e w1 ⟨rfl, hb⟩
        have HB := Lib.hid (bstep HB.out hb)
        clear hb
        have hs := HS.out
        have mm := M.out
        have S' := Lib.hid (show Sr v m u from ⟨by omega, by omega, by omega, .inr (by have := HR.out; omega), hs.e⟩)
        clear hs mm
        go_wp2_with fail
        go_roundg ((u - m).toNat)
        case measure => have := HM.out; have := M.out; omega
        case rel => exact ⟨m, u, rfl, rfl, rfl, S', HB⟩
      · have kz : ¬ r = 0 := by omega
        have kn : ¬ r < 0 := by omega
        go_wp2_with fail
        refine KB.out.mono ?_
        rintro e w1 ⟨rfl, hb⟩
        have HB := Lib.hid (bstep HB.out hb)
        clear hb
        have hs := HS.out
        have mm := M.out
        have S' := Lib.hid (show Sr v l m from ⟨by omega, by omega, by omega, hs.d, .inr (by have := HR.out; omega)⟩)
        clear hs mm
        go_wp2_with fail
        go_roundg ((m - l).toNat)
        case measure => have := HM.out; have := M.out; omega
        case rel => exact ⟨l, m, rfl, rfl, rfl, S', HB⟩
    · have e : u = l + 1 := by omega
      have HE := Lib.hid e
      clear e
      go_wp2_with fail
      go_ret2
      obtain ⟨e1, e2⟩ := HS.out.fin V.out.1 V.out.2 HE.out
      rw [e1, e2]
      exact ⟨rfl, HB.out⟩
theorem arcsine_any (v : Int) (w0 w : World) (P : TrProg w0) (h0 : Below w0.heap.size w0 w) (v1 : -1073741824 ≤ v) (v2 : v ≤ 1073741824) :
    Calls Tryd.prog 36 #[.int .i64 v] w fun e w' => e = .returned (.tuple #[.int .i64 (L6.aLo v), .int .i64 (L6.aHi v)]) ∧ Below w.heap.size w w' := by
  have cv : (w.alloc (.cells #[.int .i64 v] 3)).cell? ⟨w.heap.size, 0, none⟩ = some (.int .i64 v) := by simp
  have hmf : ∀ (fn : Fn) (first cap : Array Value) (w : World), (Instr.makeFunc fn first cap).run Tryd.prog w = .ok (.func fn first cap) w := fun _ _ _ _ => rfl
  have B1 := below1 w (.cells #[.int .i64 v] 3)
  have C := Lib.hid (around_a v w.heap.size w0 _ P (bstep h0 B1) v1 v2 cv)
  have HB := Lib.hid B1
  clear P h0 B1 v1 v2
  go_enter Tryd.func36, Tryd.ntmps36
  go_wp2_with fail
  refine C.out.mono ?_
  rintro e w1 ⟨rfl, hb⟩
  have HB := Lib.hid (bstep HB.out hb)
  clear hb
  go_wp2_with fail
  go_ret2
  exact ⟨rfl, HB.out⟩
end Go.Proofs.YtndcjldnnfhedaaDoor

/- Arctrig: the program's Asin, Acos, Ahav. -/
namespace Go.Proofs.YtndcjldnnfhedaaDoor
open Go.RowKit
set_option linter.unusedVariables false
set_option maxRecDepth 100000

theorem pa_in {a b m : Int} (h : paE a b m = 0) (m1 : -1073741824 ≤ m) : -1073741824 ≤ paL a b m ∧ paL a b m ≤ paH a b m ∧ paH a b m ≤ 1073741824 ∧ m ≤ paL a b m ∧ paL a b m = max a m ∧ paH a b m = min b 1073741824 := by
  unfold paL paH
  rw [if_pos h, if_pos h]
  unfold paE at h
  by_cases k : fok a b = true
  · rw [if_pos k] at h
    by_cases c : max a m > min b 1073741824
    · rw [if_pos c] at h; omega
    · omega
  · rw [if_neg k] at h; omega
theorem asin_bad (a b l h er : Int) (w : World) (he : (er == 0) = false)
    (C0 : Hid (∀ wx, Calls Tryd.prog 35 #[.agg #[.int .i64 a, .int .i64 b], .int .i64 (-1073741824)] wx fun e' w' => e' = .returned (.tuple #[.agg #[.int .i64 l, .int .i64 h], .int .i64 er]) ∧ Below wx.heap.size wx w')) :
    Calls Tryd.prog 16 #[.agg #[.int .i64 a, .int .i64 b]] w fun e w' => e = .returned (.tuple #[.agg #[.int .i64 0, .int .i64 0], .int .i64 er]) ∧ Below w.heap.size w w' := by
  obtain ⟨A, R⟩ := At2.two w (.int .i64 a) (.int .i64 b) (.int .i64 0) (.int .i64 0) 23 25
  have HB := Lib.hid (below2 w (.cells #[.int .i64 a, .int .i64 b] 23) (.cells #[.int .i64 0, .int .i64 0] 25))
  obtain ⟨A0, A1, -, -, -⟩ := id A
  go_enter Tryd.func16, Tryd.ntmps16
  go_wp2_with fail
  refine (C0.out _).mono ?_
  rintro e1 w1 ⟨rfl, hb⟩
  clear A0 A1
  have A := A.keep hb
  have R := R.keep hb
  have HB := Lib.hid (bstep HB.out hb)
  clear hb
  obtain ⟨A0, A1, F0, F1, -⟩ := id A
  go_upto_region 2 with fail
  have A := A.put (.int .i64 l) (.int .i64 h)
  have R := R.far (show w.heap.size + 1 ≠ w.heap.size by omega) (.int .i64 l) (.int .i64 h)
  have HB := Lib.hid (below_set2 HB.out (Nat.le_refl _) (.int .i64 l) (.int .i64 h))
  clear A0 A1 F0 F1
  obtain ⟨R0, R1, R2, R3, -⟩ := id R
  obtain ⟨z0, z1⟩ := set2 R0 R1 (.int .i64 (0)) (.int .i64 (0))
  go_wp2_with fail
  refine bodyPost_ret (v := .tuple #[.agg #[.int .i64 (0), .int .i64 (0)], .int .i64 (er)]) (by simp [results, Tryd.results16, go_sem, z0, z1]) rfl ⟨rfl, ?_⟩
  exact below_set2 HB.out (by omega) _ _
theorem asin_ok (a b l h u v : Int) (w : World)
    (C0 : Hid (∀ wx, Calls Tryd.prog 35 #[.agg #[.int .i64 a, .int .i64 b], .int .i64 (-1073741824)] wx fun e' w' => e' = .returned (.tuple #[.agg #[.int .i64 l, .int .i64 h], .int .i64 0]) ∧ Below wx.heap.size wx w'))
    (x y : Int)
    (C1 : Hid (∀ wx, Below w.heap.size w wx → Calls Tryd.prog 36 #[.int .i64 l] wx fun e' w' => e' = .returned (.tuple #[.int .i64 u, .int .i64 x]) ∧ Below wx.heap.size wx w'))
    (C2 : Hid (∀ wx, Below w.heap.size w wx → Calls Tryd.prog 36 #[.int .i64 h] wx fun e' w' => e' = .returned (.tuple #[.int .i64 y, .int .i64 v]) ∧ Below wx.heap.size wx w')) :
    Calls Tryd.prog 16 #[.agg #[.int .i64 a, .int .i64 b]] w fun e w' => e = .returned (.tuple #[.agg #[.int .i64 u, .int .i64 v], .int .i64 0]) ∧ Below w.heap.size w w' := by
  obtain ⟨A, R⟩ := At2.two w (.int .i64 a) (.int .i64 b) (.int .i64 0) (.int .i64 0) 23 25
  have HB := Lib.hid (below2 w (.cells #[.int .i64 a, .int .i64 b] 23) (.cells #[.int .i64 0, .int .i64 0] 25))
  obtain ⟨A0, A1, -, -, -⟩ := id A
  go_enter Tryd.func16, Tryd.ntmps16
  go_wp2_with fail
  refine (C0.out _).mono ?_
  rintro e1 w1 ⟨rfl, hb⟩
  clear A0 A1
  have A := A.keep hb
  have R := R.keep hb
  have HB := Lib.hid (bstep HB.out hb)
  clear hb
  obtain ⟨A0, A1, F0, F1, -⟩ := id A
  go_upto_region 2 with fail
  have A := A.put (.int .i64 l) (.int .i64 h)
  have R := R.far (show w.heap.size + 1 ≠ w.heap.size by omega) (.int .i64 l) (.int .i64 h)
  have HB := Lib.hid (below_set2 HB.out (Nat.le_refl _) (.int .i64 l) (.int .i64 h))
  clear A0 A1 F0 F1
  obtain ⟨A0, A1, -, -, -⟩ := id A
  go_wp2_with fail
  refine (C1.out _ HB.out).mono ?_
  rintro e2 w2 ⟨rfl, hb⟩
  clear A0 A1
  have A := A.keep hb
  have R := R.keep hb
  have HB := Lib.hid (bstep HB.out hb)
  clear hb
  obtain ⟨A0, A1, -, -, -⟩ := id A
  go_wp2_with fail
  refine (C2.out _ HB.out).mono ?_
  rintro e3 w3 ⟨rfl, hb⟩
  clear A0 A1
  have A := A.keep hb
  have R := R.keep hb
  have HB := Lib.hid (bstep HB.out hb)
  clear hb
  obtain ⟨R0, R1, R2, R3, -⟩ := id R
  obtain ⟨z0, z1⟩ := set2 R0 R1 (.int .i64 (u)) (.int .i64 (v))
  go_wp2_with fail
  refine bodyPost_ret (v := .tuple #[.agg #[.int .i64 (u), .int .i64 (v)], .int .i64 (0)]) (by simp [results, Tryd.results16, go_sem, z0, z1]) rfl ⟨rfl, ?_⟩
  exact below_set2 HB.out (by omega) _ _
theorem pAsin7 (a b : Int) (w0 w : World) (P : TrProg w0) (h0 : Below w0.heap.size w0 w) :
    Calls Tryd.prog 16 #[.agg #[.int .i64 a, .int .i64 b]] w fun e w' => e = .returned (tAr (asL a b) (asH a b) (aE a b)) ∧ Below w.heap.size w w' := by
  have C := fun wx => part_any a b (-1073741824) wx (by omega) (by omega)
  have e : paE a b (-1073741824) = aE a b := rfl
  unfold tAr
  by_cases k : aE a b = 0
  · have i := pa_in (a := a) (b := b) (m := -1073741824) (by rw [e]; exact k) (by omega)
    obtain ⟨i1, i2, i3, i4, i5, i6⟩ := i
    rw [e, k, i5, i6] at C
    rw [i5] at i1 i2
    rw [i6] at i2 i3
    have e1 : asL a b = L6.aLo (max a (-1073741824)) := by unfold asL; rw [if_pos k]
    have e2 : asH a b = L6.aHi (min b 1073741824) := by unfold asH; rw [if_pos k]
    rw [e1, e2, k]
    exact asin_ok a b _ _ _ _ w (Lib.hid C) _ _ (Lib.hid fun wx hb => arcsine_any _ w0 wx P (bstep h0 hb) i1 (by omega)) (Lib.hid fun wx hb => arcsine_any _ w0 wx P (bstep h0 hb) (by omega) i3)
  · have e1 : asL a b = 0 := by unfold asL; rw [if_neg k]
    have e2 : asH a b = 0 := by unfold asH; rw [if_neg k]
    rw [e1, e2]
    rw [e] at C
    exact asin_bad a b _ _ _ w (by simpa using k) (Lib.hid C)
theorem acos_bad (a b er : Int) (w : World) (he : (er == 0) = false)
    (C0 : Hid (∀ wx, Below w.heap.size w wx → Calls Tryd.prog 16 #[.agg #[.int .i64 a, .int .i64 b]] wx fun e' w' => e' = .returned (.tuple #[.agg #[.int .i64 0, .int .i64 0], .int .i64 er]) ∧ Below wx.heap.size wx w')) :
    Calls Tryd.prog 37 #[.agg #[.int .i64 a, .int .i64 b]] w fun e w' => e = .returned (.tuple #[.agg #[.int .i64 0, .int .i64 0], .int .i64 er]) ∧ Below w.heap.size w w' := by
  obtain ⟨A, R⟩ := At2.two w (.int .i64 a) (.int .i64 b) (.int .i64 0) (.int .i64 0) 23 25
  have HB := Lib.hid (below2 w (.cells #[.int .i64 a, .int .i64 b] 23) (.cells #[.int .i64 0, .int .i64 0] 25))
  obtain ⟨A0, A1, -, -, -⟩ := id A
  go_enter Tryd.func37, Tryd.ntmps37
  go_wp2_with fail
  refine (C0.out _ HB.out).mono ?_
  rintro e1 w1 ⟨rfl, hb⟩
  clear A0 A1
  have A := A.keep hb
  have R := R.keep hb
  have HB := Lib.hid (bstep HB.out hb)
  clear hb
  have R := R.alloc (.cells #[.int .i64 0, .int .i64 0] 25)
  have HB := Lib.hid (bstep HB.out (below1 w1 (.cells #[.int .i64 0, .int .i64 0] 25)))
  obtain ⟨R0, R1, R2, R3, -⟩ := id R
  obtain ⟨z0, z1⟩ := set2 R0 R1 (.int .i64 (0)) (.int .i64 (0))
  go_wp2_with fail
  refine bodyPost_ret (v := .tuple #[.agg #[.int .i64 (0), .int .i64 (0)], .int .i64 (er)]) (by simp [results, Tryd.results37, go_sem, z0, z1]) rfl ⟨rfl, ?_⟩
  exact below_set2 HB.out (by omega) _ _
theorem acos_ok (a b u v p q : Int) (w : World) (hp : 5400000 - v = p) (hq : 5400000 - u = q) (u1 : -5400000 ≤ u) (u2 : u ≤ 5400000) (v1 : -5400000 ≤ v) (v2 : v ≤ 5400000)
    (C0 : Hid (∀ wx, Below w.heap.size w wx → Calls Tryd.prog 16 #[.agg #[.int .i64 a, .int .i64 b]] wx fun e' w' => e' = .returned (.tuple #[.agg #[.int .i64 u, .int .i64 v], .int .i64 0]) ∧ Below wx.heap.size wx w')) :
    Calls Tryd.prog 37 #[.agg #[.int .i64 a, .int .i64 b]] w fun e w' => e = .returned (.tuple #[.agg #[.int .i64 p, .int .i64 q], .int .i64 0]) ∧ Below w.heap.size w w' := by
  obtain ⟨A, R⟩ := At2.two w (.int .i64 a) (.int .i64 b) (.int .i64 0) (.int .i64 0) 23 25
  have HB := Lib.hid (below2 w (.cells #[.int .i64 a, .int .i64 b] 23) (.cells #[.int .i64 0, .int .i64 0] 25))
  obtain ⟨A0, A1, -, -, -⟩ := id A
  go_enter Tryd.func37, Tryd.ntmps37
  go_wp2_with fail
  refine (C0.out _ HB.out).mono ?_
  rintro e1 w1 ⟨rfl, hb⟩
  clear A0 A1
  have A := A.keep hb
  have R := R.keep hb
  have HB := Lib.hid (bstep HB.out hb)
  clear hb
  have R := R.alloc (.cells #[.int .i64 u, .int .i64 v] 25)
  have N := At2.new w1 (.int .i64 u) (.int .i64 v) 25
  have HB := Lib.hid (bstep HB.out (below1 w1 (.cells #[.int .i64 u, .int .i64 v] 25)))
  obtain ⟨N0, N1, -, -, -⟩ := id N
  obtain ⟨R0, R1, R2, R3, -⟩ := id R
  obtain ⟨z0, z1⟩ := set2 R0 R1 (.int .i64 (p)) (.int .i64 (q))
  go_wp2_with fail
  refine bodyPost_ret (v := .tuple #[.agg #[.int .i64 (p), .int .i64 (q)], .int .i64 (0)]) (by simp [results, Tryd.results37, go_sem, z0, z1]) rfl ⟨rfl, ?_⟩
  exact below_set2 HB.out (by omega) _ _
theorem as_in {a b : Int} (k : aE a b = 0) : -5400000 ≤ asL a b ∧ asL a b ≤ 5400000 ∧ -5400000 ≤ asH a b ∧ asH a b ≤ 5400000 := by
  have i := L6.asin_in (aE_in k)
  unfold asL asH
  rw [if_pos k, if_pos k]
  omega
theorem pAcos7 (a b : Int) (w0 w : World) (P : TrProg w0) (h0 : Below w0.heap.size w0 w) :
    Calls Tryd.prog 37 #[.agg #[.int .i64 a, .int .i64 b]] w fun e w' => e = .returned (tAr (acL a b) (acH a b) (aE a b)) ∧ Below w.heap.size w w' := by
  have C := fun wx (hb : Below w.heap.size w wx) => pAsin7 a b w0 wx P (bstep h0 hb)
  unfold tAr at *
  by_cases k : aE a b = 0
  · obtain ⟨i1, i2, i3, i4⟩ := as_in k
    have e1 : acL a b = 5400000 - asH a b := by unfold acL; rw [if_pos k]
    have e2 : acH a b = 5400000 - asL a b := by unfold acH; rw [if_pos k]
    rw [e1, e2, k]
    rw [k] at C
    exact acos_ok a b _ _ _ _ w rfl rfl i1 i2 i3 i4 (Lib.hid C)
  · have e1 : asL a b = 0 := by unfold asL; rw [if_neg k]
    have e2 : asH a b = 0 := by unfold asH; rw [if_neg k]
    have e3 : acL a b = 0 := by unfold acL; rw [if_neg k]
    have e4 : acH a b = 0 := by unfold acH; rw [if_neg k]
    rw [e3, e4]
    rw [e1, e2] at C
    exact acos_bad a b _ w (by simpa using k) (Lib.hid C)
theorem ahav_bad (a b l h er : Int) (w : World) (he : (er == 0) = false)
    (C0 : Hid (∀ wx, Calls Tryd.prog 35 #[.agg #[.int .i64 a, .int .i64 b], .int .i64 0] wx fun e' w' => e' = .returned (.tuple #[.agg #[.int .i64 l, .int .i64 h], .int .i64 er]) ∧ Below wx.heap.size wx w')) :
    Calls Tryd.prog 18 #[.agg #[.int .i64 a, .int .i64 b]] w fun e w' => e = .returned (.tuple #[.agg #[.int .i64 0, .int .i64 0], .int .i64 er]) ∧ Below w.heap.size w w' := by
  obtain ⟨A, R⟩ := At2.two w (.int .i64 a) (.int .i64 b) (.int .i64 0) (.int .i64 0) 23 25
  have HB := Lib.hid (below2 w (.cells #[.int .i64 a, .int .i64 b] 23) (.cells #[.int .i64 0, .int .i64 0] 25))
  obtain ⟨A0, A1, -, -, -⟩ := id A
  go_enter Tryd.func18, Tryd.ntmps18
  go_wp2_with fail
  refine (C0.out _).mono ?_
  rintro e1 w1 ⟨rfl, hb⟩
  clear A0 A1
  have A := A.keep hb
  have R := R.keep hb
  have HB := Lib.hid (bstep HB.out hb)
  clear hb
  obtain ⟨A0, A1, F0, F1, -⟩ := id A
  go_upto_region 2 with fail
  have A := A.put (.int .i64 l) (.int .i64 h)
  have R := R.far (show w.heap.size + 1 ≠ w.heap.size by omega) (.int .i64 l) (.int .i64 h)
  have HB := Lib.hid (below_set2 HB.out (Nat.le_refl _) (.int .i64 l) (.int .i64 h))
  clear A0 A1 F0 F1
  obtain ⟨R0, R1, R2, R3, -⟩ := id R
  obtain ⟨z0, z1⟩ := set2 R0 R1 (.int .i64 (0)) (.int .i64 (0))
  go_wp2_with fail
  refine bodyPost_ret (v := .tuple #[.agg #[.int .i64 (0), .int .i64 (0)], .int .i64 (er)]) (by simp [results, Tryd.results18, go_sem, z0, z1]) rfl ⟨rfl, ?_⟩
  exact below_set2 HB.out (by omega) _ _
theorem ahav_ok (a b l h p q u v er : Int) (w : World) (l1 : 0 ≤ l) (l2 : l ≤ 1073741824) (h1 : 0 ≤ h) (h2 : h ≤ 1073741824) (p0 q0 : Int) (hp0 : 2 * h = p0) (hq0 : 2 * l = q0) (hp : 1073741824 - p0 = p) (hq : 1073741824 - q0 = q)
    (C0 : Hid (∀ wx, Calls Tryd.prog 35 #[.agg #[.int .i64 a, .int .i64 b], .int .i64 0] wx fun e' w' => e' = .returned (.tuple #[.agg #[.int .i64 l, .int .i64 h], .int .i64 0]) ∧ Below wx.heap.size wx w'))
    (C1 : Hid (∀ wx, Below w.heap.size w wx → Calls Tryd.prog 37 #[.agg #[.int .i64 p, .int .i64 q]] wx fun e' w' => e' = .returned (.tuple #[.agg #[.int .i64 u, .int .i64 v], .int .i64 er]) ∧ Below wx.heap.size wx w')) :
    Calls Tryd.prog 18 #[.agg #[.int .i64 a, .int .i64 b]] w fun e w' => e = .returned (.tuple #[.agg #[.int .i64 u, .int .i64 v], .int .i64 er]) ∧ Below w.heap.size w w' := by
  obtain ⟨A, R⟩ := At2.two w (.int .i64 a) (.int .i64 b) (.int .i64 0) (.int .i64 0) 23 25
  have HB := Lib.hid (below2 w (.cells #[.int .i64 a, .int .i64 b] 23) (.cells #[.int .i64 0, .int .i64 0] 25))
  obtain ⟨A0, A1, -, -, -⟩ := id A
  go_enter Tryd.func18, Tryd.ntmps18
  go_wp2_with fail
  refine (C0.out _).mono ?_
  rintro e1 w1 ⟨rfl, hb⟩
  clear A0 A1
  have A := A.keep hb
  have R := R.keep hb
  have HB := Lib.hid (bstep HB.out hb)
  clear hb
  obtain ⟨A0, A1, F0, F1, -⟩ := id A
  go_upto_region 2 with fail
  have A := A.put (.int .i64 l) (.int .i64 h)
  have R := R.far (show w.heap.size + 1 ≠ w.heap.size by omega) (.int .i64 l) (.int .i64 h)
  have HB := Lib.hid (below_set2 HB.out (Nat.le_refl _) (.int .i64 l) (.int .i64 h))
  clear A0 A1 F0 F1
  obtain ⟨A0, A1, -, -, -⟩ := id A
  go_wp2_with fail
  refine (C1.out _ HB.out).mono ?_
  rintro e2 w2 ⟨rfl, hb⟩
  clear A0 A1
  have A := A.keep hb
  have R := R.keep hb
  have HB := Lib.hid (bstep HB.out hb)
  clear hb
  obtain ⟨R0, R1, R2, R3, -⟩ := id R
  obtain ⟨z0, z1⟩ := set2 R0 R1 (.int .i64 (u)) (.int .i64 (v))
  go_wp2_with fail
  refine bodyPost_ret (v := .tuple #[.agg #[.int .i64 (u), .int .i64 (v)], .int .i64 (er)]) (by simp [results, Tryd.results18, go_sem, z0, z1]) rfl ⟨rfl, ?_⟩
  exact below_set2 HB.out (by omega) _ _
theorem pAhav7 (a b : Int) (w0 w : World) (P : TrProg w0) (h0 : Below w0.heap.size w0 w) :
    Calls Tryd.prog 18 #[.agg #[.int .i64 a, .int .i64 b]] w fun e w' => e = .returned (tAr (ahL a b) (ahH a b) (hE a b)) ∧ Below w.heap.size w w' := by
  have C := fun wx => part_any a b 0 wx (by omega) (by omega)
  have e : paE a b 0 = hE a b := rfl
  by_cases k : hE a b = 0
  · have i := pa_in (a := a) (b := b) (m := 0) (by rw [e]; exact k) (by omega)
    obtain ⟨i1, i2, i3, i4, i5, i6⟩ := i
    rw [e, k, i5, i6] at C
    rw [i5] at i1 i2 i4
    rw [i6] at i2 i3
    have K := fun wx (hb : Below w.heap.size w wx) => pAcos7 (1073741824 - 2 * min b 1073741824) (1073741824 - 2 * max a 0) w0 wx P (bstep h0 hb)
    have e1 : ahL a b = acL (1073741824 - 2 * min b 1073741824) (1073741824 - 2 * max a 0) := by unfold ahL; rw [if_pos k]
    have e2 : ahH a b = acH (1073741824 - 2 * min b 1073741824) (1073741824 - 2 * max a 0) := by unfold ahH; rw [if_pos k]
    have e3 : aE (1073741824 - 2 * min b 1073741824) (1073741824 - 2 * max a 0) = 0 := by
      unfold aE
      rw [if_pos ((fok_iff _ _).2 (by omega)), if_neg (by omega)]
    rw [e1, e2, k]
    rw [e3] at K
    unfold tAr at *
    exact ahav_ok a b _ _ _ _ _ _ 0 w i4 (by omega) (by omega) i3 _ _ rfl rfl rfl rfl (Lib.hid C) (Lib.hid K)
  · have e1 : ahL a b = 0 := by unfold ahL; rw [if_neg k]
    have e2 : ahH a b = 0 := by unfold ahH; rw [if_neg k]
    rw [e1, e2]
    rw [e] at C
    unfold tAr
    exact ahav_bad a b _ _ _ w (by simpa using k) (Lib.hid C)
end Go.Proofs.YtndcjldnnfhedaaDoor
