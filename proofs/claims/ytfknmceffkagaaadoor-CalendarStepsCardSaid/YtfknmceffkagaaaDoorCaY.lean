/- Calendar: CalendarCycles: the walk. -/
import Derived.Test.YtfknmceffkagaaaDoorCaW
namespace Go.Proofs.YtfknmceffkagaaaDoor
open Go.RowKit
set_option linter.unusedVariables false
set_option maxRecDepth 100000

theorem leap400 {y : Int} (h : 0 ≤ y) : leapB (y + 400) = leapB y := by
  rw [leapB_nat h, leapB_nat (by omega), decide_eq_decide]
  omega
theorem num400 {y : Int} (m d : Int) (h : 0 ≤ y) : num (y + 400) m d = num y m d + 146097 := by
  unfold num
  rw [leap400 h]
  unfold bef
  omega
theorem wkd400 (n : Int) : wkd (n + 146097) = wkd n := by unfold wkd; omega
set_option maxHeartbeats 4000000 in
theorem cycles9 (y m d : Int) (w : World) (H : HasLen w) :
    Calls Tryd.prog 8 #[.agg #[.int .i64 y, .int .i64 m, .int .i64 d]] w fun e w' => e = .returned (.bool true) ∧ Below w.heap.size w w' := by
  have A := At3.new w (.int .i64 y) (.int .i64 m) (.int .i64 d) 23
  have HX := H.below (below1 w (.cells #[.int .i64 y, .int .i64 m, .int .i64 d] 23))
  have HB := Lib.hid (below1 w (.cells #[.int .i64 y, .int .i64 m, .int .i64 d] 23))
  clear H
  have CA := Lib.hid (fun wx (hx : HasLen wx) => awake9 wx hx)
  rcases Bool.eq_false_or_eq_true (okD y m d) with ok | ok
  · have CV := Lib.hid (fun wx (hx : HasLen wx) => told1 true ok (valid_any y m d wx hx))
    by_cases hy : 9599 < y
    · obtain ⟨A0, A1, A2, -, -, -, -⟩ := id A
      go_enter Tryd.func8, Tryd.ntmps8
      go_wp2_with fail
      refine ((CA).out _ HX).mono ?_
      rintro e w1 ⟨rfl, hb⟩
      clear A0 A1 A2
      replace A := A.keep hb
      replace HX := HX.below hb
      replace HB := Lib.hid (bstep HB.out hb)
      clear hb
      obtain ⟨A0, A1, A2, -, -, -, -⟩ := id A
      go_wp2_with fail
      refine ((CV).out _ HX).mono ?_
      rintro e w2 ⟨rfl, hb⟩
      clear A0 A1 A2
      replace A := A.keep hb
      replace HX := HX.below hb
      replace HB := Lib.hid (bstep HB.out hb)
      clear hb
      obtain ⟨A0, A1, A2, -, -, -, -⟩ := id A
      go_wp2_with fail
      go_ret
      exact ⟨by first | rfl | exact ret_bool (by simp), HB.out⟩
    · obtain ⟨o1, o2, o3, o4, o5, o6⟩ := okD_iff.1 ok
      have ok2 : okD (y + 400) m d = true := okD_iff.2 ⟨by omega, by omega, o3, o4, o5, by rw [leap400 (by omega)]; exact o6⟩
      have C1 := Lib.hid (fun wx (hx : HasLen wx) => add_ok y m d 146097 (y + 400) m d wx hx ok ok2 (num400 m d (by omega)))
      have C2 := Lib.hid (fun wx (hx : HasLen wx) => weekday_ok y m d wx hx ok)
      have C3 := Lib.hid (fun wx (hx : HasLen wx) => toldP (wkd (num y m d)) (by rw [num400 m d (by omega), wkd400]) (weekday_ok (y + 400) m d wx hx ok2))
      have C4 := Lib.hid (fun wx (hx : HasLen wx) => dayOfYear_ok y m d wx hx ok)
      have C5 := Lib.hid (fun wx (hx : HasLen wx) => toldP (cum (leapB y) m + d) (by rw [leap400 (by omega)]) (dayOfYear_ok (y + 400) m d wx hx ok2))
      generalize wkd (num y m d) = k at *
      generalize cum (leapB y) m + d = q at *
      have y1 : 1 ≤ y := o1
      have y2 : y ≤ 9599 := by omega
      clear ok ok2 o1 o2 o3 o4 o5 o6 hy
      obtain ⟨A0, A1, A2, -, -, -, -⟩ := id A
      go_enter Tryd.func8, Tryd.ntmps8
      go_wp2_with fail
      refine ((CA).out _ HX).mono ?_
      rintro e w1 ⟨rfl, hb⟩
      clear A0 A1 A2
      replace A := A.keep hb
      replace HX := HX.below hb
      replace HB := Lib.hid (bstep HB.out hb)
      clear hb
      obtain ⟨A0, A1, A2, -, -, -, -⟩ := id A
      go_wp2_with fail
      refine ((CV).out _ HX).mono ?_
      rintro e w2 ⟨rfl, hb⟩
      clear A0 A1 A2
      replace A := A.keep hb
      replace HX := HX.below hb
      replace HB := Lib.hid (bstep HB.out hb)
      clear hb
      obtain ⟨A0, A1, A2, -, -, -, -⟩ := id A
      obtain ⟨q0, q1, q2, -, -, -, -⟩ := id A
      clear A0 A1 A2
      replace A := A.alloc (.cells #[.int .i64 (y + 400), .int .i64 m, .int .i64 d] 23)
      replace HX := HX.below (below1 w2 (.cells #[.int .i64 (y + 400), .int .i64 m, .int .i64 d] 23))
      have B := At3.new w2 (.int .i64 (y + 400)) (.int .i64 m) (.int .i64 d) 23
      replace HB := Lib.hid (bstep HB.out (below1 w2 (.cells #[.int .i64 (y + 400), .int .i64 m, .int .i64 d] 23)))
      obtain ⟨A0, A1, A2, -, -, -, -⟩ := id A
      obtain ⟨B0, B1, B2, -, -, -, -⟩ := id B
      go_wp2_with fail
      clear q0 q1 q2
      refine ((C1).out _ HX).mono ?_
      rintro e w3 ⟨rfl, hb⟩
      clear A0 A1 A2 B0 B1 B2
      replace A := A.keep hb
      replace B := B.keep hb
      replace HX := HX.below hb
      replace HB := Lib.hid (bstep HB.out hb)
      clear hb
      obtain ⟨A0, A1, A2, -, -, -, -⟩ := id A
      obtain ⟨B0, B1, B2, -, -, -, -⟩ := id B
      clear A0 A1 A2 B0 B1 B2
      replace A := A.alloc (.cells #[.int .i64 (y + 400), .int .i64 m, .int .i64 d] 23)
      replace B := B.alloc (.cells #[.int .i64 (y + 400), .int .i64 m, .int .i64 d] 23)
      replace HX := HX.below (below1 w3 (.cells #[.int .i64 (y + 400), .int .i64 m, .int .i64 d] 23))
      have X := At3.new w3 (.int .i64 (y + 400)) (.int .i64 m) (.int .i64 d) 23
      replace HB := Lib.hid (bstep HB.out (below1 w3 (.cells #[.int .i64 (y + 400), .int .i64 m, .int .i64 d] 23)))
      obtain ⟨A0, A1, A2, -, -, -, -⟩ := id A
      obtain ⟨B0, B1, B2, -, -, -, -⟩ := id B
      obtain ⟨X0, X1, X2, -, -, -, -⟩ := id X
      go_wp2_with fail
      refine ((C2).out _ HX).mono ?_
      rintro e w4 ⟨rfl, hb⟩
      clear A0 A1 A2 B0 B1 B2 X0 X1 X2
      replace A := A.keep hb
      replace B := B.keep hb
      replace X := X.keep hb
      replace HX := HX.below hb
      replace HB := Lib.hid (bstep HB.out hb)
      clear hb
      obtain ⟨A0, A1, A2, -, -, -, -⟩ := id A
      obtain ⟨B0, B1, B2, -, -, -, -⟩ := id B
      obtain ⟨X0, X1, X2, -, -, -, -⟩ := id X
      go_wp2_with fail
      refine ((C3).out _ HX).mono ?_
      rintro e w5 ⟨rfl, hb⟩
      clear A0 A1 A2 B0 B1 B2 X0 X1 X2
      replace A := A.keep hb
      replace B := B.keep hb
      replace X := X.keep hb
      replace HX := HX.below hb
      replace HB := Lib.hid (bstep HB.out hb)
      clear hb
      obtain ⟨A0, A1, A2, -, -, -, -⟩ := id A
      obtain ⟨B0, B1, B2, -, -, -, -⟩ := id B
      obtain ⟨X0, X1, X2, -, -, -, -⟩ := id X
      go_wp2_with fail
      refine ((C4).out _ HX).mono ?_
      rintro e w6 ⟨rfl, hb⟩
      clear A0 A1 A2 B0 B1 B2 X0 X1 X2
      replace A := A.keep hb
      replace B := B.keep hb
      replace X := X.keep hb
      replace HX := HX.below hb
      replace HB := Lib.hid (bstep HB.out hb)
      clear hb
      obtain ⟨A0, A1, A2, -, -, -, -⟩ := id A
      obtain ⟨B0, B1, B2, -, -, -, -⟩ := id B
      obtain ⟨X0, X1, X2, -, -, -, -⟩ := id X
      go_wp2_with fail
      refine ((C5).out _ HX).mono ?_
      rintro e w7 ⟨rfl, hb⟩
      clear A0 A1 A2 B0 B1 B2 X0 X1 X2
      replace A := A.keep hb
      replace B := B.keep hb
      replace X := X.keep hb
      replace HX := HX.below hb
      replace HB := Lib.hid (bstep HB.out hb)
      clear hb
      obtain ⟨A0, A1, A2, -, -, -, -⟩ := id A
      obtain ⟨B0, B1, B2, -, -, -, -⟩ := id B
      obtain ⟨X0, X1, X2, -, -, -, -⟩ := id X
      go_wp2_with fail
      go_ret
      exact ⟨by first | rfl | exact ret_bool (by simp), HB.out⟩
  · have CV := Lib.hid (fun wx (hx : HasLen wx) => told1 false ok (valid_any y m d wx hx))
    clear ok
    obtain ⟨A0, A1, A2, -, -, -, -⟩ := id A
    go_enter Tryd.func8, Tryd.ntmps8
    go_wp2_with fail
    refine ((CA).out _ HX).mono ?_
    rintro e w1 ⟨rfl, hb⟩
    clear A0 A1 A2
    replace A := A.keep hb
    replace HX := HX.below hb
    replace HB := Lib.hid (bstep HB.out hb)
    clear hb
    obtain ⟨A0, A1, A2, -, -, -, -⟩ := id A
    go_wp2_with fail
    refine ((CV).out _ HX).mono ?_
    rintro e w2 ⟨rfl, hb⟩
    clear A0 A1 A2
    replace A := A.keep hb
    replace HX := HX.below hb
    replace HB := Lib.hid (bstep HB.out hb)
    clear hb
    obtain ⟨A0, A1, A2, -, -, -, -⟩ := id A
    go_wp2_with fail
    go_ret
    exact ⟨by first | rfl | exact ret_bool (by simp), HB.out⟩
theorem next_d {y m d : Int} (ok : okD y m d = true) (h : d < dim (leapB y) m) : okD y m (d + 1) = true ∧ num y m (d + 1) = num y m d + 1 := by
  obtain ⟨o1, o2, o3, o4, o5, o6⟩ := okD_iff.1 ok
  exact ⟨okD_iff.2 ⟨o1, o2, o3, o4, by omega, by omega⟩, by unfold num; omega⟩
theorem next_m {y m d : Int} (ok : okD y m d = true) (h : ¬ d < dim (leapB y) m) (hm : m < 12) : okD y (m + 1) 1 = true ∧ num y (m + 1) 1 = num y m d + 1 := by
  obtain ⟨o1, o2, o3, o4, o5, o6⟩ := okD_iff.1 ok
  have := dim_in (leapB y) (m + 1)
  refine ⟨okD_iff.2 ⟨o1, o2, by omega, by omega, by omega, by omega⟩, ?_⟩
  unfold num
  rw [cum_succ (leapB y) o3 o4]
  omega
theorem next_y {y m d : Int} (ok : okD y m d = true) (h : ¬ d < dim (leapB y) m) (hm : ¬ m < 12) (hy : y < 9999) : okD (y + 1) 1 1 = true ∧ num (y + 1) 1 1 = num y m d + 1 ∧ cum (leapB y) m + d = ylen (leapB y) := by
  obtain ⟨o1, o2, o3, o4, o5, o6⟩ := okD_iff.1 ok
  obtain rfl : m = 12 := by omega
  have e : d = dim (leapB y) 12 := by omega
  have k := cum_succ (leapB y) (m := 12) (by omega) (by omega)
  have k2 := cum_end (leapB y)
  rw [show (12 : Int) + 1 = 13 by rfl] at k
  have q := bef_succ o1
  have := dim_in (leapB (y + 1)) 1
  refine ⟨okD_iff.2 ⟨by omega, by omega, by omega, by omega, by omega, by omega⟩, ?_, by omega⟩
  unfold num
  rw [cum_one, q]
  omega
theorem last_is {y m d : Int} (ok : okD y m d = true) (h : ¬ d < dim (leapB y) m) (hm : ¬ m < 12) (hy : ¬ y < 9999) : y = 9999 ∧ m = 12 ∧ d = 31 := by
  obtain ⟨o1, o2, o3, o4, o5, o6⟩ := okD_iff.1 ok
  obtain rfl : m = 12 := by omega
  have : dim (leapB y) 12 = 31 := by cases leapB y <;> rfl
  omega
theorem wkd_next (n : Int) : wkd (n + 1) = (wkd n).tmod 7 + 1 := by
  have := wkd_in n
  rw [Int.tmod_eq_emod_of_nonneg (by omega)]
  unfold wkd
  omega
end Go.Proofs.YtfknmceffkagaaaDoor
