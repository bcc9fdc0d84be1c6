/- Calendar: the law's examples; CalendarDates and CalendarNumbers: the walks. -/
import Derived.Test.YtfknmceffkagaaaDoorCaH
namespace Go.Proofs.YtfknmceffkagaaaDoor
open Go.RowKit
set_option linter.unusedVariables false
set_option maxRecDepth 100000

theorem toldP {f : Nat} {args : Array Value} {w : World} {x k : Int} (x' : Int) (h : x = x') (C : Calls Tryd.prog f args w fun e w' => e = .returned (.tuple #[.int .i64 x, .int .i64 k]) ∧ Below w.heap.size w w') :
    Calls Tryd.prog f args w fun e w' => e = .returned (.tuple #[.int .i64 x', .int .i64 k]) ∧ Below w.heap.size w w' := h ▸ C
theorem stillB {f : Nat} {args : Array Value} {w : World} {r : Bool} (s : Bool) (h : r = s) (C : Calls Tryd.prog f args w fun e w' => e = .returned (.bool r) ∧ w' = w) :
    Calls Tryd.prog f args w fun e w' => e = .returned (.bool s) ∧ w' = w := h ▸ C
set_option maxHeartbeats 2000000 in
theorem awake9 (w : World) (H : HasLen w) : Calls Tryd.prog 9 #[] w fun e w' => e = .returned (.bool true) ∧ Below w.heap.size w w' := by
  have C1 := Lib.hid (fun wx (hx : HasLen wx) => toldP 8825 (by decide) (number_ok 2024 2 29 wx hx (by decide)))
  have C2 := Lib.hid (fun wx (hx : HasLen wx) => toldP 4 (by decide) (weekday_ok 2024 2 29 wx hx (by decide)))
  have C3 := Lib.hid (fun wx (hx : HasLen wx) => toldP 60 (by decide) (dayOfYear_ok 2024 2 29 wx hx (by decide)))
  have C4 := Lib.hid (fun wx (hx : HasLen wx) => toldP 2460370 (by decide) (julian_ok 2024 2 29 wx hx (by decide)))
  have C5 := Lib.hid (fun wx (hx : HasLen wx) => add_ok 1999 12 31 1 2000 1 1 wx hx (by decide) (by decide) (by decide))
  have C6 := Lib.hid (fun wx => stillB false (by decide) (leap_any 1900 wx))
  have A := At3.new w (.int .i64 2024) (.int .i64 2) (.int .i64 29) 23
  have HX := H.below (below1 w (.cells #[.int .i64 2024, .int .i64 2, .int .i64 29] 23))
  have HB := Lib.hid (below1 w (.cells #[.int .i64 2024, .int .i64 2, .int .i64 29] 23))
  clear H
  obtain ⟨A0, A1, A2, -, -, -, -⟩ := id A
  go_enter Tryd.func9, Tryd.ntmps9
  go_wp2_with fail
  refine ((C1).out _ HX).mono ?_
  rintro e w1 ⟨rfl, hb⟩
  clear A0 A1 A2
  have A := A.keep hb
  have HX := HX.below hb
  have HB := Lib.hid (bstep HB.out hb)
  clear hb
  obtain ⟨A0, A1, A2, -, -, -, -⟩ := id A
  go_wp2_with fail
  refine ((C2).out _ HX).mono ?_
  rintro e w2 ⟨rfl, hb⟩
  clear A0 A1 A2
  have A := A.keep hb
  have HX := HX.below hb
  have HB := Lib.hid (bstep HB.out hb)
  clear hb
  obtain ⟨A0, A1, A2, -, -, -, -⟩ := id A
  go_wp2_with fail
  refine ((C3).out _ HX).mono ?_
  rintro e w3 ⟨rfl, hb⟩
  clear A0 A1 A2
  have A := A.keep hb
  have HX := HX.below hb
  have HB := Lib.hid (bstep HB.out hb)
  clear hb
  obtain ⟨A0, A1, A2, -, -, -, -⟩ := id A
  go_wp2_with fail
  refine ((C4).out _ HX).mono ?_
  rintro e w4 ⟨rfl, hb⟩
  clear A0 A1 A2
  have A := A.keep hb
  have HX := HX.below hb
  have HB := Lib.hid (bstep HB.out hb)
  clear hb
  obtain ⟨A0, A1, A2, -, -, -, -⟩ := id A
  go_wp2_with fail
  refine ((C5).out _ HX).mono ?_
  rintro e w5 ⟨rfl, hb⟩
  clear A0 A1 A2
  have A := A.keep hb
  have HX := HX.below hb
  have HB := Lib.hid (bstep HB.out hb)
  clear hb
  obtain ⟨A0, A1, A2, -, -, -, -⟩ := id A
  clear A0 A1 A2
  have A := A.alloc (.cells #[.int .i64 2000, .int .i64 1, .int .i64 1] 23)
  have HX := HX.below (below1 w5 (.cells #[.int .i64 2000, .int .i64 1, .int .i64 1] 23))
  have B := At3.new w5 (.int .i64 2000) (.int .i64 1) (.int .i64 1) 23
  have HB := Lib.hid (bstep HB.out (below1 w5 (.cells #[.int .i64 2000, .int .i64 1, .int .i64 1] 23)))
  obtain ⟨A0, A1, A2, -, -, -, -⟩ := id A
  obtain ⟨B0, B1, B2, -, -, -, -⟩ := id B
  go_wp2_with fail
  refine ((C6).out _).mono ?_
  rintro e w5 ⟨rfl, rfl⟩
  go_wp2_with fail
  go_ret
  exact ⟨rfl, HB.out⟩
set_option maxHeartbeats 4000000 in
theorem dates9 (y m d a b : Int) (w : World) (H : HasLen w) :
    Calls Tryd.prog 3 #[.agg #[.int .i64 y, .int .i64 m, .int .i64 d], .int .i64 a, .int .i64 b] w fun e w' => e = .returned (.bool true) ∧ Below w.heap.size w w' := by
  have A := At3.new w (.int .i64 y) (.int .i64 m) (.int .i64 d) 23
  have HX := H.below (below1 w (.cells #[.int .i64 y, .int .i64 m, .int .i64 d] 23))
  have HB := Lib.hid (below1 w (.cells #[.int .i64 y, .int .i64 m, .int .i64 d] 23))
  clear H
  have CA := Lib.hid (fun wx (hx : HasLen wx) => awake9 wx hx)
  have CD := Lib.hid (fun wx (hx : HasLen wx) => days_any a b wx hx)
  have CV := Lib.hid (fun wx (hx : HasLen wx) => valid_any y m d wx hx)
  have RV := Lib.hid (fun wx => rvalid_any y m d wx)
  have CL := Lib.hid (fun wx => leap_any a wx)
  have RL := Lib.hid (fun wx => rleap_any a wx)
  have RD := Lib.hid (fun wx => rdays_any a b wx)
  generalize okD y m d = v at *
  by_cases c1 : a < 1
  · rw [if_neg (fun k => by have := ymB_iff.1 k; omega)] at CD
    unfold vIE at CD
    obtain ⟨A0, A1, A2, -, -, -, -⟩ := id A
    go_enter Tryd.func3, Tryd.ntmps3
    go_wp2_with fail
    refine ((CA).out _ HX).mono ?_
    rintro e w1 ⟨rfl, hb⟩
    clear A0 A1 A2
    have A := A.keep hb
    have HX := HX.below hb
    have HB := Lib.hid (bstep HB.out hb)
    clear hb
    obtain ⟨A0, A1, A2, -, -, -, -⟩ := id A
    go_wp2_with fail
    refine ((CD).out _ HX).mono ?_
    rintro e w1 ⟨rfl, rfl⟩
    go_upto_region 4 with fail
    clear A0 A1 A2
    obtain ⟨A0, A1, A2⟩ := A.bel
    have CV := Lib.hid (fun (p : Bel w1) => CV.out p.w (HX.below p.h))
    refine wp_region_bel (by kernel_rfl) (by kernel_rfl) ?_
    repeat (go_big_quiet_step (first | (go_at_call 11; with_reducible refine bel_of (CV.out _)) | (go_at_call 12; with_reducible refine bel_of (RV.out _)) | (go_at_call 13; with_reducible refine bel_same (CL.out _)) | (go_at_call 14; with_reducible refine bel_same (RL.out _))))
    refine wpQuiet_nil ?_
    intro _ hw'
    obtain ⟨pq, hw''⟩ := hw'
    subst hw''

    have HB := Lib.hid (bstep HB.out pq.h)
    clear A A0 A1 A2
    go_wp2_with fail
    go_ret
    exact ⟨by first | rfl | exact ret_bool (by simp), HB.out⟩
  · by_cases c2 : 9999 < a
    · rw [if_neg (fun k => by have := ymB_iff.1 k; omega)] at CD
      unfold vIE at CD
      obtain ⟨A0, A1, A2, -, -, -, -⟩ := id A
      go_enter Tryd.func3, Tryd.ntmps3
      go_wp2_with fail
      refine ((CA).out _ HX).mono ?_
      rintro e w1 ⟨rfl, hb⟩
      clear A0 A1 A2
      have A := A.keep hb
      have HX := HX.below hb
      have HB := Lib.hid (bstep HB.out hb)
      clear hb
      obtain ⟨A0, A1, A2, -, -, -, -⟩ := id A
      go_wp2_with fail
      refine ((CD).out _ HX).mono ?_
      rintro e w1 ⟨rfl, rfl⟩
      go_upto_region 4 with fail
      clear A0 A1 A2
      obtain ⟨A0, A1, A2⟩ := A.bel
      have CV := Lib.hid (fun (p : Bel w1) => CV.out p.w (HX.below p.h))
      refine wp_region_bel (by kernel_rfl) (by kernel_rfl) ?_
      repeat (go_big_quiet_step (first | (go_at_call 11; with_reducible refine bel_of (CV.out _)) | (go_at_call 12; with_reducible refine bel_of (RV.out _)) | (go_at_call 13; with_reducible refine bel_same (CL.out _)) | (go_at_call 14; with_reducible refine bel_same (RL.out _))))
      refine wpQuiet_nil ?_
      intro _ hw'
      obtain ⟨pq, hw''⟩ := hw'
      subst hw''

      have HB := Lib.hid (bstep HB.out pq.h)
      clear A A0 A1 A2
      go_wp2_with fail
      go_ret
      exact ⟨by first | rfl | exact ret_bool (by simp), HB.out⟩
    · by_cases c3 : b < 1
      · rw [if_neg (fun k => by have := ymB_iff.1 k; omega)] at CD
        unfold vIE at CD
        obtain ⟨A0, A1, A2, -, -, -, -⟩ := id A
        go_enter Tryd.func3, Tryd.ntmps3
        go_wp2_with fail
        refine ((CA).out _ HX).mono ?_
        rintro e w1 ⟨rfl, hb⟩
        clear A0 A1 A2
        have A := A.keep hb
        have HX := HX.below hb
        have HB := Lib.hid (bstep HB.out hb)
        clear hb
        obtain ⟨A0, A1, A2, -, -, -, -⟩ := id A
        go_wp2_with fail
        refine ((CD).out _ HX).mono ?_
        rintro e w1 ⟨rfl, rfl⟩
        go_upto_region 4 with fail
        clear A0 A1 A2
        obtain ⟨A0, A1, A2⟩ := A.bel
        have CV := Lib.hid (fun (p : Bel w1) => CV.out p.w (HX.below p.h))
        refine wp_region_bel (by kernel_rfl) (by kernel_rfl) ?_
        repeat (go_big_quiet_step (first | (go_at_call 11; with_reducible refine bel_of (CV.out _)) | (go_at_call 12; with_reducible refine bel_of (RV.out _)) | (go_at_call 13; with_reducible refine bel_same (CL.out _)) | (go_at_call 14; with_reducible refine bel_same (RL.out _))))
        refine wpQuiet_nil ?_
        intro _ hw'
        obtain ⟨pq, hw''⟩ := hw'
        subst hw''

        have HB := Lib.hid (bstep HB.out pq.h)
        clear A A0 A1 A2
        go_wp2_with fail
        go_ret
        exact ⟨by first | rfl | exact ret_bool (by simp), HB.out⟩
      · by_cases c4 : 12 < b
        · rw [if_neg (fun k => by have := ymB_iff.1 k; omega)] at CD
          unfold vIE at CD
          obtain ⟨A0, A1, A2, -, -, -, -⟩ := id A
          go_enter Tryd.func3, Tryd.ntmps3
          go_wp2_with fail
          refine ((CA).out _ HX).mono ?_
          rintro e w1 ⟨rfl, hb⟩
          clear A0 A1 A2
          have A := A.keep hb
          have HX := HX.below hb
          have HB := Lib.hid (bstep HB.out hb)
          clear hb
          obtain ⟨A0, A1, A2, -, -, -, -⟩ := id A
          go_wp2_with fail
          refine ((CD).out _ HX).mono ?_
          rintro e w1 ⟨rfl, rfl⟩
          go_upto_region 4 with fail
          clear A0 A1 A2
          obtain ⟨A0, A1, A2⟩ := A.bel
          have CV := Lib.hid (fun (p : Bel w1) => CV.out p.w (HX.below p.h))
          refine wp_region_bel (by kernel_rfl) (by kernel_rfl) ?_
          repeat (go_big_quiet_step (first | (go_at_call 11; with_reducible refine bel_of (CV.out _)) | (go_at_call 12; with_reducible refine bel_of (RV.out _)) | (go_at_call 13; with_reducible refine bel_same (CL.out _)) | (go_at_call 14; with_reducible refine bel_same (RL.out _))))
          refine wpQuiet_nil ?_
          intro _ hw'
          obtain ⟨pq, hw''⟩ := hw'
          subst hw''

          have HB := Lib.hid (bstep HB.out pq.h)
          clear A A0 A1 A2
          go_wp2_with fail
          go_ret
          exact ⟨by first | rfl | exact ret_bool (by simp), HB.out⟩
        · rw [if_pos (ymB_iff.2 (by omega))] at CD
          unfold vIE at CD
          generalize dim (leapB a) b = x at *
          obtain ⟨A0, A1, A2, -, -, -, -⟩ := id A
          go_enter Tryd.func3, Tryd.ntmps3
          go_wp2_with fail
          refine ((CA).out _ HX).mono ?_
          rintro e w1 ⟨rfl, hb⟩
          clear A0 A1 A2
          have A := A.keep hb
          have HX := HX.below hb
          have HB := Lib.hid (bstep HB.out hb)
          clear hb
          obtain ⟨A0, A1, A2, -, -, -, -⟩ := id A
          go_wp2_with fail
          refine ((CD).out _ HX).mono ?_
          rintro e w1 ⟨rfl, rfl⟩
          go_upto_region 4 with fail
          clear A0 A1 A2
          obtain ⟨A0, A1, A2⟩ := A.bel
          have CV := Lib.hid (fun (p : Bel w1) => CV.out p.w (HX.below p.h))
          refine wp_region_bel (by kernel_rfl) (by kernel_rfl) ?_
          repeat (go_big_quiet_step (first | (go_at_call 11; with_reducible refine bel_of (CV.out _)) | (go_at_call 12; with_reducible refine bel_of (RV.out _)) | (go_at_call 13; with_reducible refine bel_same (CL.out _)) | (go_at_call 14; with_reducible refine bel_same (RL.out _))))
          refine wpQuiet_nil ?_
          intro _ hw'
          obtain ⟨pq, hw''⟩ := hw'
          subst hw''

          have HB := Lib.hid (bstep HB.out pq.h)
          clear A A0 A1 A2
          go_wp2_with fail
          refine ((RD).out _).mono ?_
          rintro e w3 ⟨rfl, rfl⟩
          go_wp2_with fail
          go_ret
          exact ⟨by first | rfl | exact ret_bool (by simp), HB.out⟩
set_option maxHeartbeats 4000000 in
theorem numbers9 (y m d : Int) (w : World) (H : HasLen w) :
    Calls Tryd.prog 4 #[.agg #[.int .i64 y, .int .i64 m, .int .i64 d]] w fun e w' => e = .returned (.bool true) ∧ Below w.heap.size w w' := by
  have A := At3.new w (.int .i64 y) (.int .i64 m) (.int .i64 d) 23
  have HX := H.below (below1 w (.cells #[.int .i64 y, .int .i64 m, .int .i64 d] 23))
  have HB := Lib.hid (below1 w (.cells #[.int .i64 y, .int .i64 m, .int .i64 d] 23))
  clear H
  have CA := Lib.hid (fun wx (hx : HasLen wx) => awake9 wx hx)
  rcases Bool.eq_false_or_eq_true (okD y m d) with ok | ok
  · have C1 := Lib.hid (fun wx (hx : HasLen wx) => number_ok y m d wx hx ok)
    have C2 := Lib.hid (fun wx (hx : HasLen wx) => julian_ok y m d wx hx ok)
    have C3 := Lib.hid (fun wx (hx : HasLen wx) => weekday_ok y m d wx hx ok)
    have C4 := Lib.hid (fun wx (hx : HasLen wx) => dayOfYear_ok y m d wx hx ok)
    have RV := Lib.hid (fun wx => told1 true ok (rvalid_any y m d wx))
    have R1 := Lib.hid (fun wx => rnumber_any y m d wx ok)
    have R2 := Lib.hid (fun wx => rweekday_any y m d wx ok)
    have R3 := Lib.hid (fun wx => rdoy_any y m d wx ok)
    obtain ⟨r1, r2⟩ := num_range ok
    generalize num y m d = n at *
    generalize wkd n = k at *
    generalize cum (leapB y) m + d = q at *
    clear ok
    obtain ⟨A0, A1, A2, -, -, -, -⟩ := id A
    go_enter Tryd.func4, Tryd.ntmps4
    go_wp2_with fail
    refine ((CA).out _ HX).mono ?_
    rintro e w1 ⟨rfl, hb⟩
    clear A0 A1 A2
    have A := A.keep hb
    have HX := HX.below hb
    have HB := Lib.hid (bstep HB.out hb)
    clear hb
    obtain ⟨A0, A1, A2, -, -, -, -⟩ := id A
    go_wp2_with fail
    refine ((C1).out _ HX).mono ?_
    rintro e w2 ⟨rfl, hb⟩
    clear A0 A1 A2
    have A := A.keep hb
    have HX := HX.below hb
    have HB := Lib.hid (bstep HB.out hb)
    clear hb
    obtain ⟨A0, A1, A2, -, -, -, -⟩ := id A
    go_wp2_with fail
    refine ((C2).out _ HX).mono ?_
    rintro e w3 ⟨rfl, hb⟩
    clear A0 A1 A2
    have A := A.keep hb
    have HX := HX.below hb
    have HB := Lib.hid (bstep HB.out hb)
    clear hb
    obtain ⟨A0, A1, A2, -, -, -, -⟩ := id A
    go_wp2_with fail
    refine ((C3).out _ HX).mono ?_
    rintro e w4 ⟨rfl, hb⟩
    clear A0 A1 A2
    have A := A.keep hb
    have HX := HX.below hb
    have HB := Lib.hid (bstep HB.out hb)
    clear hb
    obtain ⟨A0, A1, A2, -, -, -, -⟩ := id A
    go_wp2_with fail
    refine ((C4).out _ HX).mono ?_
    rintro e w5 ⟨rfl, hb⟩
    clear A0 A1 A2
    have A := A.keep hb
    have HX := HX.below hb
    have HB := Lib.hid (bstep HB.out hb)
    clear hb
    obtain ⟨A0, A1, A2, -, -, -, -⟩ := id A
    go_wp2_with fail
    refine ((RV).out _).mono ?_
    rintro e w6 ⟨rfl, hb⟩
    clear A0 A1 A2
    have A := A.keep hb
    have HX := HX.below hb
    have HB := Lib.hid (bstep HB.out hb)
    clear hb
    obtain ⟨A0, A1, A2, -, -, -, -⟩ := id A
    go_wp2_with fail
    refine ((R1).out _).mono ?_
    rintro e w7 ⟨rfl, hb⟩
    clear A0 A1 A2
    have A := A.keep hb
    have HX := HX.below hb
    have HB := Lib.hid (bstep HB.out hb)
    clear hb
    obtain ⟨A0, A1, A2, -, -, -, -⟩ := id A
    go_wp2_with fail
    refine ((R2).out _).mono ?_
    rintro e w8 ⟨rfl, hb⟩
    clear A0 A1 A2
    have A := A.keep hb
    have HX := HX.below hb
    have HB := Lib.hid (bstep HB.out hb)
    clear hb
    obtain ⟨A0, A1, A2, -, -, -, -⟩ := id A
    go_wp2_with fail
    refine ((R3).out _).mono ?_
    rintro e w9 ⟨rfl, hb⟩
    clear A0 A1 A2
    have A := A.keep hb
    have HX := HX.below hb
    have HB := Lib.hid (bstep HB.out hb)
    clear hb
    obtain ⟨A0, A1, A2, -, -, -, -⟩ := id A
    go_wp2_with fail
    go_ret
    exact ⟨by first | rfl | exact ret_bool (by simp), HB.out⟩
  · have C1 := Lib.hid (fun wx (hx : HasLen wx) => number_no y m d wx hx ok)
    have C2 := Lib.hid (fun wx (hx : HasLen wx) => julian_no y m d wx hx ok)
    have C3 := Lib.hid (fun wx (hx : HasLen wx) => weekday_no y m d wx hx ok)
    have C4 := Lib.hid (fun wx (hx : HasLen wx) => dayOfYear_no y m d wx hx ok)
    have RV := Lib.hid (fun wx => told1 false ok (rvalid_any y m d wx))
    clear ok
    obtain ⟨A0, A1, A2, -, -, -, -⟩ := id A
    go_enter Tryd.func4, Tryd.ntmps4
    go_wp2_with fail
    refine ((CA).out _ HX).mono ?_
    rintro e w1 ⟨rfl, hb⟩
    clear A0 A1 A2
    have A := A.keep hb
    have HX := HX.below hb
    have HB := Lib.hid (bstep HB.out hb)
    clear hb
    obtain ⟨A0, A1, A2, -, -, -, -⟩ := id A
    go_wp2_with fail
    refine ((C1).out _ HX).mono ?_
    rintro e w2 ⟨rfl, hb⟩
    clear A0 A1 A2
    have A := A.keep hb
    have HX := HX.below hb
    have HB := Lib.hid (bstep HB.out hb)
    clear hb
    obtain ⟨A0, A1, A2, -, -, -, -⟩ := id A
    go_wp2_with fail
    refine ((C2).out _ HX).mono ?_
    rintro e w3 ⟨rfl, hb⟩
    clear A0 A1 A2
    have A := A.keep hb
    have HX := HX.below hb
    have HB := Lib.hid (bstep HB.out hb)
    clear hb
    obtain ⟨A0, A1, A2, -, -, -, -⟩ := id A
    go_wp2_with fail
    refine ((C3).out _ HX).mono ?_
    rintro e w4 ⟨rfl, hb⟩
    clear A0 A1 A2
    have A := A.keep hb
    have HX := HX.below hb
    have HB := Lib.hid (bstep HB.out hb)
    clear hb
    obtain ⟨A0, A1, A2, -, -, -, -⟩ := id A
    go_wp2_with fail
    refine ((C4).out _ HX).mono ?_
    rintro e w5 ⟨rfl, hb⟩
    clear A0 A1 A2
    have A := A.keep hb
    have HX := HX.below hb
    have HB := Lib.hid (bstep HB.out hb)
    clear hb
    obtain ⟨A0, A1, A2, -, -, -, -⟩ := id A
    go_wp2_with fail
    refine ((RV).out _).mono ?_
    rintro e w6 ⟨rfl, hb⟩
    clear A0 A1 A2
    have A := A.keep hb
    have HX := HX.below hb
    have HB := Lib.hid (bstep HB.out hb)
    clear hb
    obtain ⟨A0, A1, A2, -, -, -, -⟩ := id A
    go_wp2_with fail
    go_ret
    exact ⟨by first | rfl | exact ret_bool (by simp), HB.out⟩
end Go.Proofs.YtfknmceffkagaaaDoor
