/- Calendar: valid dates of the reference; numbers, weekdays, days of the year, Julian days. -/
import Derived.Test.YtfknmceffkagaaaDoorCaC
namespace Go.Proofs.YtfknmceffkagaaaDoor
open Go.RowKit
set_option linter.unusedVariables false
set_option maxRecDepth 100000

theorem bel_same {P : Program} {f : FuncId} {args : Array Value} {W : World} {p : Bel W} {v : Value}
    (h : Calls P f args p.w fun e w' => e = .returned v ∧ w' = p.w) : Calls P f args p.w fun e w'' => e = .returned v ∧ ∃ q : Bel W, w'' = q.w :=
  h.mono fun _ w' ⟨he, hb⟩ => ⟨he, p, hb⟩
theorem bel_keep {w : World} (p : Bel w) : Below w.heap.size w p.w := p.h
theorem bool_le (a b : Int) : (a ≤ b ∧ decide (a ≤ b) = true) ∨ (¬ a ≤ b ∧ decide (a ≤ b) = false) := by
  by_cases h : a ≤ b
  · exact Or.inl ⟨h, decide_eq_true h⟩
  · exact Or.inr ⟨h, decide_eq_false h⟩
set_option maxHeartbeats 2000000 in
theorem rvalid_any (y m d : Int) (w : World) :
    Calls Tryd.prog 12 #[.agg #[.int .i64 y, .int .i64 m, .int .i64 d]] w fun e w' => e = .returned (.bool (okD y m d)) ∧ Below w.heap.size w w' := by
  have A := At3.new w (.int .i64 y) (.int .i64 m) (.int .i64 d) 23
  have HB := Lib.hid (below1 w (.cells #[.int .i64 y, .int .i64 m, .int .i64 d] 23))
  have C1 := Lib.hid (fun (wx : World) => rdays_any y m wx)
  obtain ⟨A0, A1, A2⟩ := A.bel
  clear A
  unfold okD
  generalize dim (leapB y) m = v at *
  rcases bool_le 1 y with ⟨c1, d1⟩ | ⟨c1, d1⟩
  · rcases bool_le y 9999 with ⟨c2, d2⟩ | ⟨c2, d2⟩
    · rcases bool_le 1 m with ⟨c3, d3⟩ | ⟨c3, d3⟩
      · rcases bool_le m 12 with ⟨c4, d4⟩ | ⟨c4, d4⟩
        · rcases bool_le 1 d with ⟨c5, d5⟩ | ⟨c5, d5⟩
          · rcases bool_le d v with ⟨c6, d6⟩ | ⟨c6, d6⟩
            · rw [decide_eq_true (show 1 ≤ y ∧ y ≤ 9999 ∧ 1 ≤ m ∧ m ≤ 12 ∧ 1 ≤ d ∧ d ≤ v by omega)]
              go_enter Tryd.func12, Tryd.ntmps12
              go_wp2_with fail
              refine wp_region_bel (by kernel_rfl) (by kernel_rfl) ?_
              repeat (go_big_quiet_step (first | (go_at_call 15; with_reducible refine bel_same (C1.out _))))
              refine wpQuiet_nil ?_
              intro _ hw'
              obtain ⟨pq, hw''⟩ := hw'
              subst hw''
              go_wp2_with fail
              go_ret
              exact ⟨by first | rfl | exact ret_bool (by first | (simp; done) | (simp; omega)), bstep HB.out pq.h⟩
            · rw [decide_eq_false (show ¬ (1 ≤ y ∧ y ≤ 9999 ∧ 1 ≤ m ∧ m ≤ 12 ∧ 1 ≤ d ∧ d ≤ v) by omega)]
              go_enter Tryd.func12, Tryd.ntmps12
              go_wp2_with fail
              refine wp_region_bel (by kernel_rfl) (by kernel_rfl) ?_
              repeat (go_big_quiet_step (first | (go_at_call 15; with_reducible refine bel_same (C1.out _))))
              refine wpQuiet_nil ?_
              intro _ hw'
              obtain ⟨pq, hw''⟩ := hw'
              subst hw''
              go_wp2_with fail
              go_ret
              exact ⟨by first | rfl | exact ret_bool (by first | (simp; done) | (simp; omega)), bstep HB.out pq.h⟩
          · rw [decide_eq_false (show ¬ (1 ≤ y ∧ y ≤ 9999 ∧ 1 ≤ m ∧ m ≤ 12 ∧ 1 ≤ d ∧ d ≤ v) by omega)]
            go_enter Tryd.func12, Tryd.ntmps12
            go_wp2_with fail
            refine wp_region_bel (by kernel_rfl) (by kernel_rfl) ?_
            repeat (go_big_quiet_step (first | (go_at_call 15; with_reducible refine bel_same (C1.out _))))
            refine wpQuiet_nil ?_
            intro _ hw'
            obtain ⟨pq, hw''⟩ := hw'
            subst hw''
            go_wp2_with fail
            go_ret
            exact ⟨by first | rfl | exact ret_bool (by first | (simp; done) | (simp; omega)), bstep HB.out pq.h⟩
        · rw [decide_eq_false (show ¬ (1 ≤ y ∧ y ≤ 9999 ∧ 1 ≤ m ∧ m ≤ 12 ∧ 1 ≤ d ∧ d ≤ v) by omega)]
          go_enter Tryd.func12, Tryd.ntmps12
          go_wp2_with fail
          refine wp_region_bel (by kernel_rfl) (by kernel_rfl) ?_
          repeat (go_big_quiet_step (first | (go_at_call 15; with_reducible refine bel_same (C1.out _))))
          refine wpQuiet_nil ?_
          intro _ hw'
          obtain ⟨pq, hw''⟩ := hw'
          subst hw''
          go_wp2_with fail
          go_ret
          exact ⟨by first | rfl | exact ret_bool (by first | (simp; done) | (simp; omega)), bstep HB.out pq.h⟩
      · rw [decide_eq_false (show ¬ (1 ≤ y ∧ y ≤ 9999 ∧ 1 ≤ m ∧ m ≤ 12 ∧ 1 ≤ d ∧ d ≤ v) by omega)]
        go_enter Tryd.func12, Tryd.ntmps12
        go_wp2_with fail
        refine wp_region_bel (by kernel_rfl) (by kernel_rfl) ?_
        repeat (go_big_quiet_step (first | (go_at_call 15; with_reducible refine bel_same (C1.out _))))
        refine wpQuiet_nil ?_
        intro _ hw'
        obtain ⟨pq, hw''⟩ := hw'
        subst hw''
        go_wp2_with fail
        go_ret
        exact ⟨by first | rfl | exact ret_bool (by first | (simp; done) | (simp; omega)), bstep HB.out pq.h⟩
    · rw [decide_eq_false (show ¬ (1 ≤ y ∧ y ≤ 9999 ∧ 1 ≤ m ∧ m ≤ 12 ∧ 1 ≤ d ∧ d ≤ v) by omega)]
      go_enter Tryd.func12, Tryd.ntmps12
      go_wp2_with fail
      refine wp_region_bel (by kernel_rfl) (by kernel_rfl) ?_
      repeat (go_big_quiet_step (first | (go_at_call 15; with_reducible refine bel_same (C1.out _))))
      refine wpQuiet_nil ?_
      intro _ hw'
      obtain ⟨pq, hw''⟩ := hw'
      subst hw''
      go_wp2_with fail
      go_ret
      exact ⟨by first | rfl | exact ret_bool (by first | (simp; done) | (simp; omega)), bstep HB.out pq.h⟩
  · rw [decide_eq_false (show ¬ (1 ≤ y ∧ y ≤ 9999 ∧ 1 ≤ m ∧ m ≤ 12 ∧ 1 ≤ d ∧ d ≤ v) by omega)]
    go_enter Tryd.func12, Tryd.ntmps12
    go_wp2_with fail
    refine wp_region_bel (by kernel_rfl) (by kernel_rfl) ?_
    repeat (go_big_quiet_step (first | (go_at_call 15; with_reducible refine bel_same (C1.out _))))
    refine wpQuiet_nil ?_
    intro _ hw'
    obtain ⟨pq, hw''⟩ := hw'
    subst hw''
    go_wp2_with fail
    go_ret
    exact ⟨by first | rfl | exact ret_bool (by first | (simp; done) | (simp; omega)), bstep HB.out pq.h⟩

theorem wd_eq {n : Int} (h1 : -730119 ≤ n) (h2 : n ≤ 2921939) : (n + 730119).tmod 7 = (n + 730119) % 7 ∧ ((0 ≤ n + 5 → (n + 5).tmod 7 = (n + 730119) % 7) ∧ (n + 5 < 0 → (¬ (n + 5).tmod 7 < 0 → (n + 5).tmod 7 = (n + 730119) % 7) ∧ ((n + 5).tmod 7 < 0 → (n + 5).tmod 7 + 7 = (n + 730119) % 7))) := by
  refine ⟨Int.tmod_eq_emod_of_nonneg (by omega), fun h => ?_, fun h => ?_⟩
  · rw [Int.tmod_eq_emod_of_nonneg h]; omega
  · have e : (n + 5).tmod 7 = -((-(n + 5)) % 7) := by
      rw [show n + 5 = -(-(n + 5)) by omega, Int.neg_tmod, Int.tmod_eq_emod_of_nonneg (by omega)]
      omega
    rw [e]
    omega
/-- the weekday of a number -/
def wkd (n : Int) : Int := (n + 730119) % 7 + 1
theorem wkd_in (n : Int) : 1 ≤ wkd n ∧ wkd n ≤ 7 := by unfold wkd; omega
set_option maxHeartbeats 1000000 in
theorem number_ok (y m d : Int) (w : World) (H : HasLen w) (ok : okD y m d = true) :
    Calls Tryd.prog 16 #[.agg #[.int .i64 y, .int .i64 m, .int .i64 d]] w fun e w' => e = .returned (.tuple #[.int .i64 (num y m d), .int .i64 0]) ∧ Below w.heap.size w w' := by
  have A := At3.new w (.int .i64 y) (.int .i64 m) (.int .i64 d) 23
  have HB := Lib.hid (below1 w (.cells #[.int .i64 y, .int .i64 m, .int .i64 d] 23))
  have HX := H.below HB.out
  clear H
  have CV := Lib.hid (told1 true ok (valid_any y m d _ HX))
  have k := okD_iff.1 ok
  have CY := Lib.hid (fun (wx : World) => newYear_any y wx (by omega) (by omega))
  have CD := Lib.hid (fun (wx : World) (hx : HasLen wx) => doy_any y m d wx hx ok)
  have b := bef_in (y := y) (by omega) (by omega)
  have q := num_in ok
  have q2 := ylen_in (leapB y)
  unfold num
  have s : bef y + cum (leapB y) m + d - 730120 = bef y - 730119 + (cum (leapB y) m + d) - 1 := by omega
  rw [s]
  clear s
  obtain ⟨c, hc⟩ : ∃ c, cum (leapB y) m + d = c := ⟨_, rfl⟩
  rw [hc] at q CD ⊢
  obtain ⟨u, hu⟩ : ∃ u, bef y - 730119 = u := ⟨_, rfl⟩
  rw [hu] at CY ⊢
  have u1 : -730119 ≤ u := by omega
  have u2 : u ≤ 2921940 := by omega
  have c1 : 1 ≤ c := by omega
  have c2 : c ≤ 366 := by omega
  clear k b q q2 hc hu ok
  obtain ⟨A0, A1, A2, -, -, -, -⟩ := id A
  go_enter Tryd.func16, Tryd.ntmps16
  go_wp2_with fail
  refine (CV.out).mono ?_
  rintro e w1 ⟨rfl, hb⟩
  have A := A.keep hb
  have HX := HX.below hb
  have HB := Lib.hid (bstep HB.out hb)
  clear hb A0 A1 A2 CV
  go_upto_region 3 with fail
  obtain ⟨A0, A1, A2⟩ := A.bel
  have CX := Lib.hid (fun (p : Bel w1) => CD.out p.w (HX.below p.h))
  refine wp_region_bel (by kernel_rfl) (by kernel_rfl) ?_
  repeat (go_big_quiet_step (first | (go_at_call 34; with_reducible refine bel_same (CY.out _)) | (go_at_call 35; with_reducible refine bel_of (CX.out _))))
  refine wpQuiet_nil ?_
  intro _ hw'
  obtain ⟨pq, hw''⟩ := hw'
  subst hw''
  go_wp2_with fail
  go_ret2
  exact ⟨rfl, bstep HB.out pq.h⟩
theorem number_no (y m d : Int) (w : World) (H : HasLen w) (ok : okD y m d = false) :
    Calls Tryd.prog 16 #[.agg #[.int .i64 y, .int .i64 m, .int .i64 d]] w fun e w' => e = .returned (.tuple #[.int .i64 0, .int .i64 1]) ∧ Below w.heap.size w w' := by
  have A := At3.new w (.int .i64 y) (.int .i64 m) (.int .i64 d) 23
  have HB := Lib.hid (below1 w (.cells #[.int .i64 y, .int .i64 m, .int .i64 d] 23))
  have CV := Lib.hid (told1 false ok (valid_any y m d _ (H.below HB.out)))
  clear H ok
  obtain ⟨A0, A1, A2, -, -, -, -⟩ := id A
  go_enter Tryd.func16, Tryd.ntmps16
  go_wp2_with fail
  refine (CV.out).mono ?_
  rintro e w1 ⟨rfl, hb⟩
  have HB := Lib.hid (bstep HB.out hb)
  clear hb A0 A1 A2 CV
  go_wp2_with fail
  go_ret2
  exact ⟨rfl, HB.out⟩
theorem dayOfYear_ok (y m d : Int) (w : World) (H : HasLen w) (ok : okD y m d = true) :
    Calls Tryd.prog 19 #[.agg #[.int .i64 y, .int .i64 m, .int .i64 d]] w fun e w' => e = .returned (.tuple #[.int .i64 (cum (leapB y) m + d), .int .i64 0]) ∧ Below w.heap.size w w' := by
  have A := At3.new w (.int .i64 y) (.int .i64 m) (.int .i64 d) 23
  have HB := Lib.hid (below1 w (.cells #[.int .i64 y, .int .i64 m, .int .i64 d] 23))
  have HX := H.below HB.out
  have CV := Lib.hid (told1 true ok (valid_any y m d _ HX))
  have CD := Lib.hid (fun (wx : World) (hx : HasLen wx) => doy_any y m d wx hx ok)
  clear H ok
  generalize cum (leapB y) m + d = c at *
  obtain ⟨A0, A1, A2, -, -, -, -⟩ := id A
  go_enter Tryd.func19, Tryd.ntmps19
  go_wp2_with fail
  refine (CV.out).mono ?_
  rintro e w1 ⟨rfl, hb⟩
  have A := A.keep hb
  have HX := HX.below hb
  have HB := Lib.hid (bstep HB.out hb)
  clear hb A0 A1 A2 CV
  obtain ⟨A0, A1, A2, -, -, -, -⟩ := id A
  go_wp2_with fail
  refine (CD.out _ HX).mono ?_
  rintro e w2 ⟨rfl, hb⟩
  go_wp2_with fail
  go_ret2
  exact ⟨rfl, bstep HB.out hb⟩
theorem dayOfYear_no (y m d : Int) (w : World) (H : HasLen w) (ok : okD y m d = false) :
    Calls Tryd.prog 19 #[.agg #[.int .i64 y, .int .i64 m, .int .i64 d]] w fun e w' => e = .returned (.tuple #[.int .i64 0, .int .i64 1]) ∧ Below w.heap.size w w' := by
  have A := At3.new w (.int .i64 y) (.int .i64 m) (.int .i64 d) 23
  have HB := Lib.hid (below1 w (.cells #[.int .i64 y, .int .i64 m, .int .i64 d] 23))
  have CV := Lib.hid (told1 false ok (valid_any y m d _ (H.below HB.out)))
  clear H ok
  obtain ⟨A0, A1, A2, -, -, -, -⟩ := id A
  go_enter Tryd.func19, Tryd.ntmps19
  go_wp2_with fail
  refine (CV.out).mono ?_
  rintro e w1 ⟨rfl, hb⟩
  have HB := Lib.hid (bstep HB.out hb)
  clear hb A0 A1 A2 CV
  go_wp2_with fail
  go_ret2
  exact ⟨rfl, HB.out⟩
theorem julian_ok (y m d : Int) (w : World) (H : HasLen w) (ok : okD y m d = true) :
    Calls Tryd.prog 17 #[.agg #[.int .i64 y, .int .i64 m, .int .i64 d]] w fun e w' => e = .returned (.tuple #[.int .i64 (num y m d + 2451545), .int .i64 0]) ∧ Below w.heap.size w w' := by
  have A := At3.new w (.int .i64 y) (.int .i64 m) (.int .i64 d) 23
  have HB := Lib.hid (below1 w (.cells #[.int .i64 y, .int .i64 m, .int .i64 d] 23))
  have CN := Lib.hid (number_ok y m d _ (H.below HB.out) ok)
  have k := num_range ok
  generalize num y m d = n at *
  clear H ok
  have r1 : -730119 ≤ n := k.1
  have r2 : n ≤ 2921939 := k.2
  clear k
  obtain ⟨A0, A1, A2, -, -, -, -⟩ := id A
  go_enter Tryd.func17, Tryd.ntmps17
  go_wp2_with fail
  refine (CN.out).mono ?_
  rintro e w1 ⟨rfl, hb⟩
  have HB := Lib.hid (bstep HB.out hb)
  clear hb A0 A1 A2 CN
  go_wp2_with fail
  go_ret2
  exact ⟨rfl, HB.out⟩
theorem julian_no (y m d : Int) (w : World) (H : HasLen w) (ok : okD y m d = false) :
    Calls Tryd.prog 17 #[.agg #[.int .i64 y, .int .i64 m, .int .i64 d]] w fun e w' => e = .returned (.tuple #[.int .i64 0, .int .i64 1]) ∧ Below w.heap.size w w' := by
  have A := At3.new w (.int .i64 y) (.int .i64 m) (.int .i64 d) 23
  have HB := Lib.hid (below1 w (.cells #[.int .i64 y, .int .i64 m, .int .i64 d] 23))
  have CN := Lib.hid (number_no y m d _ (H.below HB.out) ok)
  clear H ok
  obtain ⟨A0, A1, A2, -, -, -, -⟩ := id A
  go_enter Tryd.func17, Tryd.ntmps17
  go_wp2_with fail
  refine (CN.out).mono ?_
  rintro e w1 ⟨rfl, hb⟩
  have HB := Lib.hid (bstep HB.out hb)
  clear hb A0 A1 A2 CN
  go_wp2_with fail
  go_ret2
  exact ⟨rfl, HB.out⟩
theorem weekday_ok (y m d : Int) (w : World) (H : HasLen w) (ok : okD y m d = true) :
    Calls Tryd.prog 18 #[.agg #[.int .i64 y, .int .i64 m, .int .i64 d]] w fun e w' => e = .returned (.tuple #[.int .i64 (wkd (num y m d)), .int .i64 0]) ∧ Below w.heap.size w w' := by
  have A := At3.new w (.int .i64 y) (.int .i64 m) (.int .i64 d) 23
  have HB := Lib.hid (below1 w (.cells #[.int .i64 y, .int .i64 m, .int .i64 d] 23))
  have CN := Lib.hid (number_ok y m d _ (H.below HB.out) ok)
  have k := num_range ok
  generalize num y m d = n at *
  clear H ok
  obtain ⟨e1, -⟩ := wd_eq k.1 k.2
  unfold wkd
  have r1 : -730119 ≤ n := k.1
  have r2 : n ≤ 2921939 := k.2
  clear k
  have a1 : 0 ≤ (n + 730119) % 7 := by omega
  have a2 : (n + 730119) % 7 < 7 := by omega
  have e0 : wrap64 (n - -730119) = n + 730119 := w64_is (by omega) (by omega) (by omega)
  generalize (n + 730119) % 7 = r at *
  obtain ⟨A0, A1, A2, -, -, -, -⟩ := id A
  go_enter Tryd.func18, Tryd.ntmps18
  go_wp2_with fail
  refine (CN.out).mono ?_
  rintro e w1 ⟨rfl, hb⟩
  have HB := Lib.hid (bstep HB.out hb)
  clear hb A0 A1 A2 CN
  go_wp2_with fail
  go_ret2
  exact ⟨rfl, HB.out⟩
theorem weekday_no (y m d : Int) (w : World) (H : HasLen w) (ok : okD y m d = false) :
    Calls Tryd.prog 18 #[.agg #[.int .i64 y, .int .i64 m, .int .i64 d]] w fun e w' => e = .returned (.tuple #[.int .i64 0, .int .i64 1]) ∧ Below w.heap.size w w' := by
  have A := At3.new w (.int .i64 y) (.int .i64 m) (.int .i64 d) 23
  have HB := Lib.hid (below1 w (.cells #[.int .i64 y, .int .i64 m, .int .i64 d] 23))
  have CN := Lib.hid (number_no y m d _ (H.below HB.out) ok)
  clear H ok
  obtain ⟨A0, A1, A2, -, -, -, -⟩ := id A
  go_enter Tryd.func18, Tryd.ntmps18
  go_wp2_with fail
  refine (CN.out).mono ?_
  rintro e w1 ⟨rfl, hb⟩
  have HB := Lib.hid (bstep HB.out hb)
  clear hb A0 A1 A2 CN
  go_wp2_with fail
  go_ret2
  exact ⟨rfl, HB.out⟩
set_option maxHeartbeats 1000000 in
theorem rnumber_any (y m d : Int) (w : World) (ok : okD y m d = true) :
    Calls Tryd.prog 20 #[.agg #[.int .i64 y, .int .i64 m, .int .i64 d]] w fun e w' => e = .returned (.int .i64 (num y m d)) ∧ Below w.heap.size w w' := by
  have A := At3.new w (.int .i64 y) (.int .i64 m) (.int .i64 d) 23
  have HB := Lib.hid (below1 w (.cells #[.int .i64 y, .int .i64 m, .int .i64 d] 23))
  have k := okD_iff.1 ok
  have CY := Lib.hid (fun (wx : World) => rbefore_any y wx (by omega) (by omega))
  have CZ := Lib.hid (fun (wx : World) => toldS (rbefore_any 2000 wx (by omega) (by omega)) (show bef 2000 = 730119 by decide))
  have CD := Lib.hid (fun (wx : World) => rdoy_any y m d wx ok)
  have b := bef_in (y := y) (by omega) (by omega)
  have q := num_in ok
  have q2 := ylen_in (leapB y)
  have s : num y m d = bef y + (cum (leapB y) m + d) - 730119 - 1 := by unfold num; omega
  rw [s] at q ⊢
  obtain ⟨c, hc⟩ : ∃ c, cum (leapB y) m + d = c := ⟨_, rfl⟩
  rw [hc] at q CD ⊢
  obtain ⟨u, hu⟩ : ∃ u, bef y = u := ⟨_, rfl⟩
  rw [hu] at CY ⊢
  have u1 : 0 ≤ u := by omega
  have u2 : u ≤ 3652059 := by omega
  have c1 : 1 ≤ c := by omega
  have c2 : c ≤ 366 := by omega
  clear k b q q2 hc hu ok s
  obtain ⟨A0, A1, A2⟩ := A.bel
  go_enter Tryd.func20, Tryd.ntmps20
  go_wp2_with fail
  refine wp_region_bel (by kernel_rfl) (by kernel_rfl) ?_
  repeat (go_big_quiet_step (first | (go_at_call 36; first | (with_reducible refine bel_same (CY.out _)) | (with_reducible refine bel_same (CZ.out _))) | (go_at_call 22; with_reducible refine bel_of (CD.out _))))
  refine wpQuiet_nil ?_
  intro _ hw'
  obtain ⟨pq, hw''⟩ := hw'
  subst hw''
  go_wp2_with fail
  go_ret
  exact ⟨rfl, bstep HB.out pq.h⟩
theorem num_first : num 1 1 1 = -730119 := by decide
theorem num_last : num 9999 12 31 = 2921939 := by decide
theorem first_any (w : World) : Calls Tryd.prog 24 #[] w fun e w' => e = .returned (.int .i64 (-730119)) ∧ Below w.heap.size w w' := by
  have CN := Lib.hid (fun (wx : World) => toldI (-730119) num_first (rnumber_any 1 1 1 wx (by decide)))
  go_enter Tryd.func24, Tryd.ntmps24
  go_wp2_with fail
  refine (CN.out _).mono ?_
  rintro e w1 ⟨rfl, hb⟩
  go_wp2_with fail
  go_ret
  exact ⟨rfl, hb⟩
theorem last_any (w : World) : Calls Tryd.prog 25 #[] w fun e w' => e = .returned (.int .i64 2921939) ∧ Below w.heap.size w w' := by
  have CN := Lib.hid (fun (wx : World) => toldI 2921939 num_last (rnumber_any 9999 12 31 wx (by decide)))
  go_enter Tryd.func25, Tryd.ntmps25
  go_wp2_with fail
  refine (CN.out _).mono ?_
  rintro e w1 ⟨rfl, hb⟩
  go_wp2_with fail
  go_ret
  exact ⟨rfl, hb⟩
theorem rweekday_any (y m d : Int) (w : World) (ok : okD y m d = true) :
    Calls Tryd.prog 21 #[.agg #[.int .i64 y, .int .i64 m, .int .i64 d]] w fun e w' => e = .returned (.int .i64 (wkd (num y m d))) ∧ Below w.heap.size w w' := by
  have A := At3.new w (.int .i64 y) (.int .i64 m) (.int .i64 d) 23
  have HB := Lib.hid (below1 w (.cells #[.int .i64 y, .int .i64 m, .int .i64 d] 23))
  have CN := Lib.hid (fun (wx : World) => rnumber_any y m d wx ok)
  have k := num_range ok
  generalize num y m d = n at *
  clear ok
  obtain ⟨-, f1, f2⟩ := wd_eq k.1 k.2
  have tb : -7 < (n + 5).tmod 7 ∧ (n + 5).tmod 7 < 7 := ⟨by have := Int.lt_tmod_of_pos (n + 5) (show (0 : Int) < 7 by omega); omega, Int.tmod_lt_of_pos _ (by omega)⟩
  have key : (¬ (n + 5).tmod 7 < 0 → (n + 5).tmod 7 + 1 = wkd n) ∧ ((n + 5).tmod 7 < 0 → (n + 5).tmod 7 + 7 + 1 = wkd n) := by
    unfold wkd
    by_cases h : 0 ≤ n + 5
    · have := f1 h
      constructor
      · intro _; omega
      · intro c; omega
    · obtain ⟨g1, g2⟩ := f2 (by omega)
      constructor
      · intro c; have := g1 c; omega
      · intro c; have := g2 c; omega
  have r1 : -730119 ≤ n := k.1
  have r2 : n ≤ 2921939 := k.2
  clear k f1 f2
  generalize wkd n = v at *
  have e0 : wrap64 (n + 5) = n + 5 := w64_is rfl (by omega) (by omega)
  obtain ⟨t, ht⟩ : ∃ t, (n + 5).tmod 7 = t := ⟨_, rfl⟩
  rw [ht] at key tb
  have t1 := tb.1
  have t2 := tb.2
  clear tb
  obtain ⟨A0, A1, A2, -, -, -, -⟩ := id A
  by_cases c : t < 0
  · have hv := Lib.hid (key.2 c)
    clear key
    go_enter Tryd.func21, Tryd.ntmps21
    go_wp2_with fail
    refine (CN.out _).mono ?_
    rintro e w1 ⟨rfl, hb⟩
    go_wp2_with fail
    go_ret
    exact ⟨ret_int hv.out, bstep HB.out hb⟩
  · have hv := Lib.hid (key.1 c)
    clear key
    go_enter Tryd.func21, Tryd.ntmps21
    go_wp2_with fail
    refine (CN.out _).mono ?_
    rintro e w1 ⟨rfl, hb⟩
    go_wp2_with fail
    go_ret
    exact ⟨ret_int hv.out, bstep HB.out hb⟩
end Go.Proofs.YtfknmceffkagaaaDoor
