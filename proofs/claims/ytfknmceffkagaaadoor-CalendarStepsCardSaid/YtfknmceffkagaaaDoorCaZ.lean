/- Calendar: CalendarSteps: the walk. -/
import Derived.Test.YtfknmceffkagaaaDoorCaY
namespace Go.Proofs.YtfknmceffkagaaaDoor
open Go.RowKit
set_option linter.unusedVariables false
set_option maxRecDepth 100000

set_option maxHeartbeats 8000000 in
theorem steps9 (n : Int) (w : World) (H : HasLen w) :
    Calls Tryd.prog 7 #[.int .i64 n] w fun e w' => e = .returned (.bool true) ∧ Below w.heap.size w w' := by
  have HB := Lib.hid (Below.refl w.heap.size w)
  have HX := H
  clear H
  have CA := Lib.hid (fun wx (hx : HasLen wx) => awake9 wx hx)
  by_cases out : n < -730119 ∨ 2921939 < n
  · have CD := Lib.hid (fun wx (hx : HasLen wx) => dateOf_no n wx out)
    clear out
    go_enter Tryd.func7, Tryd.ntmps7
    go_wp2_with fail
    refine ((CA).out _ HX).mono ?_
    rintro e w1 ⟨rfl, hb⟩
    replace HX := HX.below hb
    replace HB := Lib.hid (bstep HB.out hb)
    clear hb
    go_wp2_with fail
    refine ((CD).out _ HX).mono ?_
    rintro e w2 ⟨rfl, hb⟩
    replace HX := HX.below hb
    replace HB := Lib.hid (bstep HB.out hb)
    clear hb
    replace HX := HX.below (below1 w2 (.cells #[.int .i64 0, .int .i64 0, .int .i64 0] 23))
    have A := At3.new w2 (.int .i64 0) (.int .i64 0) (.int .i64 0) 23
    replace HB := Lib.hid (bstep HB.out (below1 w2 (.cells #[.int .i64 0, .int .i64 0, .int .i64 0] 23)))
    obtain ⟨A0, A1, A2, -, -, -, -⟩ := id A
    go_wp2_with fail
    go_ret
    exact ⟨by first | rfl | exact ret_bool (by simp), HB.out⟩
  · obtain ⟨y, m, d, ok, hn⟩ := date_ex (n := n) (by omega) (by omega)
    have CD := Lib.hid (fun wx (hx : HasLen wx) => dateOf_ok n y m d wx hx ok hn)
    have CN := Lib.hid (fun wx (hx : HasLen wx) => toldP n hn (number_ok y m d wx hx ok))
    have CV := Lib.hid (fun wx (hx : HasLen wx) => told1 true ok (valid_any y m d wx hx))
    have n1 : -730119 ≤ n := by omega
    have n2 : n ≤ 2921939 := by omega
    clear out
    by_cases hd : d < dim (leapB y) m
    · obtain ⟨ok2, hn2⟩ := next_d ok hd
      have C8 := Lib.hid (fun wx (hx : HasLen wx) => toldP (cum (leapB y) m + d + 1) (by omega) (dayOfYear_ok y m (d + 1) wx hx ok2))
      rw [hn] at hn2
      have C1 := Lib.hid (fun wx (hx : HasLen wx) => add_ok y m d 1 y m (d + 1) wx hx ok ok2 (by rw [hn2, hn]))
      have C2 := Lib.hid (fun wx (hx : HasLen wx) => toldP (n + 1) hn2 (number_ok y m (d + 1) wx hx ok2))
      have C3 := Lib.hid (fun wx (hx : HasLen wx) => toldP (wkd n) (by rw [hn]) (weekday_ok y m d wx hx ok))
      have C4 := Lib.hid (fun wx (hx : HasLen wx) => toldP ((wkd n).tmod 7 + 1) (by rw [hn2, wkd_next]) (weekday_ok y m (d + 1) wx hx ok2))
      have C5 := Lib.hid (fun wx (hx : HasLen wx) => days_any y m wx hx)
      rw [if_pos (ymB_iff.2 (by have := okD_iff.1 ok; omega))] at C5
      unfold vIE at C5
      have C6 := Lib.hid (fun wx (hx : HasLen wx) => dayOfYear_ok y m d wx hx ok)
      have C9 := Lib.hid (fun wx (hx : HasLen wx) => toldP (-1) (by rw [cmpD_num ok ok2, hn, hn2, if_pos (by omega)]) (cmp_ok y m d y m (d + 1) wx hx ok ok2))
      obtain ⟨o1, o2, o3, o4, o5, o6⟩ := okD_iff.1 ok
      have wi := wkd_in n
      have qi := num_in ok
      have qj := ylen_in (leapB y)
      have vi := dim_in (leapB y) m
      obtain ⟨q, hq'⟩ : ∃ q, cum (leapB y) m + d = q := ⟨_, rfl⟩
      rw [hq'] at C8 C6 qi
      have q1 : 1 ≤ q := by omega
      have q2 : q ≤ 366 := by omega
      obtain ⟨v, hv⟩ : ∃ v, dim (leapB y) m = v := ⟨_, rfl⟩
      rw [hv] at hd C5 o6 vi
      obtain ⟨k, hk⟩ : ∃ k, wkd n = k := ⟨_, rfl⟩
      rw [hk] at C3 C4 wi
      obtain ⟨t, ht⟩ : ∃ t, k.tmod 7 = t := ⟨_, rfl⟩
      have t1 : 0 ≤ t := by rw [← ht, Int.tmod_eq_emod_of_nonneg (by omega)]; omega
      have t2 : t ≤ 6 := by rw [← ht, Int.tmod_eq_emod_of_nonneg (by omega)]; omega
      have v2 : v ≤ 31 := vi.2
      rw [ht] at C4
      clear hn hn2 hk hv hq' wi qi qj vi
      have hd : d < v := hd
      have d1 : 1 ≤ d := o5
      have d2 : d ≤ 30 := by omega
      clear o1 o2 o3 o4 o5 o6 ok ok2
      go_enter Tryd.func7, Tryd.ntmps7
      go_wp2_with fail
      refine ((CA).out _ HX).mono ?_
      rintro e w1 ⟨rfl, hb⟩
      replace HX := HX.below hb
      replace HB := Lib.hid (bstep HB.out hb)
      clear hb
      go_wp2_with fail
      refine ((CD).out _ HX).mono ?_
      rintro e w2 ⟨rfl, hb⟩
      replace HX := HX.below hb
      replace HB := Lib.hid (bstep HB.out hb)
      clear hb
      replace HX := HX.below (below1 w2 (.cells #[.int .i64 y, .int .i64 m, .int .i64 d] 23))
      have A := At3.new w2 (.int .i64 y) (.int .i64 m) (.int .i64 d) 23
      replace HB := Lib.hid (bstep HB.out (below1 w2 (.cells #[.int .i64 y, .int .i64 m, .int .i64 d] 23)))
      obtain ⟨A0, A1, A2, -, -, -, -⟩ := id A
      go_wp2_with fail
      refine ((CN).out _ HX).mono ?_
      rintro e w3 ⟨rfl, hb⟩
      clear A0 A1 A2
      replace A := A.keep hb
      replace HX := HX.below hb
      replace HB := Lib.hid (bstep HB.out hb)
      clear hb
      obtain ⟨A0, A1, A2, -, -, -, -⟩ := id A
      go_wp2_with fail
      refine ((CV).out _ HX).mono ?_
      rintro e w4 ⟨rfl, hb⟩
      clear A0 A1 A2
      replace A := A.keep hb
      replace HX := HX.below hb
      replace HB := Lib.hid (bstep HB.out hb)
      clear hb
      obtain ⟨A0, A1, A2, -, -, -, -⟩ := id A
      go_wp2_with fail
      refine ((C1).out _ HX).mono ?_
      rintro e w5 ⟨rfl, hb⟩
      clear A0 A1 A2
      replace A := A.keep hb
      replace HX := HX.below hb
      replace HB := Lib.hid (bstep HB.out hb)
      clear hb
      obtain ⟨A0, A1, A2, -, -, -, -⟩ := id A
      clear A0 A1 A2
      replace A := A.alloc (.cells #[.int .i64 y, .int .i64 m, .int .i64 (d + 1)] 23)
      replace HX := HX.below (below1 w5 (.cells #[.int .i64 y, .int .i64 m, .int .i64 (d + 1)] 23))
      have B := At3.new w5 (.int .i64 y) (.int .i64 m) (.int .i64 (d + 1)) 23
      replace HB := Lib.hid (bstep HB.out (below1 w5 (.cells #[.int .i64 y, .int .i64 m, .int .i64 (d + 1)] 23)))
      obtain ⟨A0, A1, A2, -, -, -, -⟩ := id A
      obtain ⟨B0, B1, B2, -, -, -, -⟩ := id B
      go_wp2_with fail
      refine ((C2).out _ HX).mono ?_
      rintro e w6 ⟨rfl, hb⟩
      clear A0 A1 A2 B0 B1 B2
      replace A := A.keep hb
      replace B := B.keep hb
      replace HX := HX.below hb
      replace HB := Lib.hid (bstep HB.out hb)
      clear hb
      obtain ⟨A0, A1, A2, -, -, -, -⟩ := id A
      obtain ⟨B0, B1, B2, -, -, -, -⟩ := id B
      go_wp2_with fail
      refine ((C3).out _ HX).mono ?_
      rintro e w7 ⟨rfl, hb⟩
      clear A0 A1 A2 B0 B1 B2
      replace A := A.keep hb
      replace B := B.keep hb
      replace HX := HX.below hb
      replace HB := Lib.hid (bstep HB.out hb)
      clear hb
      obtain ⟨A0, A1, A2, -, -, -, -⟩ := id A
      obtain ⟨B0, B1, B2, -, -, -, -⟩ := id B
      go_wp2_with fail
      refine ((C4).out _ HX).mono ?_
      rintro e w8 ⟨rfl, hb⟩
      clear A0 A1 A2 B0 B1 B2
      replace A := A.keep hb
      replace B := B.keep hb
      replace HX := HX.below hb
      replace HB := Lib.hid (bstep HB.out hb)
      clear hb
      obtain ⟨A0, A1, A2, -, -, -, -⟩ := id A
      obtain ⟨B0, B1, B2, -, -, -, -⟩ := id B
      go_wp2_with fail
      refine ((C5).out _ HX).mono ?_
      rintro e w8 ⟨rfl, rfl⟩
      go_wp2_with fail
      refine ((C6).out _ HX).mono ?_
      rintro e w9 ⟨rfl, hb⟩
      clear A0 A1 A2 B0 B1 B2
      replace A := A.keep hb
      replace B := B.keep hb
      replace HX := HX.below hb
      replace HB := Lib.hid (bstep HB.out hb)
      clear hb
      obtain ⟨A0, A1, A2, -, -, -, -⟩ := id A
      obtain ⟨B0, B1, B2, -, -, -, -⟩ := id B
      go_wp2_with fail
      refine ((C8).out _ HX).mono ?_
      rintro e w10 ⟨rfl, hb⟩
      clear A0 A1 A2 B0 B1 B2
      replace A := A.keep hb
      replace B := B.keep hb
      replace HX := HX.below hb
      replace HB := Lib.hid (bstep HB.out hb)
      clear hb
      obtain ⟨A0, A1, A2, -, -, -, -⟩ := id A
      obtain ⟨B0, B1, B2, -, -, -, -⟩ := id B
      go_wp2_with fail
      refine ((C9).out _ HX).mono ?_
      rintro e w11 ⟨rfl, hb⟩
      clear A0 A1 A2 B0 B1 B2
      replace A := A.keep hb
      replace B := B.keep hb
      replace HX := HX.below hb
      replace HB := Lib.hid (bstep HB.out hb)
      clear hb
      obtain ⟨A0, A1, A2, -, -, -, -⟩ := id A
      obtain ⟨B0, B1, B2, -, -, -, -⟩ := id B
      go_wp2_with fail
      go_ret
      exact ⟨by first | rfl | exact ret_bool (by simp), HB.out⟩
    · by_cases hm : m < 12
      · obtain ⟨ok2, hn2⟩ := next_m ok hd hm
        have C8 := Lib.hid (fun wx (hx : HasLen wx) => toldP (cum (leapB y) m + d + 1) (by have := okD_iff.1 ok; have k := cum_succ (leapB y) (m := m) (by omega) (by omega); rw [k]; omega) (dayOfYear_ok y (m + 1) 1 wx hx ok2))
        rw [hn] at hn2
        have C1 := Lib.hid (fun wx (hx : HasLen wx) => add_ok y m d 1 y (m + 1) 1 wx hx ok ok2 (by rw [hn2, hn]))
        have C2 := Lib.hid (fun wx (hx : HasLen wx) => toldP (n + 1) hn2 (number_ok y (m + 1) 1 wx hx ok2))
        have C3 := Lib.hid (fun wx (hx : HasLen wx) => toldP (wkd n) (by rw [hn]) (weekday_ok y m d wx hx ok))
        have C4 := Lib.hid (fun wx (hx : HasLen wx) => toldP ((wkd n).tmod 7 + 1) (by rw [hn2, wkd_next]) (weekday_ok y (m + 1) 1 wx hx ok2))
        have C5 := Lib.hid (fun wx (hx : HasLen wx) => days_any y m wx hx)
        rw [if_pos (ymB_iff.2 (by have := okD_iff.1 ok; omega))] at C5
        unfold vIE at C5
        have C6 := Lib.hid (fun wx (hx : HasLen wx) => dayOfYear_ok y m d wx hx ok)
        have C9 := Lib.hid (fun wx (hx : HasLen wx) => toldP (-1) (by rw [cmpD_num ok ok2, hn, hn2, if_pos (by omega)]) (cmp_ok y m d y (m + 1) 1 wx hx ok ok2))
        obtain ⟨o1, o2, o3, o4, o5, o6⟩ := okD_iff.1 ok
        have wi := wkd_in n
        have qi := num_in ok
        have qj := ylen_in (leapB y)
        have vi := dim_in (leapB y) m
        obtain ⟨q, hq'⟩ : ∃ q, cum (leapB y) m + d = q := ⟨_, rfl⟩
        rw [hq'] at C8 C6 qi
        have q1 : 1 ≤ q := by omega
        have q2 : q ≤ 366 := by omega
        obtain ⟨v, hv⟩ : ∃ v, dim (leapB y) m = v := ⟨_, rfl⟩
        rw [hv] at hd C5 o6 vi
        obtain ⟨k, hk⟩ : ∃ k, wkd n = k := ⟨_, rfl⟩
        rw [hk] at C3 C4 wi
        obtain ⟨t, ht⟩ : ∃ t, k.tmod 7 = t := ⟨_, rfl⟩
        have t1 : 0 ≤ t := by rw [← ht, Int.tmod_eq_emod_of_nonneg (by omega)]; omega
        have t2 : t ≤ 6 := by rw [← ht, Int.tmod_eq_emod_of_nonneg (by omega)]; omega
        have v2 : v ≤ 31 := vi.2
        rw [ht] at C4
        clear hn hn2 hk hv hq' wi qi qj vi
        have hd : ¬ d < v := hd
        have hm : m < 12 := hm
        have m1 : 1 ≤ m := o3
        clear o1 o2 o3 o4 o5 o6 ok ok2
        go_enter Tryd.func7, Tryd.ntmps7
        go_wp2_with fail
        refine ((CA).out _ HX).mono ?_
        rintro e w1 ⟨rfl, hb⟩
        replace HX := HX.below hb
        replace HB := Lib.hid (bstep HB.out hb)
        clear hb
        go_wp2_with fail
        refine ((CD).out _ HX).mono ?_
        rintro e w2 ⟨rfl, hb⟩
        replace HX := HX.below hb
        replace HB := Lib.hid (bstep HB.out hb)
        clear hb
        replace HX := HX.below (below1 w2 (.cells #[.int .i64 y, .int .i64 m, .int .i64 d] 23))
        have A := At3.new w2 (.int .i64 y) (.int .i64 m) (.int .i64 d) 23
        replace HB := Lib.hid (bstep HB.out (below1 w2 (.cells #[.int .i64 y, .int .i64 m, .int .i64 d] 23)))
        obtain ⟨A0, A1, A2, -, -, -, -⟩ := id A
        go_wp2_with fail
        refine ((CN).out _ HX).mono ?_
        rintro e w3 ⟨rfl, hb⟩
        clear A0 A1 A2
        replace A := A.keep hb
        replace HX := HX.below hb
        replace HB := Lib.hid (bstep HB.out hb)
        clear hb
        obtain ⟨A0, A1, A2, -, -, -, -⟩ := id A
        go_wp2_with fail
        refine ((CV).out _ HX).mono ?_
        rintro e w4 ⟨rfl, hb⟩
        clear A0 A1 A2
        replace A := A.keep hb
        replace HX := HX.below hb
        replace HB := Lib.hid (bstep HB.out hb)
        clear hb
        obtain ⟨A0, A1, A2, -, -, -, -⟩ := id A
        go_wp2_with fail
        refine ((C1).out _ HX).mono ?_
        rintro e w5 ⟨rfl, hb⟩
        clear A0 A1 A2
        replace A := A.keep hb
        replace HX := HX.below hb
        replace HB := Lib.hid (bstep HB.out hb)
        clear hb
        obtain ⟨A0, A1, A2, -, -, -, -⟩ := id A
        clear A0 A1 A2
        replace A := A.alloc (.cells #[.int .i64 y, .int .i64 (m + 1), .int .i64 1] 23)
        replace HX := HX.below (below1 w5 (.cells #[.int .i64 y, .int .i64 (m + 1), .int .i64 1] 23))
        have B := At3.new w5 (.int .i64 y) (.int .i64 (m + 1)) (.int .i64 1) 23
        replace HB := Lib.hid (bstep HB.out (below1 w5 (.cells #[.int .i64 y, .int .i64 (m + 1), .int .i64 1] 23)))
        obtain ⟨A0, A1, A2, -, -, -, -⟩ := id A
        obtain ⟨B0, B1, B2, -, -, -, -⟩ := id B
        go_wp2_with fail
        refine ((C2).out _ HX).mono ?_
        rintro e w6 ⟨rfl, hb⟩
        clear A0 A1 A2 B0 B1 B2
        replace A := A.keep hb
        replace B := B.keep hb
        replace HX := HX.below hb
        replace HB := Lib.hid (bstep HB.out hb)
        clear hb
        obtain ⟨A0, A1, A2, -, -, -, -⟩ := id A
        obtain ⟨B0, B1, B2, -, -, -, -⟩ := id B
        go_wp2_with fail
        refine ((C3).out _ HX).mono ?_
        rintro e w7 ⟨rfl, hb⟩
        clear A0 A1 A2 B0 B1 B2
        replace A := A.keep hb
        replace B := B.keep hb
        replace HX := HX.below hb
        replace HB := Lib.hid (bstep HB.out hb)
        clear hb
        obtain ⟨A0, A1, A2, -, -, -, -⟩ := id A
        obtain ⟨B0, B1, B2, -, -, -, -⟩ := id B
        go_wp2_with fail
        refine ((C4).out _ HX).mono ?_
        rintro e w8 ⟨rfl, hb⟩
        clear A0 A1 A2 B0 B1 B2
        replace A := A.keep hb
        replace B := B.keep hb
        replace HX := HX.below hb
        replace HB := Lib.hid (bstep HB.out hb)
        clear hb
        obtain ⟨A0, A1, A2, -, -, -, -⟩ := id A
        obtain ⟨B0, B1, B2, -, -, -, -⟩ := id B
        go_wp2_with fail
        refine ((C5).out _ HX).mono ?_
        rintro e w8 ⟨rfl, rfl⟩
        go_wp2_with fail
        refine ((C6).out _ HX).mono ?_
        rintro e w9 ⟨rfl, hb⟩
        clear A0 A1 A2 B0 B1 B2
        replace A := A.keep hb
        replace B := B.keep hb
        replace HX := HX.below hb
        replace HB := Lib.hid (bstep HB.out hb)
        clear hb
        obtain ⟨A0, A1, A2, -, -, -, -⟩ := id A
        obtain ⟨B0, B1, B2, -, -, -, -⟩ := id B
        go_wp2_with fail
        refine ((C8).out _ HX).mono ?_
        rintro e w10 ⟨rfl, hb⟩
        clear A0 A1 A2 B0 B1 B2
        replace A := A.keep hb
        replace B := B.keep hb
        replace HX := HX.below hb
        replace HB := Lib.hid (bstep HB.out hb)
        clear hb
        obtain ⟨A0, A1, A2, -, -, -, -⟩ := id A
        obtain ⟨B0, B1, B2, -, -, -, -⟩ := id B
        go_wp2_with fail
        refine ((C9).out _ HX).mono ?_
        rintro e w11 ⟨rfl, hb⟩
        clear A0 A1 A2 B0 B1 B2
        replace A := A.keep hb
        replace B := B.keep hb
        replace HX := HX.below hb
        replace HB := Lib.hid (bstep HB.out hb)
        clear hb
        obtain ⟨A0, A1, A2, -, -, -, -⟩ := id A
        obtain ⟨B0, B1, B2, -, -, -, -⟩ := id B
        go_wp2_with fail
        go_ret
        exact ⟨by first | rfl | exact ret_bool (by simp), HB.out⟩
      · by_cases hy : y < 9999
        · obtain ⟨ok2, hn2, hq⟩ := next_y ok hd hm hy
          have C8 := Lib.hid (fun wx (hx : HasLen wx) => toldP 1 (by rw [cum_one]; omega) (dayOfYear_ok (y + 1) 1 1 wx hx ok2))
          have CL := Lib.hid (fun wx => leap_any y wx)
          rcases Bool.eq_false_or_eq_true (leapB y) with hl | hl
          · have hq : cum (leapB y) m + d = 366 := by rw [hq, hl]; rfl
            rw [hl] at CL
            rw [hn] at hn2
            have C1 := Lib.hid (fun wx (hx : HasLen wx) => add_ok y m d 1 (y + 1) 1 1 wx hx ok ok2 (by rw [hn2, hn]))
            have C2 := Lib.hid (fun wx (hx : HasLen wx) => toldP (n + 1) hn2 (number_ok (y + 1) 1 1 wx hx ok2))
            have C3 := Lib.hid (fun wx (hx : HasLen wx) => toldP (wkd n) (by rw [hn]) (weekday_ok y m d wx hx ok))
            have C4 := Lib.hid (fun wx (hx : HasLen wx) => toldP ((wkd n).tmod 7 + 1) (by rw [hn2, wkd_next]) (weekday_ok (y + 1) 1 1 wx hx ok2))
            have C5 := Lib.hid (fun wx (hx : HasLen wx) => days_any y m wx hx)
            rw [if_pos (ymB_iff.2 (by have := okD_iff.1 ok; omega))] at C5
            unfold vIE at C5
            have C6 := Lib.hid (fun wx (hx : HasLen wx) => dayOfYear_ok y m d wx hx ok)
            have C9 := Lib.hid (fun wx (hx : HasLen wx) => toldP (-1) (by rw [cmpD_num ok ok2, hn, hn2, if_pos (by omega)]) (cmp_ok y m d (y + 1) 1 1 wx hx ok ok2))
            obtain ⟨o1, o2, o3, o4, o5, o6⟩ := okD_iff.1 ok
            have wi := wkd_in n
            have qi := num_in ok
            have qj := ylen_in (leapB y)
            have vi := dim_in (leapB y) m
            obtain ⟨q, hq'⟩ : ∃ q, cum (leapB y) m + d = q := ⟨_, rfl⟩
            rw [hq'] at hq C6 qi
            have q1 : 1 ≤ q := by omega
            have q2 : q ≤ 366 := by omega
            obtain ⟨v, hv⟩ : ∃ v, dim (leapB y) m = v := ⟨_, rfl⟩
            rw [hv] at hd C5 o6 vi
            obtain ⟨k, hk⟩ : ∃ k, wkd n = k := ⟨_, rfl⟩
            rw [hk] at C3 C4 wi
            obtain ⟨t, ht⟩ : ∃ t, k.tmod 7 = t := ⟨_, rfl⟩
            have t1 : 0 ≤ t := by rw [← ht, Int.tmod_eq_emod_of_nonneg (by omega)]; omega
            have t2 : t ≤ 6 := by rw [← ht, Int.tmod_eq_emod_of_nonneg (by omega)]; omega
            have v2 : v ≤ 31 := vi.2
            rw [ht] at C4
            clear hn hn2 hk hv hq' wi qi qj vi
            have hd : ¬ d < v := hd
            have hm : ¬ m < 12 := hm
            have y1 : 1 ≤ y := o1
            have y2 : y < 9999 := hy
            clear o1 o2 o3 o4 o5 o6 ok ok2
            subst hq
            go_enter Tryd.func7, Tryd.ntmps7
            go_wp2_with fail
            refine ((CA).out _ HX).mono ?_
            rintro e w1 ⟨rfl, hb⟩
            replace HX := HX.below hb
            replace HB := Lib.hid (bstep HB.out hb)
            clear hb
            go_wp2_with fail
            refine ((CD).out _ HX).mono ?_
            rintro e w2 ⟨rfl, hb⟩
            replace HX := HX.below hb
            replace HB := Lib.hid (bstep HB.out hb)
            clear hb
            replace HX := HX.below (below1 w2 (.cells #[.int .i64 y, .int .i64 m, .int .i64 d] 23))
            have A := At3.new w2 (.int .i64 y) (.int .i64 m) (.int .i64 d) 23
            replace HB := Lib.hid (bstep HB.out (below1 w2 (.cells #[.int .i64 y, .int .i64 m, .int .i64 d] 23)))
            obtain ⟨A0, A1, A2, -, -, -, -⟩ := id A
            go_wp2_with fail
            refine ((CN).out _ HX).mono ?_
            rintro e w3 ⟨rfl, hb⟩
            clear A0 A1 A2
            replace A := A.keep hb
            replace HX := HX.below hb
            replace HB := Lib.hid (bstep HB.out hb)
            clear hb
            obtain ⟨A0, A1, A2, -, -, -, -⟩ := id A
            go_wp2_with fail
            refine ((CV).out _ HX).mono ?_
            rintro e w4 ⟨rfl, hb⟩
            clear A0 A1 A2
            replace A := A.keep hb
            replace HX := HX.below hb
            replace HB := Lib.hid (bstep HB.out hb)
            clear hb
            obtain ⟨A0, A1, A2, -, -, -, -⟩ := id A
            go_wp2_with fail
            refine ((C1).out _ HX).mono ?_
            rintro e w5 ⟨rfl, hb⟩
            clear A0 A1 A2
            replace A := A.keep hb
            replace HX := HX.below hb
            replace HB := Lib.hid (bstep HB.out hb)
            clear hb
            obtain ⟨A0, A1, A2, -, -, -, -⟩ := id A
            clear A0 A1 A2
            replace A := A.alloc (.cells #[.int .i64 (y + 1), .int .i64 1, .int .i64 1] 23)
            replace HX := HX.below (below1 w5 (.cells #[.int .i64 (y + 1), .int .i64 1, .int .i64 1] 23))
            have B := At3.new w5 (.int .i64 (y + 1)) (.int .i64 1) (.int .i64 1) 23
            replace HB := Lib.hid (bstep HB.out (below1 w5 (.cells #[.int .i64 (y + 1), .int .i64 1, .int .i64 1] 23)))
            obtain ⟨A0, A1, A2, -, -, -, -⟩ := id A
            obtain ⟨B0, B1, B2, -, -, -, -⟩ := id B
            go_wp2_with fail
            refine ((C2).out _ HX).mono ?_
            rintro e w6 ⟨rfl, hb⟩
            clear A0 A1 A2 B0 B1 B2
            replace A := A.keep hb
            replace B := B.keep hb
            replace HX := HX.below hb
            replace HB := Lib.hid (bstep HB.out hb)
            clear hb
            obtain ⟨A0, A1, A2, -, -, -, -⟩ := id A
            obtain ⟨B0, B1, B2, -, -, -, -⟩ := id B
            go_wp2_with fail
            refine ((C3).out _ HX).mono ?_
            rintro e w7 ⟨rfl, hb⟩
            clear A0 A1 A2 B0 B1 B2
            replace A := A.keep hb
            replace B := B.keep hb
            replace HX := HX.below hb
            replace HB := Lib.hid (bstep HB.out hb)
            clear hb
            obtain ⟨A0, A1, A2, -, -, -, -⟩ := id A
            obtain ⟨B0, B1, B2, -, -, -, -⟩ := id B
            go_wp2_with fail
            refine ((C4).out _ HX).mono ?_
            rintro e w8 ⟨rfl, hb⟩
            clear A0 A1 A2 B0 B1 B2
            replace A := A.keep hb
            replace B := B.keep hb
            replace HX := HX.below hb
            replace HB := Lib.hid (bstep HB.out hb)
            clear hb
            obtain ⟨A0, A1, A2, -, -, -, -⟩ := id A
            obtain ⟨B0, B1, B2, -, -, -, -⟩ := id B
            go_wp2_with fail
            refine ((C5).out _ HX).mono ?_
            rintro e w8 ⟨rfl, rfl⟩
            go_wp2_with fail
            refine ((C6).out _ HX).mono ?_
            rintro e w9 ⟨rfl, hb⟩
            clear A0 A1 A2 B0 B1 B2
            replace A := A.keep hb
            replace B := B.keep hb
            replace HX := HX.below hb
            replace HB := Lib.hid (bstep HB.out hb)
            clear hb
            obtain ⟨A0, A1, A2, -, -, -, -⟩ := id A
            obtain ⟨B0, B1, B2, -, -, -, -⟩ := id B
            go_wp2_with fail
            refine ((C8).out _ HX).mono ?_
            rintro e w10 ⟨rfl, hb⟩
            clear A0 A1 A2 B0 B1 B2
            replace A := A.keep hb
            replace B := B.keep hb
            replace HX := HX.below hb
            replace HB := Lib.hid (bstep HB.out hb)
            clear hb
            obtain ⟨A0, A1, A2, -, -, -, -⟩ := id A
            obtain ⟨B0, B1, B2, -, -, -, -⟩ := id B
            go_wp2_with fail
            refine ((C9).out _ HX).mono ?_
            rintro e w11 ⟨rfl, hb⟩
            clear A0 A1 A2 B0 B1 B2
            replace A := A.keep hb
            replace B := B.keep hb
            replace HX := HX.below hb
            replace HB := Lib.hid (bstep HB.out hb)
            clear hb
            obtain ⟨A0, A1, A2, -, -, -, -⟩ := id A
            obtain ⟨B0, B1, B2, -, -, -, -⟩ := id B
            go_wp2_with fail
            refine ((CL).out _).mono ?_
            rintro e w11 ⟨rfl, rfl⟩
            go_wp2_with fail
            go_ret
            exact ⟨by first | rfl | exact ret_bool (by simp), HB.out⟩
          · have hq : cum (leapB y) m + d = 365 := by rw [hq, hl]; rfl
            rw [hl] at CL
            rw [hn] at hn2
            have C1 := Lib.hid (fun wx (hx : HasLen wx) => add_ok y m d 1 (y + 1) 1 1 wx hx ok ok2 (by rw [hn2, hn]))
            have C2 := Lib.hid (fun wx (hx : HasLen wx) => toldP (n + 1) hn2 (number_ok (y + 1) 1 1 wx hx ok2))
            have C3 := Lib.hid (fun wx (hx : HasLen wx) => toldP (wkd n) (by rw [hn]) (weekday_ok y m d wx hx ok))
            have C4 := Lib.hid (fun wx (hx : HasLen wx) => toldP ((wkd n).tmod 7 + 1) (by rw [hn2, wkd_next]) (weekday_ok (y + 1) 1 1 wx hx ok2))
            have C5 := Lib.hid (fun wx (hx : HasLen wx) => days_any y m wx hx)
            rw [if_pos (ymB_iff.2 (by have := okD_iff.1 ok; omega))] at C5
            unfold vIE at C5
            have C6 := Lib.hid (fun wx (hx : HasLen wx) => dayOfYear_ok y m d wx hx ok)
            have C9 := Lib.hid (fun wx (hx : HasLen wx) => toldP (-1) (by rw [cmpD_num ok ok2, hn, hn2, if_pos (by omega)]) (cmp_ok y m d (y + 1) 1 1 wx hx ok ok2))
            obtain ⟨o1, o2, o3, o4, o5, o6⟩ := okD_iff.1 ok
            have wi := wkd_in n
            have qi := num_in ok
            have qj := ylen_in (leapB y)
            have vi := dim_in (leapB y) m
            obtain ⟨q, hq'⟩ : ∃ q, cum (leapB y) m + d = q := ⟨_, rfl⟩
            rw [hq'] at hq C6 qi
            have q1 : 1 ≤ q := by omega
            have q2 : q ≤ 366 := by omega
            obtain ⟨v, hv⟩ : ∃ v, dim (leapB y) m = v := ⟨_, rfl⟩
            rw [hv] at hd C5 o6 vi
            obtain ⟨k, hk⟩ : ∃ k, wkd n = k := ⟨_, rfl⟩
            rw [hk] at C3 C4 wi
            obtain ⟨t, ht⟩ : ∃ t, k.tmod 7 = t := ⟨_, rfl⟩
            have t1 : 0 ≤ t := by rw [← ht, Int.tmod_eq_emod_of_nonneg (by omega)]; omega
            have t2 : t ≤ 6 := by rw [← ht, Int.tmod_eq_emod_of_nonneg (by omega)]; omega
            have v2 : v ≤ 31 := vi.2
            rw [ht] at C4
            clear hn hn2 hk hv hq' wi qi qj vi
            have hd : ¬ d < v := hd
            have hm : ¬ m < 12 := hm
            have y1 : 1 ≤ y := o1
            have y2 : y < 9999 := hy
            clear o1 o2 o3 o4 o5 o6 ok ok2
            subst hq
            go_enter Tryd.func7, Tryd.ntmps7
            go_wp2_with fail
            refine ((CA).out _ HX).mono ?_
            rintro e w1 ⟨rfl, hb⟩
            replace HX := HX.below hb
            replace HB := Lib.hid (bstep HB.out hb)
            clear hb
            go_wp2_with fail
            refine ((CD).out _ HX).mono ?_
            rintro e w2 ⟨rfl, hb⟩
            replace HX := HX.below hb
            replace HB := Lib.hid (bstep HB.out hb)
            clear hb
            replace HX := HX.below (below1 w2 (.cells #[.int .i64 y, .int .i64 m, .int .i64 d] 23))
            have A := At3.new w2 (.int .i64 y) (.int .i64 m) (.int .i64 d) 23
            replace HB := Lib.hid (bstep HB.out (below1 w2 (.cells #[.int .i64 y, .int .i64 m, .int .i64 d] 23)))
            obtain ⟨A0, A1, A2, -, -, -, -⟩ := id A
            go_wp2_with fail
            refine ((CN).out _ HX).mono ?_
            rintro e w3 ⟨rfl, hb⟩
            clear A0 A1 A2
            replace A := A.keep hb
            replace HX := HX.below hb
            replace HB := Lib.hid (bstep HB.out hb)
            clear hb
            obtain ⟨A0, A1, A2, -, -, -, -⟩ := id A
            go_wp2_with fail
            refine ((CV).out _ HX).mono ?_
            rintro e w4 ⟨rfl, hb⟩
            clear A0 A1 A2
            replace A := A.keep hb
            replace HX := HX.below hb
            replace HB := Lib.hid (bstep HB.out hb)
            clear hb
            obtain ⟨A0, A1, A2, -, -, -, -⟩ := id A
            go_wp2_with fail
            refine ((C1).out _ HX).mono ?_
            rintro e w5 ⟨rfl, hb⟩
            clear A0 A1 A2
            replace A := A.keep hb
            replace HX := HX.below hb
            replace HB := Lib.hid (bstep HB.out hb)
            clear hb
            obtain ⟨A0, A1, A2, -, -, -, -⟩ := id A
            clear A0 A1 A2
            replace A := A.alloc (.cells #[.int .i64 (y + 1), .int .i64 1, .int .i64 1] 23)
            replace HX := HX.below (below1 w5 (.cells #[.int .i64 (y + 1), .int .i64 1, .int .i64 1] 23))
            have B := At3.new w5 (.int .i64 (y + 1)) (.int .i64 1) (.int .i64 1) 23
            replace HB := Lib.hid (bstep HB.out (below1 w5 (.cells #[.int .i64 (y + 1), .int .i64 1, .int .i64 1] 23)))
            obtain ⟨A0, A1, A2, -, -, -, -⟩ := id A
            obtain ⟨B0, B1, B2, -, -, -, -⟩ := id B
            go_wp2_with fail
            refine ((C2).out _ HX).mono ?_
            rintro e w6 ⟨rfl, hb⟩
            clear A0 A1 A2 B0 B1 B2
            replace A := A.keep hb
            replace B := B.keep hb
            replace HX := HX.below hb
            replace HB := Lib.hid (bstep HB.out hb)
            clear hb
            obtain ⟨A0, A1, A2, -, -, -, -⟩ := id A
            obtain ⟨B0, B1, B2, -, -, -, -⟩ := id B
            go_wp2_with fail
            refine ((C3).out _ HX).mono ?_
            rintro e w7 ⟨rfl, hb⟩
            clear A0 A1 A2 B0 B1 B2
            replace A := A.keep hb
            replace B := B.keep hb
            replace HX := HX.below hb
            replace HB := Lib.hid (bstep HB.out hb)
            clear hb
            obtain ⟨A0, A1, A2, -, -, -, -⟩ := id A
            obtain ⟨B0, B1, B2, -, -, -, -⟩ := id B
            go_wp2_with fail
            refine ((C4).out _ HX).mono ?_
            rintro e w8 ⟨rfl, hb⟩
            clear A0 A1 A2 B0 B1 B2
            replace A := A.keep hb
            replace B := B.keep hb
            replace HX := HX.below hb
            replace HB := Lib.hid (bstep HB.out hb)
            clear hb
            obtain ⟨A0, A1, A2, -, -, -, -⟩ := id A
            obtain ⟨B0, B1, B2, -, -, -, -⟩ := id B
            go_wp2_with fail
            refine ((C5).out _ HX).mono ?_
            rintro e w8 ⟨rfl, rfl⟩
            go_wp2_with fail
            refine ((C6).out _ HX).mono ?_
            rintro e w9 ⟨rfl, hb⟩
            clear A0 A1 A2 B0 B1 B2
            replace A := A.keep hb
            replace B := B.keep hb
            replace HX := HX.below hb
            replace HB := Lib.hid (bstep HB.out hb)
            clear hb
            obtain ⟨A0, A1, A2, -, -, -, -⟩ := id A
            obtain ⟨B0, B1, B2, -, -, -, -⟩ := id B
            go_wp2_with fail
            refine ((C8).out _ HX).mono ?_
            rintro e w10 ⟨rfl, hb⟩
            clear A0 A1 A2 B0 B1 B2
            replace A := A.keep hb
            replace B := B.keep hb
            replace HX := HX.below hb
            replace HB := Lib.hid (bstep HB.out hb)
            clear hb
            obtain ⟨A0, A1, A2, -, -, -, -⟩ := id A
            obtain ⟨B0, B1, B2, -, -, -, -⟩ := id B
            go_wp2_with fail
            refine ((C9).out _ HX).mono ?_
            rintro e w11 ⟨rfl, hb⟩
            clear A0 A1 A2 B0 B1 B2
            replace A := A.keep hb
            replace B := B.keep hb
            replace HX := HX.below hb
            replace HB := Lib.hid (bstep HB.out hb)
            clear hb
            obtain ⟨A0, A1, A2, -, -, -, -⟩ := id A
            obtain ⟨B0, B1, B2, -, -, -, -⟩ := id B
            go_wp2_with fail
            refine ((CL).out _).mono ?_
            rintro e w11 ⟨rfl, rfl⟩
            go_wp2_with fail
            go_ret
            exact ⟨by first | rfl | exact ret_bool (by simp), HB.out⟩
        · obtain ⟨rfl, rfl, rfl⟩ := last_is ok hd hm hy
          have C1 := Lib.hid (fun wx (hx : HasLen wx) => add_range 9999 12 31 1 wx hx ok (by omega) (by omega) (by right; rw [num_last]; omega))
          clear ok hd hm hy
          go_enter Tryd.func7, Tryd.ntmps7
          go_wp2_with fail
          refine ((CA).out _ HX).mono ?_
          rintro e w1 ⟨rfl, hb⟩
          replace HX := HX.below hb
          replace HB := Lib.hid (bstep HB.out hb)
          clear hb
          go_wp2_with fail
          refine ((CD).out _ HX).mono ?_
          rintro e w2 ⟨rfl, hb⟩
          replace HX := HX.below hb
          replace HB := Lib.hid (bstep HB.out hb)
          clear hb
          replace HX := HX.below (below1 w2 (.cells #[.int .i64 9999, .int .i64 12, .int .i64 31] 23))
          have A := At3.new w2 (.int .i64 9999) (.int .i64 12) (.int .i64 31) 23
          replace HB := Lib.hid (bstep HB.out (below1 w2 (.cells #[.int .i64 9999, .int .i64 12, .int .i64 31] 23)))
          obtain ⟨A0, A1, A2, -, -, -, -⟩ := id A
          go_wp2_with fail
          refine ((CN).out _ HX).mono ?_
          rintro e w3 ⟨rfl, hb⟩
          clear A0 A1 A2
          replace A := A.keep hb
          replace HX := HX.below hb
          replace HB := Lib.hid (bstep HB.out hb)
          clear hb
          obtain ⟨A0, A1, A2, -, -, -, -⟩ := id A
          go_wp2_with fail
          refine ((CV).out _ HX).mono ?_
          rintro e w4 ⟨rfl, hb⟩
          clear A0 A1 A2
          replace A := A.keep hb
          replace HX := HX.below hb
          replace HB := Lib.hid (bstep HB.out hb)
          clear hb
          obtain ⟨A0, A1, A2, -, -, -, -⟩ := id A
          go_wp2_with fail
          refine ((C1).out _ HX).mono ?_
          rintro e w5 ⟨rfl, hb⟩
          clear A0 A1 A2
          replace A := A.keep hb
          replace HX := HX.below hb
          replace HB := Lib.hid (bstep HB.out hb)
          clear hb
          obtain ⟨A0, A1, A2, -, -, -, -⟩ := id A
          clear A0 A1 A2
          replace A := A.alloc (.cells #[.int .i64 0, .int .i64 0, .int .i64 0] 23)
          replace HX := HX.below (below1 w5 (.cells #[.int .i64 0, .int .i64 0, .int .i64 0] 23))
          have B := At3.new w5 (.int .i64 0) (.int .i64 0) (.int .i64 0) 23
          replace HB := Lib.hid (bstep HB.out (below1 w5 (.cells #[.int .i64 0, .int .i64 0, .int .i64 0] 23)))
          obtain ⟨A0, A1, A2, -, -, -, -⟩ := id A
          obtain ⟨B0, B1, B2, -, -, -, -⟩ := id B
          go_wp2_with fail
          go_ret
          exact ⟨by first | rfl | exact ret_bool (by simp), HB.out⟩
end Go.Proofs.YtfknmceffkagaaaDoor
