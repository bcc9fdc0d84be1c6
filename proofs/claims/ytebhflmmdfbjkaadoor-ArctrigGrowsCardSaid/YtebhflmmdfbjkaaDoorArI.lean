/- ArctrigBack: the walk of the law. -/
import Derived.Test.YtebhflmmdfbjkaaDoorArE
import Derived.Test.YtebhflmmdfbjkaaDoorPld
import Derived.Test.YtebhflmmdfbjkaaDoorTsb
namespace Go.Proofs.YtebhflmmdfbjkaaDoor
open Go.RowKit
set_option linter.unusedVariables false
set_option maxRecDepth 100000

theorem sL_pt (n : Int) : L6.sL n n = L6.lo n ∧ L6.sH n n = L6.hi n := by
  unfold L6.sL L6.sH
  constructor
  · by_cases c : L6.has n n (-5400000) = true
    · rw [if_pos c]
      rw [L6.has_iff] at c
      have := L6.trough_pt n ((n + 5400000) / 21600000) (by omega)
      omega
    · rw [if_neg c]; omega
  · by_cases c : L6.has n n 5400000 = true
    · rw [if_pos c]
      rw [L6.has_iff] at c
      have := L6.quarter_pt n ((n - 5400000) / 21600000) (by omega)
      omega
    · rw [if_neg c]; omega
/-- haversines lead back -/
theorem hav_back {n : Int} (h0 : 0 ≤ n) (h1 : n ≤ 10800000) : hE (hL n n) (hH n n) = 0 ∧ ahL (hL n n) (hH n n) ≤ n ∧ n ≤ ahH (hL n n) (hH n n) ∧ -2147483648 ≤ hL n n ∧ hL n n ≤ 2147483648 ∧ -2147483648 ≤ hH n n ∧ hH n n ≤ 2147483648 := by
  obtain ⟨e1, e2, b1, b2, b3, b4⟩ := hav_eq n n (by omega) (by omega) (by omega)
  obtain ⟨p1, p2⟩ := sL_pt (n + 5400000)
  obtain ⟨v1, v2⟩ := L6.lo_even n ⟨by omega, by omega⟩ ⟨by omega, by omega⟩
  have s1 : L6.sL (n + 5400000) (n + 5400000) = L6.lo (5400000 - n) := by rw [p1, v1, Int.add_comm]
  have s2 : L6.sH (n + 5400000) (n + 5400000) = L6.hi (5400000 - n) := by rw [p2, v2, Int.add_comm]
  rw [s2] at e1 b3 b4
  rw [s1] at e2 b1 b2
  clear p1 p2 v1 v2 s1 s2
  have lh := L6.lo_le_hi (5400000 - n)
  obtain ⟨i, k1, k2⟩ := L6.asin_back (n := 5400000 - n) (by omega) (by omega)
  rw [Int.tdiv_eq_ediv_of_nonneg (by omega)] at e1 e2
  generalize hL n n = x at *
  generalize hH n n = y at *
  have he : hE x y = 0 := by unfold hE; rw [if_pos ((fok_iff _ _).2 (by omega)), if_neg (by omega)]
  have ae : aE (1073741824 - 2 * min y 1073741824) (1073741824 - 2 * max x 0) = 0 := by unfold aE; rw [if_pos ((fok_iff _ _).2 (by omega)), if_neg (by omega)]
  have j : L6.InA (1073741824 - 2 * min y 1073741824) (1073741824 - 2 * max x 0) := by
    have := aE_in ae
    rwa [show max (1073741824 - 2 * min y 1073741824) (-1073741824) = 1073741824 - 2 * min y 1073741824 by omega, show min (1073741824 - 2 * max x 0) 1073741824 = 1073741824 - 2 * max x 0 by omega] at this
  obtain ⟨m1, m2⟩ := L6.asin_part j i (by omega) (by omega)
  refine ⟨he, ?_, ?_, by omega, by omega, by omega, by omega⟩
  · unfold ahL; rw [if_pos he]
    unfold acL; rw [if_pos ae]
    unfold asH; rw [if_pos ae, show min (1073741824 - 2 * max x 0) 1073741824 = 1073741824 - 2 * max x 0 by omega]
    omega
  · unfold ahH; rw [if_pos he]
    unfold acH; rw [if_pos ae]
    unfold asL; rw [if_pos ae, show max (1073741824 - 2 * min y 1073741824) (-1073741824) = 1073741824 - 2 * min y 1073741824 by omega]
    omega
theorem ac_of {l h : Int} (i : L6.InA l h) : aE l h = 0 ∧ asL l h = L6.aLo l ∧ asH l h = L6.aHi h ∧ acL l h = 5400000 - L6.aHi h ∧ acH l h = 5400000 - L6.aLo l := by
  have k : wOk l h = true := (wOk_iff _ _).2 (by obtain ⟨a, b, c⟩ := i; omega)
  obtain ⟨e1, e2, e3, -⟩ := aE_of k
  refine ⟨e1, e2, e3, ?_, ?_⟩
  · unfold acL; rw [if_pos e1, e3]
  · unfold acH; rw [if_pos e1, e2]
set_option maxHeartbeats 2000000 in
theorem back_000 (n a b : Int) (w : World) (k : wOk a b = false) (n1 : n < -5400000 ∨ 5400000 < n) (m1 : n < 0 ∨ 10800000 < n)
    (C0 : Hid (∀ wx, Below w.heap.size w wx → Calls Tryd.prog 11 #[] wx fun e w' => e = .returned (.bool true) ∧ Below wx.heap.size wx w'))
    : Calls Tryd.prog 7 #[.int .i64 n, .agg #[.int .i64 a, .int .i64 b]] w fun e w' => e = .returned (.bool true) ∧ Below w.heap.size w w' := by
  have CW := Lib.hid (fun wx => within_is a b false k wx)
  clear k
  rcases n1 with n1 | n1
  · have f1 : ¬ n ≥ -5400000 := by omega
    have g1 : ¬ n ≥ 0 := by omega
    have m1 := Lib.hid m1
    have A := At2.new w (.int .i64 a) (.int .i64 b) 23
    have HB := Lib.hid (below1 w (.cells #[.int .i64 a, .int .i64 b] 23))
    obtain ⟨A0, A1, -, -, -⟩ := id A
    go_enter Tryd.func7, Tryd.ntmps7
    go_wp2_with fail
    refine (C0.out _ HB.out).mono ?_
    rintro e1 wz1 ⟨rfl, hb⟩
    clear A0 A1
    have A := A.keep hb
    have HB := Lib.hid (bstep HB.out hb)
    clear hb
    obtain ⟨A0, A1, -, -, -⟩ := id A
    go_wp2_with fail
    refine (CW.out _).mono ?_
    rintro e2 wz2 ⟨rfl, hb⟩
    clear A0 A1
    have A := A.keep hb
    have HB := Lib.hid (bstep HB.out hb)
    clear hb
    obtain ⟨A0, A1, -, -, -⟩ := id A
    go_wp2_with fail
    go_ret
    exact ⟨rfl, HB.out⟩
  · have f1 : n ≥ -5400000 := by omega
    have f2 : ¬ n ≤ 5400000 := by omega
    have g1 : n ≥ 0 := by omega
    have g2 : ¬ n ≤ 10800000 := by omega
    have m1 := Lib.hid m1
    have A := At2.new w (.int .i64 a) (.int .i64 b) 23
    have HB := Lib.hid (below1 w (.cells #[.int .i64 a, .int .i64 b] 23))
    obtain ⟨A0, A1, -, -, -⟩ := id A
    go_enter Tryd.func7, Tryd.ntmps7
    go_wp2_with fail
    refine (C0.out _ HB.out).mono ?_
    rintro e1 wz1 ⟨rfl, hb⟩
    clear A0 A1
    have A := A.keep hb
    have HB := Lib.hid (bstep HB.out hb)
    clear hb
    obtain ⟨A0, A1, -, -, -⟩ := id A
    go_wp2_with fail
    refine (CW.out _).mono ?_
    rintro e2 wz2 ⟨rfl, hb⟩
    clear A0 A1
    have A := A.keep hb
    have HB := Lib.hid (bstep HB.out hb)
    clear hb
    obtain ⟨A0, A1, -, -, -⟩ := id A
    go_wp2_with fail
    go_ret
    exact ⟨rfl, HB.out⟩
set_option maxHeartbeats 2000000 in
theorem back_001 (n a b u1 u2 t1 t2 : Int) (w : World) (k : wOk a b = true) (n1 : n < -5400000 ∨ 5400000 < n) (m1 : n < 0 ∨ 10800000 < n)
    (C0 : Hid (∀ wx, Below w.heap.size w wx → Calls Tryd.prog 11 #[] wx fun e w' => e = .returned (.bool true) ∧ Below wx.heap.size wx w'))
    (ht1 : t1 ≤ a) (ht2 : t2 ≥ b)
    (K7 : Hid (∀ wx, Below w.heap.size w wx → Calls Tryd.prog 12 #[.agg #[.int .i64 a, .int .i64 b]] wx fun e w' => e = .returned (.tuple #[.agg #[.int .i64 u1, .int .i64 u2], .int .i64 0]) ∧ Below wx.heap.size wx w'))
    (K8 : Hid (∀ wx, Below w.heap.size w wx → Calls Tryd.prog 22 #[.agg #[.int .i64 u1, .int .i64 u2]] wx fun e w' => e = .returned (.tuple #[.agg #[.int .i64 t1, .int .i64 t2], .int .i64 0]) ∧ Below wx.heap.size wx w'))
    : Calls Tryd.prog 7 #[.int .i64 n, .agg #[.int .i64 a, .int .i64 b]] w fun e w' => e = .returned (.bool true) ∧ Below w.heap.size w w' := by
  have CW := Lib.hid (fun wx => within_is a b true k wx)
  clear k
  rcases n1 with n1 | n1
  · have f1 : ¬ n ≥ -5400000 := by omega
    have g1 : ¬ n ≥ 0 := by omega
    have m1 := Lib.hid m1
    have A := At2.new w (.int .i64 a) (.int .i64 b) 23
    have HB := Lib.hid (below1 w (.cells #[.int .i64 a, .int .i64 b] 23))
    obtain ⟨A0, A1, -, -, -⟩ := id A
    go_enter Tryd.func7, Tryd.ntmps7
    go_wp2_with fail
    refine (C0.out _ HB.out).mono ?_
    rintro e1 wz1 ⟨rfl, hb⟩
    clear A0 A1
    have A := A.keep hb
    have HB := Lib.hid (bstep HB.out hb)
    clear hb
    obtain ⟨A0, A1, -, -, -⟩ := id A
    go_wp2_with fail
    refine (CW.out _).mono ?_
    rintro e2 wz2 ⟨rfl, hb⟩
    clear A0 A1
    have A := A.keep hb
    have HB := Lib.hid (bstep HB.out hb)
    clear hb
    obtain ⟨A0, A1, -, -, -⟩ := id A
    go_wp2_with fail
    refine (K7.out _ HB.out).mono ?_
    rintro e3 wz3 ⟨rfl, hb⟩
    clear A0 A1
    have A := A.keep hb
    have HB := Lib.hid (bstep HB.out hb)
    clear hb
    have A := A.alloc (.cells #[.int .i64 u1, .int .i64 u2] 25)
    have P := At2.new wz3 (.int .i64 u1) (.int .i64 u2) 25
    have HB := Lib.hid (bstep HB.out (below1 wz3 (.cells #[.int .i64 u1, .int .i64 u2] 25)))
    obtain ⟨A0, A1, -, -, -⟩ := id A
    obtain ⟨P0, P1, -, -, -⟩ := id P
    go_wp2_with fail
    refine (K8.out _ HB.out).mono ?_
    rintro e4 wz4 ⟨rfl, hb⟩
    clear A0 A1 P0 P1
    have A := A.keep hb
    have P := P.keep hb
    have HB := Lib.hid (bstep HB.out hb)
    clear hb
    have A := A.alloc (.cells #[.int .i64 t1, .int .i64 t2] 23)
    have P := P.alloc (.cells #[.int .i64 t1, .int .i64 t2] 23)
    have Q := At2.new wz4 (.int .i64 t1) (.int .i64 t2) 23
    have HB := Lib.hid (bstep HB.out (below1 wz4 (.cells #[.int .i64 t1, .int .i64 t2] 23)))
    obtain ⟨A0, A1, -, -, -⟩ := id A
    obtain ⟨P0, P1, -, -, -⟩ := id P
    obtain ⟨Q0, Q1, -, -, -⟩ := id Q
    go_wp2_with fail
    go_ret
    exact ⟨rfl, HB.out⟩
  · have f1 : n ≥ -5400000 := by omega
    have f2 : ¬ n ≤ 5400000 := by omega
    have g1 : n ≥ 0 := by omega
    have g2 : ¬ n ≤ 10800000 := by omega
    have m1 := Lib.hid m1
    have A := At2.new w (.int .i64 a) (.int .i64 b) 23
    have HB := Lib.hid (below1 w (.cells #[.int .i64 a, .int .i64 b] 23))
    obtain ⟨A0, A1, -, -, -⟩ := id A
    go_enter Tryd.func7, Tryd.ntmps7
    go_wp2_with fail
    refine (C0.out _ HB.out).mono ?_
    rintro e1 wz1 ⟨rfl, hb⟩
    clear A0 A1
    have A := A.keep hb
    have HB := Lib.hid (bstep HB.out hb)
    clear hb
    obtain ⟨A0, A1, -, -, -⟩ := id A
    go_wp2_with fail
    refine (CW.out _).mono ?_
    rintro e2 wz2 ⟨rfl, hb⟩
    clear A0 A1
    have A := A.keep hb
    have HB := Lib.hid (bstep HB.out hb)
    clear hb
    obtain ⟨A0, A1, -, -, -⟩ := id A
    go_wp2_with fail
    refine (K7.out _ HB.out).mono ?_
    rintro e3 wz3 ⟨rfl, hb⟩
    clear A0 A1
    have A := A.keep hb
    have HB := Lib.hid (bstep HB.out hb)
    clear hb
    have A := A.alloc (.cells #[.int .i64 u1, .int .i64 u2] 25)
    have P := At2.new wz3 (.int .i64 u1) (.int .i64 u2) 25
    have HB := Lib.hid (bstep HB.out (below1 wz3 (.cells #[.int .i64 u1, .int .i64 u2] 25)))
    obtain ⟨A0, A1, -, -, -⟩ := id A
    obtain ⟨P0, P1, -, -, -⟩ := id P
    go_wp2_with fail
    refine (K8.out _ HB.out).mono ?_
    rintro e4 wz4 ⟨rfl, hb⟩
    clear A0 A1 P0 P1
    have A := A.keep hb
    have P := P.keep hb
    have HB := Lib.hid (bstep HB.out hb)
    clear hb
    have A := A.alloc (.cells #[.int .i64 t1, .int .i64 t2] 23)
    have P := P.alloc (.cells #[.int .i64 t1, .int .i64 t2] 23)
    have Q := At2.new wz4 (.int .i64 t1) (.int .i64 t2) 23
    have HB := Lib.hid (bstep HB.out (below1 wz4 (.cells #[.int .i64 t1, .int .i64 t2] 23)))
    obtain ⟨A0, A1, -, -, -⟩ := id A
    obtain ⟨P0, P1, -, -, -⟩ := id P
    obtain ⟨Q0, Q1, -, -, -⟩ := id Q
    go_wp2_with fail
    go_ret
    exact ⟨rfl, HB.out⟩
set_option maxHeartbeats 2000000 in
theorem back_010 (n a b c1 c2 v1 v2 y1 y2 z1 z2 : Int) (w : World) (k : wOk a b = false) (n1 : n < -5400000 ∨ 5400000 < n) (m1 : 0 ≤ n) (m2 : n ≤ 10800000)
    (C0 : Hid (∀ wx, Below w.heap.size w wx → Calls Tryd.prog 11 #[] wx fun e w' => e = .returned (.bool true) ∧ Below wx.heap.size wx w'))
    (hy1 : ¬ y1 > n) (hy2 : ¬ y2 < n) (hz1 : ¬ z1 > n) (hz2 : ¬ z2 < n)
    (K3 : Hid (∀ wx, Below w.heap.size w wx → Calls Tryd.prog 23 #[.agg #[.int .i64 n, .int .i64 n]] wx fun e w' => e = .returned (.tuple #[.agg #[.int .i64 c1, .int .i64 c2], .int .i64 0]) ∧ Below wx.heap.size wx w'))
    (K4 : Hid (∀ wx, Below w.heap.size w wx → Calls Tryd.prog 24 #[.agg #[.int .i64 n, .int .i64 n]] wx fun e w' => e = .returned (.tuple #[.agg #[.int .i64 v1, .int .i64 v2], .int .i64 0]) ∧ Below wx.heap.size wx w'))
    (K5 : Hid (∀ wx, Below w.heap.size w wx → Calls Tryd.prog 13 #[.agg #[.int .i64 c1, .int .i64 c2]] wx fun e w' => e = .returned (.tuple #[.agg #[.int .i64 y1, .int .i64 y2], .int .i64 0]) ∧ Below wx.heap.size wx w'))
    (K6 : Hid (∀ wx, Below w.heap.size w wx → Calls Tryd.prog 14 #[.agg #[.int .i64 v1, .int .i64 v2]] wx fun e w' => e = .returned (.tuple #[.agg #[.int .i64 z1, .int .i64 z2], .int .i64 0]) ∧ Below wx.heap.size wx w'))
    : Calls Tryd.prog 7 #[.int .i64 n, .agg #[.int .i64 a, .int .i64 b]] w fun e w' => e = .returned (.bool true) ∧ Below w.heap.size w w' := by
  have CW := Lib.hid (fun wx => within_is a b false k wx)
  clear k
  rcases n1 with n1 | n1
  · omega
  · have f1 : n ≥ -5400000 := by omega
    have f2 : ¬ n ≤ 5400000 := by omega
    have g1 : n ≥ 0 := by omega
    have g2 : n ≤ 10800000 := by omega
    have A := At2.new w (.int .i64 a) (.int .i64 b) 23
    have HB := Lib.hid (below1 w (.cells #[.int .i64 a, .int .i64 b] 23))
    obtain ⟨A0, A1, -, -, -⟩ := id A
    go_enter Tryd.func7, Tryd.ntmps7
    go_wp2_with fail
    refine (C0.out _ HB.out).mono ?_
    rintro e1 wz1 ⟨rfl, hb⟩
    clear A0 A1
    have A := A.keep hb
    have HB := Lib.hid (bstep HB.out hb)
    clear hb
    obtain ⟨A0, A1, -, -, -⟩ := id A
    go_wp2_with fail
    refine (K3.out _ HB.out).mono ?_
    rintro e2 wz2 ⟨rfl, hb⟩
    clear A0 A1
    have A := A.keep hb
    have HB := Lib.hid (bstep HB.out hb)
    clear hb
    have A := A.alloc (.cells #[.int .i64 c1, .int .i64 c2] 23)
    have U := At2.new wz2 (.int .i64 c1) (.int .i64 c2) 23
    have HB := Lib.hid (bstep HB.out (below1 wz2 (.cells #[.int .i64 c1, .int .i64 c2] 23)))
    obtain ⟨A0, A1, -, -, -⟩ := id A
    obtain ⟨U0, U1, -, -, -⟩ := id U
    go_wp2_with fail
    refine (K4.out _ HB.out).mono ?_
    rintro e3 wz3 ⟨rfl, hb⟩
    clear A0 A1 U0 U1
    have A := A.keep hb
    have U := U.keep hb
    have HB := Lib.hid (bstep HB.out hb)
    clear hb
    have A := A.alloc (.cells #[.int .i64 v1, .int .i64 v2] 23)
    have U := U.alloc (.cells #[.int .i64 v1, .int .i64 v2] 23)
    have V := At2.new wz3 (.int .i64 v1) (.int .i64 v2) 23
    have HB := Lib.hid (bstep HB.out (below1 wz3 (.cells #[.int .i64 v1, .int .i64 v2] 23)))
    obtain ⟨A0, A1, -, -, -⟩ := id A
    obtain ⟨U0, U1, -, -, -⟩ := id U
    obtain ⟨V0, V1, -, -, -⟩ := id V
    go_wp2_with fail
    refine (K5.out _ HB.out).mono ?_
    rintro e4 wz4 ⟨rfl, hb⟩
    clear A0 A1 U0 U1 V0 V1
    have A := A.keep hb
    have U := U.keep hb
    have V := V.keep hb
    have HB := Lib.hid (bstep HB.out hb)
    clear hb
    have A := A.alloc (.cells #[.int .i64 y1, .int .i64 y2] 25)
    have U := U.alloc (.cells #[.int .i64 y1, .int .i64 y2] 25)
    have V := V.alloc (.cells #[.int .i64 y1, .int .i64 y2] 25)
    have Y := At2.new wz4 (.int .i64 y1) (.int .i64 y2) 25
    have HB := Lib.hid (bstep HB.out (below1 wz4 (.cells #[.int .i64 y1, .int .i64 y2] 25)))
    obtain ⟨A0, A1, -, -, -⟩ := id A
    obtain ⟨U0, U1, -, -, -⟩ := id U
    obtain ⟨V0, V1, -, -, -⟩ := id V
    obtain ⟨Y0, Y1, -, -, -⟩ := id Y
    go_wp2_with fail
    refine (K6.out _ HB.out).mono ?_
    rintro e5 wz5 ⟨rfl, hb⟩
    clear A0 A1 U0 U1 V0 V1 Y0 Y1
    have A := A.keep hb
    have U := U.keep hb
    have V := V.keep hb
    have Y := Y.keep hb
    have HB := Lib.hid (bstep HB.out hb)
    clear hb
    have A := A.alloc (.cells #[.int .i64 z1, .int .i64 z2] 25)
    have U := U.alloc (.cells #[.int .i64 z1, .int .i64 z2] 25)
    have V := V.alloc (.cells #[.int .i64 z1, .int .i64 z2] 25)
    have Y := Y.alloc (.cells #[.int .i64 z1, .int .i64 z2] 25)
    have Z := At2.new wz5 (.int .i64 z1) (.int .i64 z2) 25
    have HB := Lib.hid (bstep HB.out (below1 wz5 (.cells #[.int .i64 z1, .int .i64 z2] 25)))
    obtain ⟨A0, A1, -, -, -⟩ := id A
    obtain ⟨U0, U1, -, -, -⟩ := id U
    obtain ⟨V0, V1, -, -, -⟩ := id V
    obtain ⟨Y0, Y1, -, -, -⟩ := id Y
    obtain ⟨Z0, Z1, -, -, -⟩ := id Z
    go_wp2_with fail
    refine (CW.out _).mono ?_
    rintro e6 wz6 ⟨rfl, hb⟩
    clear A0 A1 U0 U1 V0 V1 Y0 Y1 Z0 Z1
    have A := A.keep hb
    have U := U.keep hb
    have V := V.keep hb
    have Y := Y.keep hb
    have Z := Z.keep hb
    have HB := Lib.hid (bstep HB.out hb)
    clear hb
    obtain ⟨A0, A1, -, -, -⟩ := id A
    obtain ⟨U0, U1, -, -, -⟩ := id U
    obtain ⟨V0, V1, -, -, -⟩ := id V
    obtain ⟨Y0, Y1, -, -, -⟩ := id Y
    obtain ⟨Z0, Z1, -, -, -⟩ := id Z
    go_wp2_with fail
    go_ret
    exact ⟨rfl, HB.out⟩
set_option maxHeartbeats 2000000 in
theorem back_011 (n a b c1 c2 v1 v2 y1 y2 z1 z2 u1 u2 t1 t2 : Int) (w : World) (k : wOk a b = true) (n1 : n < -5400000 ∨ 5400000 < n) (m1 : 0 ≤ n) (m2 : n ≤ 10800000)
    (C0 : Hid (∀ wx, Below w.heap.size w wx → Calls Tryd.prog 11 #[] wx fun e w' => e = .returned (.bool true) ∧ Below wx.heap.size wx w'))
    (hy1 : ¬ y1 > n) (hy2 : ¬ y2 < n) (hz1 : ¬ z1 > n) (hz2 : ¬ z2 < n)
    (K3 : Hid (∀ wx, Below w.heap.size w wx → Calls Tryd.prog 23 #[.agg #[.int .i64 n, .int .i64 n]] wx fun e w' => e = .returned (.tuple #[.agg #[.int .i64 c1, .int .i64 c2], .int .i64 0]) ∧ Below wx.heap.size wx w'))
    (K4 : Hid (∀ wx, Below w.heap.size w wx → Calls Tryd.prog 24 #[.agg #[.int .i64 n, .int .i64 n]] wx fun e w' => e = .returned (.tuple #[.agg #[.int .i64 v1, .int .i64 v2], .int .i64 0]) ∧ Below wx.heap.size wx w'))
    (K5 : Hid (∀ wx, Below w.heap.size w wx → Calls Tryd.prog 13 #[.agg #[.int .i64 c1, .int .i64 c2]] wx fun e w' => e = .returned (.tuple #[.agg #[.int .i64 y1, .int .i64 y2], .int .i64 0]) ∧ Below wx.heap.size wx w'))
    (K6 : Hid (∀ wx, Below w.heap.size w wx → Calls Tryd.prog 14 #[.agg #[.int .i64 v1, .int .i64 v2]] wx fun e w' => e = .returned (.tuple #[.agg #[.int .i64 z1, .int .i64 z2], .int .i64 0]) ∧ Below wx.heap.size wx w'))
    (ht1 : t1 ≤ a) (ht2 : t2 ≥ b)
    (K7 : Hid (∀ wx, Below w.heap.size w wx → Calls Tryd.prog 12 #[.agg #[.int .i64 a, .int .i64 b]] wx fun e w' => e = .returned (.tuple #[.agg #[.int .i64 u1, .int .i64 u2], .int .i64 0]) ∧ Below wx.heap.size wx w'))
    (K8 : Hid (∀ wx, Below w.heap.size w wx → Calls Tryd.prog 22 #[.agg #[.int .i64 u1, .int .i64 u2]] wx fun e w' => e = .returned (.tuple #[.agg #[.int .i64 t1, .int .i64 t2], .int .i64 0]) ∧ Below wx.heap.size wx w'))
    : Calls Tryd.prog 7 #[.int .i64 n, .agg #[.int .i64 a, .int .i64 b]] w fun e w' => e = .returned (.bool true) ∧ Below w.heap.size w w' := by
  have CW := Lib.hid (fun wx => within_is a b true k wx)
  clear k
  rcases n1 with n1 | n1
  · omega
  · have f1 : n ≥ -5400000 := by omega
    have f2 : ¬ n ≤ 5400000 := by omega
    have g1 : n ≥ 0 := by omega
    have g2 : n ≤ 10800000 := by omega
    have A := At2.new w (.int .i64 a) (.int .i64 b) 23
    have HB := Lib.hid (below1 w (.cells #[.int .i64 a, .int .i64 b] 23))
    obtain ⟨A0, A1, -, -, -⟩ := id A
    go_enter Tryd.func7, Tryd.ntmps7
    go_wp2_with fail
    refine (C0.out _ HB.out).mono ?_
    rintro e1 wz1 ⟨rfl, hb⟩
    clear A0 A1
    have A := A.keep hb
    have HB := Lib.hid (bstep HB.out hb)
    clear hb
    obtain ⟨A0, A1, -, -, -⟩ := id A
    go_wp2_with fail
    refine (K3.out _ HB.out).mono ?_
    rintro e2 wz2 ⟨rfl, hb⟩
    clear A0 A1
    have A := A.keep hb
    have HB := Lib.hid (bstep HB.out hb)
    clear hb
    have A := A.alloc (.cells #[.int .i64 c1, .int .i64 c2] 23)
    have U := At2.new wz2 (.int .i64 c1) (.int .i64 c2) 23
    have HB := Lib.hid (bstep HB.out (below1 wz2 (.cells #[.int .i64 c1, .int .i64 c2] 23)))
    obtain ⟨A0, A1, -, -, -⟩ := id A
    obtain ⟨U0, U1, -, -, -⟩ := id U
    go_wp2_with fail
    refine (K4.out _ HB.out).mono ?_
    rintro e3 wz3 ⟨rfl, hb⟩
    clear A0 A1 U0 U1
    have A := A.keep hb
    have U := U.keep hb
    have HB := Lib.hid (bstep HB.out hb)
    clear hb
    have A := A.alloc (.cells #[.int .i64 v1, .int .i64 v2] 23)
    have U := U.alloc (.cells #[.int .i64 v1, .int .i64 v2] 23)
    have V := At2.new wz3 (.int .i64 v1) (.int .i64 v2) 23
    have HB := Lib.hid (bstep HB.out (below1 wz3 (.cells #[.int .i64 v1, .int .i64 v2] 23)))
    obtain ⟨A0, A1, -, -, -⟩ := id A
    obtain ⟨U0, U1, -, -, -⟩ := id U
    obtain ⟨V0, V1, -, -, -⟩ := id V
    go_wp2_with fail
    refine (K5.out _ HB.out).mono ?_
    rintro e4 wz4 ⟨rfl, hb⟩
    clear A0 A1 U0 U1 V0 V1
    have A := A.keep hb
    have U := U.keep hb
    have V := V.keep hb
    have HB := Lib.hid (bstep HB.out hb)
    clear hb
    have A := A.alloc (.cells #[.int .i64 y1, .int .i64 y2] 25)
    have U := U.alloc (.cells #[.int .i64 y1, .int .i64 y2] 25)
    have V := V.alloc (.cells #[.int .i64 y1, .int .i64 y2] 25)
    have Y := At2.new wz4 (.int .i64 y1) (.int .i64 y2) 25
    have HB := Lib.hid (bstep HB.out (below1 wz4 (.cells #[.int .i64 y1, .int .i64 y2] 25)))
    obtain ⟨A0, A1, -, -, -⟩ := id A
    obtain ⟨U0, U1, -, -, -⟩ := id U
    obtain ⟨V0, V1, -, -, -⟩ := id V
    obtain ⟨Y0, Y1, -, -, -⟩ := id Y
    go_wp2_with fail
    refine (K6.out _ HB.out).mono ?_
    rintro e5 wz5 ⟨rfl, hb⟩
    clear A0 A1 U0 U1 V0 V1 Y0 Y1
    have A := A.keep hb
    have U := U.keep hb
    have V := V.keep hb
    have Y := Y.keep hb
    have HB := Lib.hid (bstep HB.out hb)
    clear hb
    have A := A.alloc (.cells #[.int .i64 z1, .int .i64 z2] 25)
    have U := U.alloc (.cells #[.int .i64 z1, .int .i64 z2] 25)
    have V := V.alloc (.cells #[.int .i64 z1, .int .i64 z2] 25)
    have Y := Y.alloc (.cells #[.int .i64 z1, .int .i64 z2] 25)
    have Z := At2.new wz5 (.int .i64 z1) (.int .i64 z2) 25
    have HB := Lib.hid (bstep HB.out (below1 wz5 (.cells #[.int .i64 z1, .int .i64 z2] 25)))
    obtain ⟨A0, A1, -, -, -⟩ := id A
    obtain ⟨U0, U1, -, -, -⟩ := id U
    obtain ⟨V0, V1, -, -, -⟩ := id V
    obtain ⟨Y0, Y1, -, -, -⟩ := id Y
    obtain ⟨Z0, Z1, -, -, -⟩ := id Z
    go_wp2_with fail
    refine (CW.out _).mono ?_
    rintro e6 wz6 ⟨rfl, hb⟩
    clear A0 A1 U0 U1 V0 V1 Y0 Y1 Z0 Z1
    have A := A.keep hb
    have U := U.keep hb
    have V := V.keep hb
    have Y := Y.keep hb
    have Z := Z.keep hb
    have HB := Lib.hid (bstep HB.out hb)
    clear hb
    obtain ⟨A0, A1, -, -, -⟩ := id A
    obtain ⟨U0, U1, -, -, -⟩ := id U
    obtain ⟨V0, V1, -, -, -⟩ := id V
    obtain ⟨Y0, Y1, -, -, -⟩ := id Y
    obtain ⟨Z0, Z1, -, -, -⟩ := id Z
    go_wp2_with fail
    refine (K7.out _ HB.out).mono ?_
    rintro e7 wz7 ⟨rfl, hb⟩
    clear A0 A1 U0 U1 V0 V1 Y0 Y1 Z0 Z1
    have A := A.keep hb
    have U := U.keep hb
    have V := V.keep hb
    have Y := Y.keep hb
    have Z := Z.keep hb
    have HB := Lib.hid (bstep HB.out hb)
    clear hb
    have A := A.alloc (.cells #[.int .i64 u1, .int .i64 u2] 25)
    have U := U.alloc (.cells #[.int .i64 u1, .int .i64 u2] 25)
    have V := V.alloc (.cells #[.int .i64 u1, .int .i64 u2] 25)
    have Y := Y.alloc (.cells #[.int .i64 u1, .int .i64 u2] 25)
    have Z := Z.alloc (.cells #[.int .i64 u1, .int .i64 u2] 25)
    have P := At2.new wz7 (.int .i64 u1) (.int .i64 u2) 25
    have HB := Lib.hid (bstep HB.out (below1 wz7 (.cells #[.int .i64 u1, .int .i64 u2] 25)))
    obtain ⟨A0, A1, -, -, -⟩ := id A
    obtain ⟨U0, U1, -, -, -⟩ := id U
    obtain ⟨V0, V1, -, -, -⟩ := id V
    obtain ⟨Y0, Y1, -, -, -⟩ := id Y
    obtain ⟨Z0, Z1, -, -, -⟩ := id Z
    obtain ⟨P0, P1, -, -, -⟩ := id P
    go_wp2_with fail
    refine (K8.out _ HB.out).mono ?_
    rintro e8 wz8 ⟨rfl, hb⟩
    clear A0 A1 U0 U1 V0 V1 Y0 Y1 Z0 Z1 P0 P1
    have A := A.keep hb
    have U := U.keep hb
    have V := V.keep hb
    have Y := Y.keep hb
    have Z := Z.keep hb
    have P := P.keep hb
    have HB := Lib.hid (bstep HB.out hb)
    clear hb
    have A := A.alloc (.cells #[.int .i64 t1, .int .i64 t2] 23)
    have U := U.alloc (.cells #[.int .i64 t1, .int .i64 t2] 23)
    have V := V.alloc (.cells #[.int .i64 t1, .int .i64 t2] 23)
    have Y := Y.alloc (.cells #[.int .i64 t1, .int .i64 t2] 23)
    have Z := Z.alloc (.cells #[.int .i64 t1, .int .i64 t2] 23)
    have P := P.alloc (.cells #[.int .i64 t1, .int .i64 t2] 23)
    have Q := At2.new wz8 (.int .i64 t1) (.int .i64 t2) 23
    have HB := Lib.hid (bstep HB.out (below1 wz8 (.cells #[.int .i64 t1, .int .i64 t2] 23)))
    obtain ⟨A0, A1, -, -, -⟩ := id A
    obtain ⟨U0, U1, -, -, -⟩ := id U
    obtain ⟨V0, V1, -, -, -⟩ := id V
    obtain ⟨Y0, Y1, -, -, -⟩ := id Y
    obtain ⟨Z0, Z1, -, -, -⟩ := id Z
    obtain ⟨P0, P1, -, -, -⟩ := id P
    obtain ⟨Q0, Q1, -, -, -⟩ := id Q
    go_wp2_with fail
    go_ret
    exact ⟨rfl, HB.out⟩
set_option maxHeartbeats 2000000 in
theorem back_100 (n a b s1 s2 x1 x2 : Int) (w : World) (k : wOk a b = false) (n1 : -5400000 ≤ n) (n2 : n ≤ 5400000) (m1 : n < 0 ∨ 10800000 < n)
    (C0 : Hid (∀ wx, Below w.heap.size w wx → Calls Tryd.prog 11 #[] wx fun e w' => e = .returned (.bool true) ∧ Below wx.heap.size wx w'))
    (hx1 : ¬ x1 > n) (hx2 : ¬ x2 < n)
    (K1 : Hid (∀ wx, Below w.heap.size w wx → Calls Tryd.prog 22 #[.agg #[.int .i64 n, .int .i64 n]] wx fun e w' => e = .returned (.tuple #[.agg #[.int .i64 s1, .int .i64 s2], .int .i64 0]) ∧ Below wx.heap.size wx w'))
    (K2 : Hid (∀ wx, Below w.heap.size w wx → Calls Tryd.prog 12 #[.agg #[.int .i64 s1, .int .i64 s2]] wx fun e w' => e = .returned (.tuple #[.agg #[.int .i64 x1, .int .i64 x2], .int .i64 0]) ∧ Below wx.heap.size wx w'))
    : Calls Tryd.prog 7 #[.int .i64 n, .agg #[.int .i64 a, .int .i64 b]] w fun e w' => e = .returned (.bool true) ∧ Below w.heap.size w w' := by
  have CW := Lib.hid (fun wx => within_is a b false k wx)
  clear k
  have f1 : n ≥ -5400000 := n1
  have g1 : ¬ n ≥ 0 := by omega
  clear m1
  have A := At2.new w (.int .i64 a) (.int .i64 b) 23
  have HB := Lib.hid (below1 w (.cells #[.int .i64 a, .int .i64 b] 23))
  obtain ⟨A0, A1, -, -, -⟩ := id A
  go_enter Tryd.func7, Tryd.ntmps7
  go_wp2_with fail
  refine (C0.out _ HB.out).mono ?_
  rintro e1 wz1 ⟨rfl, hb⟩
  clear A0 A1
  have A := A.keep hb
  have HB := Lib.hid (bstep HB.out hb)
  clear hb
  obtain ⟨A0, A1, -, -, -⟩ := id A
  go_wp2_with fail
  refine (K1.out _ HB.out).mono ?_
  rintro e2 wz2 ⟨rfl, hb⟩
  clear A0 A1
  have A := A.keep hb
  have HB := Lib.hid (bstep HB.out hb)
  clear hb
  have A := A.alloc (.cells #[.int .i64 s1, .int .i64 s2] 23)
  have S := At2.new wz2 (.int .i64 s1) (.int .i64 s2) 23
  have HB := Lib.hid (bstep HB.out (below1 wz2 (.cells #[.int .i64 s1, .int .i64 s2] 23)))
  obtain ⟨A0, A1, -, -, -⟩ := id A
  obtain ⟨S0, S1, -, -, -⟩ := id S
  go_wp2_with fail
  refine (K2.out _ HB.out).mono ?_
  rintro e3 wz3 ⟨rfl, hb⟩
  clear A0 A1 S0 S1
  have A := A.keep hb
  have S := S.keep hb
  have HB := Lib.hid (bstep HB.out hb)
  clear hb
  have A := A.alloc (.cells #[.int .i64 x1, .int .i64 x2] 25)
  have S := S.alloc (.cells #[.int .i64 x1, .int .i64 x2] 25)
  have X := At2.new wz3 (.int .i64 x1) (.int .i64 x2) 25
  have HB := Lib.hid (bstep HB.out (below1 wz3 (.cells #[.int .i64 x1, .int .i64 x2] 25)))
  obtain ⟨A0, A1, -, -, -⟩ := id A
  obtain ⟨S0, S1, -, -, -⟩ := id S
  obtain ⟨X0, X1, -, -, -⟩ := id X
  go_wp2_with fail
  refine (CW.out _).mono ?_
  rintro e4 wz4 ⟨rfl, hb⟩
  clear A0 A1 S0 S1 X0 X1
  have A := A.keep hb
  have S := S.keep hb
  have X := X.keep hb
  have HB := Lib.hid (bstep HB.out hb)
  clear hb
  obtain ⟨A0, A1, -, -, -⟩ := id A
  obtain ⟨S0, S1, -, -, -⟩ := id S
  obtain ⟨X0, X1, -, -, -⟩ := id X
  go_wp2_with fail
  go_ret
  exact ⟨rfl, HB.out⟩
set_option maxHeartbeats 2000000 in
theorem back_101 (n a b s1 s2 x1 x2 u1 u2 t1 t2 : Int) (w : World) (k : wOk a b = true) (n1 : -5400000 ≤ n) (n2 : n ≤ 5400000) (m1 : n < 0 ∨ 10800000 < n)
    (C0 : Hid (∀ wx, Below w.heap.size w wx → Calls Tryd.prog 11 #[] wx fun e w' => e = .returned (.bool true) ∧ Below wx.heap.size wx w'))
    (hx1 : ¬ x1 > n) (hx2 : ¬ x2 < n)
    (K1 : Hid (∀ wx, Below w.heap.size w wx → Calls Tryd.prog 22 #[.agg #[.int .i64 n, .int .i64 n]] wx fun e w' => e = .returned (.tuple #[.agg #[.int .i64 s1, .int .i64 s2], .int .i64 0]) ∧ Below wx.heap.size wx w'))
    (K2 : Hid (∀ wx, Below w.heap.size w wx → Calls Tryd.prog 12 #[.agg #[.int .i64 s1, .int .i64 s2]] wx fun e w' => e = .returned (.tuple #[.agg #[.int .i64 x1, .int .i64 x2], .int .i64 0]) ∧ Below wx.heap.size wx w'))
    (ht1 : t1 ≤ a) (ht2 : t2 ≥ b)
    (K7 : Hid (∀ wx, Below w.heap.size w wx → Calls Tryd.prog 12 #[.agg #[.int .i64 a, .int .i64 b]] wx fun e w' => e = .returned (.tuple #[.agg #[.int .i64 u1, .int .i64 u2], .int .i64 0]) ∧ Below wx.heap.size wx w'))
    (K8 : Hid (∀ wx, Below w.heap.size w wx → Calls Tryd.prog 22 #[.agg #[.int .i64 u1, .int .i64 u2]] wx fun e w' => e = .returned (.tuple #[.agg #[.int .i64 t1, .int .i64 t2], .int .i64 0]) ∧ Below wx.heap.size wx w'))
    : Calls Tryd.prog 7 #[.int .i64 n, .agg #[.int .i64 a, .int .i64 b]] w fun e w' => e = .returned (.bool true) ∧ Below w.heap.size w w' := by
  have CW := Lib.hid (fun wx => within_is a b true k wx)
  clear k
  have f1 : n ≥ -5400000 := n1
  have g1 : ¬ n ≥ 0 := by omega
  clear m1
  have A := At2.new w (.int .i64 a) (.int .i64 b) 23
  have HB := Lib.hid (below1 w (.cells #[.int .i64 a, .int .i64 b] 23))
  obtain ⟨A0, A1, -, -, -⟩ := id A
  go_enter Tryd.func7, Tryd.ntmps7
  go_wp2_with fail
  refine (C0.out _ HB.out).mono ?_
  rintro e1 wz1 ⟨rfl, hb⟩
  clear A0 A1
  have A := A.keep hb
  have HB := Lib.hid (bstep HB.out hb)
  clear hb
  obtain ⟨A0, A1, -, -, -⟩ := id A
  go_wp2_with fail
  refine (K1.out _ HB.out).mono ?_
  rintro e2 wz2 ⟨rfl, hb⟩
  clear A0 A1
  have A := A.keep hb
  have HB := Lib.hid (bstep HB.out hb)
  clear hb
  have A := A.alloc (.cells #[.int .i64 s1, .int .i64 s2] 23)
  have S := At2.new wz2 (.int .i64 s1) (.int .i64 s2) 23
  have HB := Lib.hid (bstep HB.out (below1 wz2 (.cells #[.int .i64 s1, .int .i64 s2] 23)))
  obtain ⟨A0, A1, -, -, -⟩ := id A
  obtain ⟨S0, S1, -, -, -⟩ := id S
  go_wp2_with fail
  refine (K2.out _ HB.out).mono ?_
  rintro e3 wz3 ⟨rfl, hb⟩
  clear A0 A1 S0 S1
  have A := A.keep hb
  have S := S.keep hb
  have HB := Lib.hid (bstep HB.out hb)
  clear hb
  have A := A.alloc (.cells #[.int .i64 x1, .int .i64 x2] 25)
  have S := S.alloc (.cells #[.int .i64 x1, .int .i64 x2] 25)
  have X := At2.new wz3 (.int .i64 x1) (.int .i64 x2) 25
  have HB := Lib.hid (bstep HB.out (below1 wz3 (.cells #[.int .i64 x1, .int .i64 x2] 25)))
  obtain ⟨A0, A1, -, -, -⟩ := id A
  obtain ⟨S0, S1, -, -, -⟩ := id S
  obtain ⟨X0, X1, -, -, -⟩ := id X
  go_wp2_with fail
  refine (CW.out _).mono ?_
  rintro e4 wz4 ⟨rfl, hb⟩
  clear A0 A1 S0 S1 X0 X1
  have A := A.keep hb
  have S := S.keep hb
  have X := X.keep hb
  have HB := Lib.hid (bstep HB.out hb)
  clear hb
  obtain ⟨A0, A1, -, -, -⟩ := id A
  obtain ⟨S0, S1, -, -, -⟩ := id S
  obtain ⟨X0, X1, -, -, -⟩ := id X
  go_wp2_with fail
  refine (K7.out _ HB.out).mono ?_
  rintro e5 wz5 ⟨rfl, hb⟩
  clear A0 A1 S0 S1 X0 X1
  have A := A.keep hb
  have S := S.keep hb
  have X := X.keep hb
  have HB := Lib.hid (bstep HB.out hb)
  clear hb
  have A := A.alloc (.cells #[.int .i64 u1, .int .i64 u2] 25)
  have S := S.alloc (.cells #[.int .i64 u1, .int .i64 u2] 25)
  have X := X.alloc (.cells #[.int .i64 u1, .int .i64 u2] 25)
  have P := At2.new wz5 (.int .i64 u1) (.int .i64 u2) 25
  have HB := Lib.hid (bstep HB.out (below1 wz5 (.cells #[.int .i64 u1, .int .i64 u2] 25)))
  obtain ⟨A0, A1, -, -, -⟩ := id A
  obtain ⟨S0, S1, -, -, -⟩ := id S
  obtain ⟨X0, X1, -, -, -⟩ := id X
  obtain ⟨P0, P1, -, -, -⟩ := id P
  go_wp2_with fail
  refine (K8.out _ HB.out).mono ?_
  rintro e6 wz6 ⟨rfl, hb⟩
  clear A0 A1 S0 S1 X0 X1 P0 P1
  have A := A.keep hb
  have S := S.keep hb
  have X := X.keep hb
  have P := P.keep hb
  have HB := Lib.hid (bstep HB.out hb)
  clear hb
  have A := A.alloc (.cells #[.int .i64 t1, .int .i64 t2] 23)
  have S := S.alloc (.cells #[.int .i64 t1, .int .i64 t2] 23)
  have X := X.alloc (.cells #[.int .i64 t1, .int .i64 t2] 23)
  have P := P.alloc (.cells #[.int .i64 t1, .int .i64 t2] 23)
  have Q := At2.new wz6 (.int .i64 t1) (.int .i64 t2) 23
  have HB := Lib.hid (bstep HB.out (below1 wz6 (.cells #[.int .i64 t1, .int .i64 t2] 23)))
  obtain ⟨A0, A1, -, -, -⟩ := id A
  obtain ⟨S0, S1, -, -, -⟩ := id S
  obtain ⟨X0, X1, -, -, -⟩ := id X
  obtain ⟨P0, P1, -, -, -⟩ := id P
  obtain ⟨Q0, Q1, -, -, -⟩ := id Q
  go_wp2_with fail
  go_ret
  exact ⟨rfl, HB.out⟩
set_option maxHeartbeats 2000000 in
theorem back_110 (n a b s1 s2 x1 x2 c1 c2 v1 v2 y1 y2 z1 z2 : Int) (w : World) (k : wOk a b = false) (n1 : -5400000 ≤ n) (n2 : n ≤ 5400000) (m1 : 0 ≤ n) (m2 : n ≤ 10800000)
    (C0 : Hid (∀ wx, Below w.heap.size w wx → Calls Tryd.prog 11 #[] wx fun e w' => e = .returned (.bool true) ∧ Below wx.heap.size wx w'))
    (hx1 : ¬ x1 > n) (hx2 : ¬ x2 < n)
    (K1 : Hid (∀ wx, Below w.heap.size w wx → Calls Tryd.prog 22 #[.agg #[.int .i64 n, .int .i64 n]] wx fun e w' => e = .returned (.tuple #[.agg #[.int .i64 s1, .int .i64 s2], .int .i64 0]) ∧ Below wx.heap.size wx w'))
    (K2 : Hid (∀ wx, Below w.heap.size w wx → Calls Tryd.prog 12 #[.agg #[.int .i64 s1, .int .i64 s2]] wx fun e w' => e = .returned (.tuple #[.agg #[.int .i64 x1, .int .i64 x2], .int .i64 0]) ∧ Below wx.heap.size wx w'))
    (hy1 : ¬ y1 > n) (hy2 : ¬ y2 < n) (hz1 : ¬ z1 > n) (hz2 : ¬ z2 < n)
    (K3 : Hid (∀ wx, Below w.heap.size w wx → Calls Tryd.prog 23 #[.agg #[.int .i64 n, .int .i64 n]] wx fun e w' => e = .returned (.tuple #[.agg #[.int .i64 c1, .int .i64 c2], .int .i64 0]) ∧ Below wx.heap.size wx w'))
    (K4 : Hid (∀ wx, Below w.heap.size w wx → Calls Tryd.prog 24 #[.agg #[.int .i64 n, .int .i64 n]] wx fun e w' => e = .returned (.tuple #[.agg #[.int .i64 v1, .int .i64 v2], .int .i64 0]) ∧ Below wx.heap.size wx w'))
    (K5 : Hid (∀ wx, Below w.heap.size w wx → Calls Tryd.prog 13 #[.agg #[.int .i64 c1, .int .i64 c2]] wx fun e w' => e = .returned (.tuple #[.agg #[.int .i64 y1, .int .i64 y2], .int .i64 0]) ∧ Below wx.heap.size wx w'))
    (K6 : Hid (∀ wx, Below w.heap.size w wx → Calls Tryd.prog 14 #[.agg #[.int .i64 v1, .int .i64 v2]] wx fun e w' => e = .returned (.tuple #[.agg #[.int .i64 z1, .int .i64 z2], .int .i64 0]) ∧ Below wx.heap.size wx w'))
    : Calls Tryd.prog 7 #[.int .i64 n, .agg #[.int .i64 a, .int .i64 b]] w fun e w' => e = .returned (.bool true) ∧ Below w.heap.size w w' := by
  have CW := Lib.hid (fun wx => within_is a b false k wx)
  clear k
  have f1 : n ≥ -5400000 := n1
  have g1 : n ≥ 0 := m1
  have A := At2.new w (.int .i64 a) (.int .i64 b) 23
  have HB := Lib.hid (below1 w (.cells #[.int .i64 a, .int .i64 b] 23))
  obtain ⟨A0, A1, -, -, -⟩ := id A
  go_enter Tryd.func7, Tryd.ntmps7
  go_wp2_with fail
  refine (C0.out _ HB.out).mono ?_
  rintro e1 wz1 ⟨rfl, hb⟩
  clear A0 A1
  have A := A.keep hb
  have HB := Lib.hid (bstep HB.out hb)
  clear hb
  obtain ⟨A0, A1, -, -, -⟩ := id A
  go_wp2_with fail
  refine (K1.out _ HB.out).mono ?_
  rintro e2 wz2 ⟨rfl, hb⟩
  clear A0 A1
  have A := A.keep hb
  have HB := Lib.hid (bstep HB.out hb)
  clear hb
  have A := A.alloc (.cells #[.int .i64 s1, .int .i64 s2] 23)
  have S := At2.new wz2 (.int .i64 s1) (.int .i64 s2) 23
  have HB := Lib.hid (bstep HB.out (below1 wz2 (.cells #[.int .i64 s1, .int .i64 s2] 23)))
  obtain ⟨A0, A1, -, -, -⟩ := id A
  obtain ⟨S0, S1, -, -, -⟩ := id S
  go_wp2_with fail
  refine (K2.out _ HB.out).mono ?_
  rintro e3 wz3 ⟨rfl, hb⟩
  clear A0 A1 S0 S1
  have A := A.keep hb
  have S := S.keep hb
  have HB := Lib.hid (bstep HB.out hb)
  clear hb
  have A := A.alloc (.cells #[.int .i64 x1, .int .i64 x2] 25)
  have S := S.alloc (.cells #[.int .i64 x1, .int .i64 x2] 25)
  have X := At2.new wz3 (.int .i64 x1) (.int .i64 x2) 25
  have HB := Lib.hid (bstep HB.out (below1 wz3 (.cells #[.int .i64 x1, .int .i64 x2] 25)))
  obtain ⟨A0, A1, -, -, -⟩ := id A
  obtain ⟨S0, S1, -, -, -⟩ := id S
  obtain ⟨X0, X1, -, -, -⟩ := id X
  go_wp2_with fail
  refine (K3.out _ HB.out).mono ?_
  rintro e4 wz4 ⟨rfl, hb⟩
  clear A0 A1 S0 S1 X0 X1
  have A := A.keep hb
  have S := S.keep hb
  have X := X.keep hb
  have HB := Lib.hid (bstep HB.out hb)
  clear hb
  have A := A.alloc (.cells #[.int .i64 c1, .int .i64 c2] 23)
  have S := S.alloc (.cells #[.int .i64 c1, .int .i64 c2] 23)
  have X := X.alloc (.cells #[.int .i64 c1, .int .i64 c2] 23)
  have U := At2.new wz4 (.int .i64 c1) (.int .i64 c2) 23
  have HB := Lib.hid (bstep HB.out (below1 wz4 (.cells #[.int .i64 c1, .int .i64 c2] 23)))
  obtain ⟨A0, A1, -, -, -⟩ := id A
  obtain ⟨S0, S1, -, -, -⟩ := id S
  obtain ⟨X0, X1, -, -, -⟩ := id X
  obtain ⟨U0, U1, -, -, -⟩ := id U
  go_wp2_with fail
  refine (K4.out _ HB.out).mono ?_
  rintro e5 wz5 ⟨rfl, hb⟩
  clear A0 A1 S0 S1 X0 X1 U0 U1
  have A := A.keep hb
  have S := S.keep hb
  have X := X.keep hb
  have U := U.keep hb
  have HB := Lib.hid (bstep HB.out hb)
  clear hb
  have A := A.alloc (.cells #[.int .i64 v1, .int .i64 v2] 23)
  have S := S.alloc (.cells #[.int .i64 v1, .int .i64 v2] 23)
  have X := X.alloc (.cells #[.int .i64 v1, .int .i64 v2] 23)
  have U := U.alloc (.cells #[.int .i64 v1, .int .i64 v2] 23)
  have V := At2.new wz5 (.int .i64 v1) (.int .i64 v2) 23
  have HB := Lib.hid (bstep HB.out (below1 wz5 (.cells #[.int .i64 v1, .int .i64 v2] 23)))
  obtain ⟨A0, A1, -, -, -⟩ := id A
  obtain ⟨S0, S1, -, -, -⟩ := id S
  obtain ⟨X0, X1, -, -, -⟩ := id X
  obtain ⟨U0, U1, -, -, -⟩ := id U
  obtain ⟨V0, V1, -, -, -⟩ := id V
  go_wp2_with fail
  refine (K5.out _ HB.out).mono ?_
  rintro e6 wz6 ⟨rfl, hb⟩
  clear A0 A1 S0 S1 X0 X1 U0 U1 V0 V1
  have A := A.keep hb
  have S := S.keep hb
  have X := X.keep hb
  have U := U.keep hb
  have V := V.keep hb
  have HB := Lib.hid (bstep HB.out hb)
  clear hb
  have A := A.alloc (.cells #[.int .i64 y1, .int .i64 y2] 25)
  have S := S.alloc (.cells #[.int .i64 y1, .int .i64 y2] 25)
  have X := X.alloc (.cells #[.int .i64 y1, .int .i64 y2] 25)
  have U := U.alloc (.cells #[.int .i64 y1, .int .i64 y2] 25)
  have V := V.alloc (.cells #[.int .i64 y1, .int .i64 y2] 25)
  have Y := At2.new wz6 (.int .i64 y1) (.int .i64 y2) 25
  have HB := Lib.hid (bstep HB.out (below1 wz6 (.cells #[.int .i64 y1, .int .i64 y2] 25)))
  obtain ⟨A0, A1, -, -, -⟩ := id A
  obtain ⟨S0, S1, -, -, -⟩ := id S
  obtain ⟨X0, X1, -, -, -⟩ := id X
  obtain ⟨U0, U1, -, -, -⟩ := id U
  obtain ⟨V0, V1, -, -, -⟩ := id V
  obtain ⟨Y0, Y1, -, -, -⟩ := id Y
  go_wp2_with fail
  refine (K6.out _ HB.out).mono ?_
  rintro e7 wz7 ⟨rfl, hb⟩
  clear A0 A1 S0 S1 X0 X1 U0 U1 V0 V1 Y0 Y1
  have A := A.keep hb
  have S := S.keep hb
  have X := X.keep hb
  have U := U.keep hb
  have V := V.keep hb
  have Y := Y.keep hb
  have HB := Lib.hid (bstep HB.out hb)
  clear hb
  have A := A.alloc (.cells #[.int .i64 z1, .int .i64 z2] 25)
  have S := S.alloc (.cells #[.int .i64 z1, .int .i64 z2] 25)
  have X := X.alloc (.cells #[.int .i64 z1, .int .i64 z2] 25)
  have U := U.alloc (.cells #[.int .i64 z1, .int .i64 z2] 25)
  have V := V.alloc (.cells #[.int .i64 z1, .int .i64 z2] 25)
  have Y := Y.alloc (.cells #[.int .i64 z1, .int .i64 z2] 25)
  have Z := At2.new wz7 (.int .i64 z1) (.int .i64 z2) 25
  have HB := Lib.hid (bstep HB.out (below1 wz7 (.cells #[.int .i64 z1, .int .i64 z2] 25)))
  obtain ⟨A0, A1, -, -, -⟩ := id A
  obtain ⟨S0, S1, -, -, -⟩ := id S
  obtain ⟨X0, X1, -, -, -⟩ := id X
  obtain ⟨U0, U1, -, -, -⟩ := id U
  obtain ⟨V0, V1, -, -, -⟩ := id V
  obtain ⟨Y0, Y1, -, -, -⟩ := id Y
  obtain ⟨Z0, Z1, -, -, -⟩ := id Z
  go_wp2_with fail
  refine (CW.out _).mono ?_
  rintro e8 wz8 ⟨rfl, hb⟩
  clear A0 A1 S0 S1 X0 X1 U0 U1 V0 V1 Y0 Y1 Z0 Z1
  have A := A.keep hb
  have S := S.keep hb
  have X := X.keep hb
  have U := U.keep hb
  have V := V.keep hb
  have Y := Y.keep hb
  have Z := Z.keep hb
  have HB := Lib.hid (bstep HB.out hb)
  clear hb
  obtain ⟨A0, A1, -, -, -⟩ := id A
  obtain ⟨S0, S1, -, -, -⟩ := id S
  obtain ⟨X0, X1, -, -, -⟩ := id X
  obtain ⟨U0, U1, -, -, -⟩ := id U
  obtain ⟨V0, V1, -, -, -⟩ := id V
  obtain ⟨Y0, Y1, -, -, -⟩ := id Y
  obtain ⟨Z0, Z1, -, -, -⟩ := id Z
  go_wp2_with fail
  go_ret
  exact ⟨rfl, HB.out⟩
set_option maxHeartbeats 2000000 in
theorem back_111 (n a b s1 s2 x1 x2 c1 c2 v1 v2 y1 y2 z1 z2 u1 u2 t1 t2 : Int) (w : World) (k : wOk a b = true) (n1 : -5400000 ≤ n) (n2 : n ≤ 5400000) (m1 : 0 ≤ n) (m2 : n ≤ 10800000)
    (C0 : Hid (∀ wx, Below w.heap.size w wx → Calls Tryd.prog 11 #[] wx fun e w' => e = .returned (.bool true) ∧ Below wx.heap.size wx w'))
    (hx1 : ¬ x1 > n) (hx2 : ¬ x2 < n)
    (K1 : Hid (∀ wx, Below w.heap.size w wx → Calls Tryd.prog 22 #[.agg #[.int .i64 n, .int .i64 n]] wx fun e w' => e = .returned (.tuple #[.agg #[.int .i64 s1, .int .i64 s2], .int .i64 0]) ∧ Below wx.heap.size wx w'))
    (K2 : Hid (∀ wx, Below w.heap.size w wx → Calls Tryd.prog 12 #[.agg #[.int .i64 s1, .int .i64 s2]] wx fun e w' => e = .returned (.tuple #[.agg #[.int .i64 x1, .int .i64 x2], .int .i64 0]) ∧ Below wx.heap.size wx w'))
    (hy1 : ¬ y1 > n) (hy2 : ¬ y2 < n) (hz1 : ¬ z1 > n) (hz2 : ¬ z2 < n)
    (K3 : Hid (∀ wx, Below w.heap.size w wx → Calls Tryd.prog 23 #[.agg #[.int .i64 n, .int .i64 n]] wx fun e w' => e = .returned (.tuple #[.agg #[.int .i64 c1, .int .i64 c2], .int .i64 0]) ∧ Below wx.heap.size wx w'))
    (K4 : Hid (∀ wx, Below w.heap.size w wx → Calls Tryd.prog 24 #[.agg #[.int .i64 n, .int .i64 n]] wx fun e w' => e = .returned (.tuple #[.agg #[.int .i64 v1, .int .i64 v2], .int .i64 0]) ∧ Below wx.heap.size wx w'))
    (K5 : Hid (∀ wx, Below w.heap.size w wx → Calls Tryd.prog 13 #[.agg #[.int .i64 c1, .int .i64 c2]] wx fun e w' => e = .returned (.tuple #[.agg #[.int .i64 y1, .int .i64 y2], .int .i64 0]) ∧ Below wx.heap.size wx w'))
    (K6 : Hid (∀ wx, Below w.heap.size w wx → Calls Tryd.prog 14 #[.agg #[.int .i64 v1, .int .i64 v2]] wx fun e w' => e = .returned (.tuple #[.agg #[.int .i64 z1, .int .i64 z2], .int .i64 0]) ∧ Below wx.heap.size wx w'))
    (ht1 : t1 ≤ a) (ht2 : t2 ≥ b)
    (K7 : Hid (∀ wx, Below w.heap.size w wx → Calls Tryd.prog 12 #[.agg #[.int .i64 a, .int .i64 b]] wx fun e w' => e = .returned (.tuple #[.agg #[.int .i64 u1, .int .i64 u2], .int .i64 0]) ∧ Below wx.heap.size wx w'))
    (K8 : Hid (∀ wx, Below w.heap.size w wx → Calls Tryd.prog 22 #[.agg #[.int .i64 u1, .int .i64 u2]] wx fun e w' => e = .returned (.tuple #[.agg #[.int .i64 t1, .int .i64 t2], .int .i64 0]) ∧ Below wx.heap.size wx w'))
    : Calls Tryd.prog 7 #[.int .i64 n, .agg #[.int .i64 a, .int .i64 b]] w fun e w' => e = .returned (.bool true) ∧ Below w.heap.size w w' := by
  have CW := Lib.hid (fun wx => within_is a b true k wx)
  clear k
  have f1 : n ≥ -5400000 := n1
  have g1 : n ≥ 0 := m1
  have A := At2.new w (.int .i64 a) (.int .i64 b) 23
  have HB := Lib.hid (below1 w (.cells #[.int .i64 a, .int .i64 b] 23))
  obtain ⟨A0, A1, -, -, -⟩ := id A
  go_enter Tryd.func7, Tryd.ntmps7
  go_wp2_with fail
  refine (C0.out _ HB.out).mono ?_
  rintro e1 wz1 ⟨rfl, hb⟩
  clear A0 A1
  have A := A.keep hb
  have HB := Lib.hid (bstep HB.out hb)
  clear hb
  obtain ⟨A0, A1, -, -, -⟩ := id A
  go_wp2_with fail
  refine (K1.out _ HB.out).mono ?_
  rintro e2 wz2 ⟨rfl, hb⟩
  clear A0 A1
  have A := A.keep hb
  have HB := Lib.hid (bstep HB.out hb)
  clear hb
  have A := A.alloc (.cells #[.int .i64 s1, .int .i64 s2] 23)
  have S := At2.new wz2 (.int .i64 s1) (.int .i64 s2) 23
  have HB := Lib.hid (bstep HB.out (below1 wz2 (.cells #[.int .i64 s1, .int .i64 s2] 23)))
  obtain ⟨A0, A1, -, -, -⟩ := id A
  obtain ⟨S0, S1, -, -, -⟩ := id S
  go_wp2_with fail
  refine (K2.out _ HB.out).mono ?_
  rintro e3 wz3 ⟨rfl, hb⟩
  clear A0 A1 S0 S1
  have A := A.keep hb
  have S := S.keep hb
  have HB := Lib.hid (bstep HB.out hb)
  clear hb
  have A := A.alloc (.cells #[.int .i64 x1, .int .i64 x2] 25)
  have S := S.alloc (.cells #[.int .i64 x1, .int .i64 x2] 25)
  have X := At2.new wz3 (.int .i64 x1) (.int .i64 x2) 25
  have HB := Lib.hid (bstep HB.out (below1 wz3 (.cells #[.int .i64 x1, .int .i64 x2] 25)))
  obtain ⟨A0, A1, -, -, -⟩ := id A
  obtain ⟨S0, S1, -, -, -⟩ := id S
  obtain ⟨X0, X1, -, -, -⟩ := id X
  go_wp2_with fail
  refine (K3.out _ HB.out).mono ?_
  rintro e4 wz4 ⟨rfl, hb⟩
  clear A0 A1 S0 S1 X0 X1
  have A := A.keep hb
  have S := S.keep hb
  have X := X.keep hb
  have HB := Lib.hid (bstep HB.out hb)
  clear hb
  have A := A.alloc (.cells #[.int .i64 c1, .int .i64 c2] 23)
  have S := S.alloc (.cells #[.int .i64 c1, .int .i64 c2] 23)
  have X := X.alloc (.cells #[.int .i64 c1, .int .i64 c2] 23)
  have U := At2.new wz4 (.int .i64 c1) (.int .i64 c2) 23
  have HB := Lib.hid (bstep HB.out (below1 wz4 (.cells #[.int .i64 c1, .int .i64 c2] 23)))
  obtain ⟨A0, A1, -, -, -⟩ := id A
  obtain ⟨S0, S1, -, -, -⟩ := id S
  obtain ⟨X0, X1, -, -, -⟩ := id X
  obtain ⟨U0, U1, -, -, -⟩ := id U
  go_wp2_with fail
  refine (K4.out _ HB.out).mono ?_
  rintro e5 wz5 ⟨rfl, hb⟩
  clear A0 A1 S0 S1 X0 X1 U0 U1
  have A := A.keep hb
  have S := S.keep hb
  have X := X.keep hb
  have U := U.keep hb
  have HB := Lib.hid (bstep HB.out hb)
  clear hb
  have A := A.alloc (.cells #[.int .i64 v1, .int .i64 v2] 23)
  have S := S.alloc (.cells #[.int .i64 v1, .int .i64 v2] 23)
  have X := X.alloc (.cells #[.int .i64 v1, .int .i64 v2] 23)
  have U := U.alloc (.cells #[.int .i64 v1, .int .i64 v2] 23)
  have V := At2.new wz5 (.int .i64 v1) (.int .i64 v2) 23
  have HB := Lib.hid (bstep HB.out (below1 wz5 (.cells #[.int .i64 v1, .int .i64 v2] 23)))
  obtain ⟨A0, A1, -, -, -⟩ := id A
  obtain ⟨S0, S1, -, -, -⟩ := id S
  obtain ⟨X0, X1, -, -, -⟩ := id X
  obtain ⟨U0, U1, -, -, -⟩ := id U
  obtain ⟨V0, V1, -, -, -⟩ := id V
  go_wp2_with fail
  refine (K5.out _ HB.out).mono ?_
  rintro e6 wz6 ⟨rfl, hb⟩
  clear A0 A1 S0 S1 X0 X1 U0 U1 V0 V1
  have A := A.keep hb
  have S := S.keep hb
  have X := X.keep hb
  have U := U.keep hb
  have V := V.keep hb
  have HB := Lib.hid (bstep HB.out hb)
  clear hb
  have A := A.alloc (.cells #[.int .i64 y1, .int .i64 y2] 25)
  have S := S.alloc (.cells #[.int .i64 y1, .int .i64 y2] 25)
  have X := X.alloc (.cells #[.int .i64 y1, .int .i64 y2] 25)
  have U := U.alloc (.cells #[.int .i64 y1, .int .i64 y2] 25)
  have V := V.alloc (.cells #[.int .i64 y1, .int .i64 y2] 25)
  have Y := At2.new wz6 (.int .i64 y1) (.int .i64 y2) 25
  have HB := Lib.hid (bstep HB.out (below1 wz6 (.cells #[.int .i64 y1, .int .i64 y2] 25)))
  obtain ⟨A0, A1, -, -, -⟩ := id A
  obtain ⟨S0, S1, -, -, -⟩ := id S
  obtain ⟨X0, X1, -, -, -⟩ := id X
  obtain ⟨U0, U1, -, -, -⟩ := id U
  obtain ⟨V0, V1, -, -, -⟩ := id V
  obtain ⟨Y0, Y1, -, -, -⟩ := id Y
  go_wp2_with fail
  refine (K6.out _ HB.out).mono ?_
  rintro e7 wz7 ⟨rfl, hb⟩
  clear A0 A1 S0 S1 X0 X1 U0 U1 V0 V1 Y0 Y1
  have A := A.keep hb
  have S := S.keep hb
  have X := X.keep hb
  have U := U.keep hb
  have V := V.keep hb
  have Y := Y.keep hb
  have HB := Lib.hid (bstep HB.out hb)
  clear hb
  have A := A.alloc (.cells #[.int .i64 z1, .int .i64 z2] 25)
  have S := S.alloc (.cells #[.int .i64 z1, .int .i64 z2] 25)
  have X := X.alloc (.cells #[.int .i64 z1, .int .i64 z2] 25)
  have U := U.alloc (.cells #[.int .i64 z1, .int .i64 z2] 25)
  have V := V.alloc (.cells #[.int .i64 z1, .int .i64 z2] 25)
  have Y := Y.alloc (.cells #[.int .i64 z1, .int .i64 z2] 25)
  have Z := At2.new wz7 (.int .i64 z1) (.int .i64 z2) 25
  have HB := Lib.hid (bstep HB.out (below1 wz7 (.cells #[.int .i64 z1, .int .i64 z2] 25)))
  obtain ⟨A0, A1, -, -, -⟩ := id A
  obtain ⟨S0, S1, -, -, -⟩ := id S
  obtain ⟨X0, X1, -, -, -⟩ := id X
  obtain ⟨U0, U1, -, -, -⟩ := id U
  obtain ⟨V0, V1, -, -, -⟩ := id V
  obtain ⟨Y0, Y1, -, -, -⟩ := id Y
  obtain ⟨Z0, Z1, -, -, -⟩ := id Z
  go_wp2_with fail
  refine (CW.out _).mono ?_
  rintro e8 wz8 ⟨rfl, hb⟩
  clear A0 A1 S0 S1 X0 X1 U0 U1 V0 V1 Y0 Y1 Z0 Z1
  have A := A.keep hb
  have S := S.keep hb
  have X := X.keep hb
  have U := U.keep hb
  have V := V.keep hb
  have Y := Y.keep hb
  have Z := Z.keep hb
  have HB := Lib.hid (bstep HB.out hb)
  clear hb
  obtain ⟨A0, A1, -, -, -⟩ := id A
  obtain ⟨S0, S1, -, -, -⟩ := id S
  obtain ⟨X0, X1, -, -, -⟩ := id X
  obtain ⟨U0, U1, -, -, -⟩ := id U
  obtain ⟨V0, V1, -, -, -⟩ := id V
  obtain ⟨Y0, Y1, -, -, -⟩ := id Y
  obtain ⟨Z0, Z1, -, -, -⟩ := id Z
  go_wp2_with fail
  refine (K7.out _ HB.out).mono ?_
  rintro e9 wz9 ⟨rfl, hb⟩
  clear A0 A1 S0 S1 X0 X1 U0 U1 V0 V1 Y0 Y1 Z0 Z1
  have A := A.keep hb
  have S := S.keep hb
  have X := X.keep hb
  have U := U.keep hb
  have V := V.keep hb
  have Y := Y.keep hb
  have Z := Z.keep hb
  have HB := Lib.hid (bstep HB.out hb)
  clear hb
  have A := A.alloc (.cells #[.int .i64 u1, .int .i64 u2] 25)
  have S := S.alloc (.cells #[.int .i64 u1, .int .i64 u2] 25)
  have X := X.alloc (.cells #[.int .i64 u1, .int .i64 u2] 25)
  have U := U.alloc (.cells #[.int .i64 u1, .int .i64 u2] 25)
  have V := V.alloc (.cells #[.int .i64 u1, .int .i64 u2] 25)
  have Y := Y.alloc (.cells #[.int .i64 u1, .int .i64 u2] 25)
  have Z := Z.alloc (.cells #[.int .i64 u1, .int .i64 u2] 25)
  have P := At2.new wz9 (.int .i64 u1) (.int .i64 u2) 25
  have HB := Lib.hid (bstep HB.out (below1 wz9 (.cells #[.int .i64 u1, .int .i64 u2] 25)))
  obtain ⟨A0, A1, -, -, -⟩ := id A
  obtain ⟨S0, S1, -, -, -⟩ := id S
  obtain ⟨X0, X1, -, -, -⟩ := id X
  obtain ⟨U0, U1, -, -, -⟩ := id U
  obtain ⟨V0, V1, -, -, -⟩ := id V
  obtain ⟨Y0, Y1, -, -, -⟩ := id Y
  obtain ⟨Z0, Z1, -, -, -⟩ := id Z
  obtain ⟨P0, P1, -, -, -⟩ := id P
  go_wp2_with fail
  refine (K8.out _ HB.out).mono ?_
  rintro e10 wz10 ⟨rfl, hb⟩
  clear A0 A1 S0 S1 X0 X1 U0 U1 V0 V1 Y0 Y1 Z0 Z1 P0 P1
  have A := A.keep hb
  have S := S.keep hb
  have X := X.keep hb
  have U := U.keep hb
  have V := V.keep hb
  have Y := Y.keep hb
  have Z := Z.keep hb
  have P := P.keep hb
  have HB := Lib.hid (bstep HB.out hb)
  clear hb
  have A := A.alloc (.cells #[.int .i64 t1, .int .i64 t2] 23)
  have S := S.alloc (.cells #[.int .i64 t1, .int .i64 t2] 23)
  have X := X.alloc (.cells #[.int .i64 t1, .int .i64 t2] 23)
  have U := U.alloc (.cells #[.int .i64 t1, .int .i64 t2] 23)
  have V := V.alloc (.cells #[.int .i64 t1, .int .i64 t2] 23)
  have Y := Y.alloc (.cells #[.int .i64 t1, .int .i64 t2] 23)
  have Z := Z.alloc (.cells #[.int .i64 t1, .int .i64 t2] 23)
  have P := P.alloc (.cells #[.int .i64 t1, .int .i64 t2] 23)
  have Q := At2.new wz10 (.int .i64 t1) (.int .i64 t2) 23
  have HB := Lib.hid (bstep HB.out (below1 wz10 (.cells #[.int .i64 t1, .int .i64 t2] 23)))
  obtain ⟨A0, A1, -, -, -⟩ := id A
  obtain ⟨S0, S1, -, -, -⟩ := id S
  obtain ⟨X0, X1, -, -, -⟩ := id X
  obtain ⟨U0, U1, -, -, -⟩ := id U
  obtain ⟨V0, V1, -, -, -⟩ := id V
  obtain ⟨Y0, Y1, -, -, -⟩ := id Y
  obtain ⟨Z0, Z1, -, -, -⟩ := id Z
  obtain ⟨P0, P1, -, -, -⟩ := id P
  obtain ⟨Q0, Q1, -, -, -⟩ := id Q
  go_wp2_with fail
  go_ret
  exact ⟨rfl, HB.out⟩
theorem back_walk (w : World) (P : ArProg w) (T : TrProg w) (n a b : Int) (hn : I64 n) (ha : I64 a) (hb : I64 b) : Calls Tryd.prog 7 #[.int .i64 n, .agg #[.int .i64 a, .int .i64 b]] w fun e w' => e = .returned (.bool true) ∧ Below w.heap.size w w' := by
  have C0 := Lib.hid (fun wx (hb : Below w.heap.size w wx) => awake7 w P wx hb)
  have S1 : -5400000 ≤ n → n ≤ 5400000 → ∃ s1 s2 x1 x2, ¬ x1 > n ∧ ¬ x2 < n ∧ (Hid (∀ wx, Below w.heap.size w wx → Calls Tryd.prog 22 #[.agg #[.int .i64 n, .int .i64 n]] wx fun e w' => e = .returned (.tuple #[.agg #[.int .i64 s1, .int .i64 s2], .int .i64 0]) ∧ Below wx.heap.size wx w')) ∧ Hid (∀ wx, Below w.heap.size w wx → Calls Tryd.prog 12 #[.agg #[.int .i64 s1, .int .i64 s2]] wx fun e w' => e = .returned (.tuple #[.agg #[.int .i64 x1, .int .i64 x2], .int .i64 0]) ∧ Below wx.heap.size wx w') := by
    intro h1 h2
    obtain ⟨i, k1, k2⟩ := L6.asin_back h1 h2
    obtain ⟨e1, e2, e3, -, -⟩ := ac_of i
    obtain ⟨p1, p2⟩ := sL_pt n
    have K1 := fun wx (hx : Below w.heap.size w wx) => T.sin n n wx hx hn hn
    rw [vTr_yes _ _ (aok_mk (by omega) (by omega) (by omega)), p1, p2] at K1
    obtain ⟨i1, i2, i3⟩ := i
    have K2 := fun wx (hx : Below w.heap.size w wx) => P.asin (L6.lo n) (L6.hi n) wx hx ⟨by omega, by omega⟩ ⟨by omega, by omega⟩
    unfold tAr at K2
    rw [e1, e2, e3] at K2
    exact ⟨_, _, _, _, by omega, by omega, Lib.hid K1, Lib.hid K2⟩
  have S2 : 0 ≤ n → n ≤ 10800000 → ∃ c1 c2 v1 v2 y1 y2 z1 z2, ¬ y1 > n ∧ ¬ y2 < n ∧ ¬ z1 > n ∧ ¬ z2 < n ∧ (Hid (∀ wx, Below w.heap.size w wx → Calls Tryd.prog 23 #[.agg #[.int .i64 n, .int .i64 n]] wx fun e w' => e = .returned (.tuple #[.agg #[.int .i64 c1, .int .i64 c2], .int .i64 0]) ∧ Below wx.heap.size wx w')) ∧ (Hid (∀ wx, Below w.heap.size w wx → Calls Tryd.prog 24 #[.agg #[.int .i64 n, .int .i64 n]] wx fun e w' => e = .returned (.tuple #[.agg #[.int .i64 v1, .int .i64 v2], .int .i64 0]) ∧ Below wx.heap.size wx w')) ∧ (Hid (∀ wx, Below w.heap.size w wx → Calls Tryd.prog 13 #[.agg #[.int .i64 c1, .int .i64 c2]] wx fun e w' => e = .returned (.tuple #[.agg #[.int .i64 y1, .int .i64 y2], .int .i64 0]) ∧ Below wx.heap.size wx w')) ∧ Hid (∀ wx, Below w.heap.size w wx → Calls Tryd.prog 14 #[.agg #[.int .i64 v1, .int .i64 v2]] wx fun e w' => e = .returned (.tuple #[.agg #[.int .i64 z1, .int .i64 z2], .int .i64 0]) ∧ Below wx.heap.size wx w') := by
    intro h1 h2
    obtain ⟨i, k1, k2⟩ := L6.asin_back (n := 5400000 - n) (by omega) (by omega)
    obtain ⟨v1, v2⟩ := L6.lo_even n ⟨by omega, by omega⟩ ⟨by omega, by omega⟩
    obtain ⟨e1, e2, e3, e4, e5⟩ := ac_of i
    obtain ⟨p1, p2⟩ := sL_pt (n + 5400000)
    rw [show n + 5400000 = 5400000 + n by omega, ← v1] at p1
    rw [show n + 5400000 = 5400000 + n by omega, ← v2] at p2
    obtain ⟨q1, q2, q3, q4, q5, q6, q7⟩ := hav_back h1 h2
    have ok := aok_mk (show -1099511627776 ≤ n by omega) (show n ≤ 1099511627776 by omega) (Int.le_refl n)
    have K3 := fun wx (hx : Below w.heap.size w wx) => T.cos n n wx hx hn hn
    rw [vTr_yes _ _ ok, show n + 5400000 = 5400000 + n by omega, p1, p2] at K3
    have K4 := fun wx (hx : Below w.heap.size w wx) => T.hav n n wx hx hn hn
    rw [vTr_yes _ _ ok] at K4
    have K6 := fun wx (hx : Below w.heap.size w wx) => P.ahav (hL n n) (hH n n) wx hx ⟨by omega, by omega⟩ ⟨by omega, by omega⟩
    obtain ⟨i1, i2, i3⟩ := i
    have K5 := fun wx (hx : Below w.heap.size w wx) => P.acos (L6.lo (5400000 - n)) (L6.hi (5400000 - n)) wx hx ⟨by omega, by omega⟩ ⟨by omega, by omega⟩
    unfold tAr at K5 K6
    rw [e1, e4, e5] at K5
    rw [q1] at K6
    exact ⟨_, _, _, _, _, _, _, _, by omega, by omega, by omega, by omega, Lib.hid K3, Lib.hid K4, Lib.hid K5, Lib.hid K6⟩
  have S3 : wOk a b = true → ∃ u1 u2 t1 t2, t1 ≤ a ∧ t2 ≥ b ∧ (Hid (∀ wx, Below w.heap.size w wx → Calls Tryd.prog 12 #[.agg #[.int .i64 a, .int .i64 b]] wx fun e w' => e = .returned (.tuple #[.agg #[.int .i64 u1, .int .i64 u2], .int .i64 0]) ∧ Below wx.heap.size wx w')) ∧ Hid (∀ wx, Below w.heap.size w wx → Calls Tryd.prog 22 #[.agg #[.int .i64 u1, .int .i64 u2]] wx fun e w' => e = .returned (.tuple #[.agg #[.int .i64 t1, .int .i64 t2], .int .i64 0]) ∧ Below wx.heap.size wx w') := by
    intro k
    obtain ⟨e1, e2, e3, i⟩ := aE_of k
    obtain ⟨j1, j2, j3, j4, j5⟩ := L6.asin_in i
    obtain ⟨s1, s2⟩ := L6.asin_sine i
    have K7 := fun wx (hx : Below w.heap.size w wx) => P.asin a b wx hx ha hb
    have K8 := fun wx (hx : Below w.heap.size w wx) => T.sin (L6.aLo a) (L6.aHi b) wx hx ⟨by omega, by omega⟩ ⟨by omega, by omega⟩
    rw [vTr_yes _ _ (aok_mk (by omega) (by omega) (by omega))] at K8
    unfold tAr at K7
    rw [e1, e2, e3] at K7
    exact ⟨_, _, _, _, s1, s2, Lib.hid K7, Lib.hid K8⟩
  by_cases c1 : -5400000 ≤ n ∧ n ≤ 5400000
  · obtain ⟨s1, s2, x1, x2, hx1, hx2, K1, K2⟩ := S1 c1.1 c1.2
    by_cases c2 : 0 ≤ n ∧ n ≤ 10800000
    · obtain ⟨u1, u2, v1, v2, y1, y2, z1, z2, hy1, hy2, hz1, hz2, K3, K4, K5, K6⟩ := S2 c2.1 c2.2
      rcases Bool.eq_false_or_eq_true (wOk a b) with k | k
      · obtain ⟨p1, p2, t1, t2, ht1, ht2, K7, K8⟩ := S3 k
        exact back_111 n a b s1 s2 x1 x2 u1 u2 v1 v2 y1 y2 z1 z2 p1 p2 t1 t2 w k c1.1 c1.2 c2.1 c2.2 C0 hx1 hx2 K1 K2 hy1 hy2 hz1 hz2 K3 K4 K5 K6 ht1 ht2 K7 K8
      · exact back_110 n a b s1 s2 x1 x2 u1 u2 v1 v2 y1 y2 z1 z2 w k c1.1 c1.2 c2.1 c2.2 C0 hx1 hx2 K1 K2 hy1 hy2 hz1 hz2 K3 K4 K5 K6
    · have c2' : n < 0 ∨ 10800000 < n := by omega
      rcases Bool.eq_false_or_eq_true (wOk a b) with k | k
      · obtain ⟨p1, p2, t1, t2, ht1, ht2, K7, K8⟩ := S3 k
        exact back_101 n a b s1 s2 x1 x2 p1 p2 t1 t2 w k c1.1 c1.2 c2' C0 hx1 hx2 K1 K2 ht1 ht2 K7 K8
      · exact back_100 n a b s1 s2 x1 x2 w k c1.1 c1.2 c2' C0 hx1 hx2 K1 K2
  · have c1' : n < -5400000 ∨ 5400000 < n := by omega
    by_cases c2 : 0 ≤ n ∧ n ≤ 10800000
    · obtain ⟨u1, u2, v1, v2, y1, y2, z1, z2, hy1, hy2, hz1, hz2, K3, K4, K5, K6⟩ := S2 c2.1 c2.2
      rcases Bool.eq_false_or_eq_true (wOk a b) with k | k
      · obtain ⟨p1, p2, t1, t2, ht1, ht2, K7, K8⟩ := S3 k
        exact back_011 n a b u1 u2 v1 v2 y1 y2 z1 z2 p1 p2 t1 t2 w k c1' c2.1 c2.2 C0 hy1 hy2 hz1 hz2 K3 K4 K5 K6 ht1 ht2 K7 K8
      · exact back_010 n a b u1 u2 v1 v2 y1 y2 z1 z2 w k c1' c2.1 c2.2 C0 hy1 hy2 hz1 hz2 K3 K4 K5 K6
    · have c2' : n < 0 ∨ 10800000 < n := by omega
      rcases Bool.eq_false_or_eq_true (wOk a b) with k | k
      · obtain ⟨p1, p2, t1, t2, ht1, ht2, K7, K8⟩ := S3 k
        exact back_001 n a b p1 p2 t1 t2 w k c1' c2' C0 ht1 ht2 K7 K8
      · exact back_000 n a b w k c1' c2' C0
end Go.Proofs.YtebhflmmdfbjkaaDoor
