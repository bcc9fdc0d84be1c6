/- ArctrigOpposite: the walk of the law. -/
import Derived.Test.YtebhflmmdfbjkaaDoorArE
namespace Go.Proofs.YtebhflmmdfbjkaaDoor
open Go.RowKit
set_option linter.unusedVariables false
set_option maxRecDepth 100000

theorem opp_out (a b : Int) (w : World) (k : wOk a b = false)
    (C0 : Hid (∀ wx, Below w.heap.size w wx → Calls Tryd.prog 11 #[] wx fun e w' => e = .returned (.bool true) ∧ Below wx.heap.size wx w'))
    : Calls Tryd.prog 6 #[.agg #[.int .i64 a, .int .i64 b]] w fun e w' => e = .returned (.bool true) ∧ Below w.heap.size w w' := by
  have CW := Lib.hid (fun wx => within_is a b false k wx)
  clear k
  have A := At2.new w (.int .i64 a) (.int .i64 b) 23
  have HB := Lib.hid (below1 w (.cells #[.int .i64 a, .int .i64 b] 23))
  obtain ⟨A0, A1, -, -, -⟩ := id A
  go_enter Tryd.func6, Tryd.ntmps6
  go_wp2_with fail
  refine (C0.out _ HB.out).mono ?_
  rintro e1 v1 ⟨rfl, hb⟩
  clear A0 A1
  have A := A.keep hb
  have HB := Lib.hid (bstep HB.out hb)
  clear hb
  obtain ⟨A0, A1, -, -, -⟩ := id A
  go_wp2_with fail
  refine (CW.out _).mono ?_
  rintro e2 v2 ⟨rfl, hb⟩
  clear A0 A1
  have A := A.keep hb
  have HB := Lib.hid (bstep HB.out hb)
  clear hb
  obtain ⟨A0, A1, -, -, -⟩ := id A
  go_wp2_with fail
  go_ret
  exact ⟨rfl, HB.out⟩
set_option maxHeartbeats 2000000 in
theorem opp_neg (a b na nb l h nl nh p q : Int) (w : World) (k : wOk a b = true) (c : a < 0) (wa1 : -1073741824 ≤ a) (wa2 : a ≤ 1073741824) (wb1 : -1073741824 ≤ b) (wb2 : b ≤ 1073741824) (l1 : -5400000 ≤ l) (l2 : l ≤ 5400000) (h1 : -5400000 ≤ h) (h2 : h ≤ 5400000) (hna : -a = na) (hnb : -b = nb) (hnl : -l = nl) (hnh : -h = nh) (hp : 5400000 - h = p) (hq : 5400000 - l = q)
    (C0 : Hid (∀ wx, Below w.heap.size w wx → Calls Tryd.prog 11 #[] wx fun e w' => e = .returned (.bool true) ∧ Below wx.heap.size wx w'))
    (KA1 : Hid (∀ wx, Below w.heap.size w wx → Calls Tryd.prog 12 #[.agg #[.int .i64 a, .int .i64 b]] wx fun e w' => e = .returned (.tuple #[.agg #[.int .i64 l, .int .i64 h], .int .i64 0]) ∧ Below wx.heap.size wx w'))
    (KA2 : Hid (∀ wx, Below w.heap.size w wx → Calls Tryd.prog 12 #[.agg #[.int .i64 nb, .int .i64 na]] wx fun e w' => e = .returned (.tuple #[.agg #[.int .i64 nh, .int .i64 nl], .int .i64 0]) ∧ Below wx.heap.size wx w'))
    (KA3 : Hid (∀ wx, Below w.heap.size w wx → Calls Tryd.prog 13 #[.agg #[.int .i64 a, .int .i64 b]] wx fun e w' => e = .returned (.tuple #[.agg #[.int .i64 p, .int .i64 q], .int .i64 0]) ∧ Below wx.heap.size wx w'))
    : Calls Tryd.prog 6 #[.agg #[.int .i64 a, .int .i64 b]] w fun e w' => e = .returned (.bool true) ∧ Below w.heap.size w w' := by
  have CW := Lib.hid (fun wx => within_is a b true k wx)
  clear k
  have A := At2.new w (.int .i64 a) (.int .i64 b) 23
  have HB := Lib.hid (below1 w (.cells #[.int .i64 a, .int .i64 b] 23))
  obtain ⟨A0, A1, -, -, -⟩ := id A
  go_enter Tryd.func6, Tryd.ntmps6
  go_wp2_with fail
  refine (C0.out _ HB.out).mono ?_
  rintro e1 v1 ⟨rfl, hb⟩
  clear A0 A1
  have A := A.keep hb
  have HB := Lib.hid (bstep HB.out hb)
  clear hb
  obtain ⟨A0, A1, -, -, -⟩ := id A
  go_wp2_with fail
  refine (CW.out _).mono ?_
  rintro e2 v2 ⟨rfl, hb⟩
  clear A0 A1
  have A := A.keep hb
  have HB := Lib.hid (bstep HB.out hb)
  clear hb
  obtain ⟨A0, A1, -, -, -⟩ := id A
  go_wp2_with fail
  refine (KA1.out _ HB.out).mono ?_
  rintro e3 v3 ⟨rfl, hb⟩
  clear A0 A1
  have A := A.keep hb
  have HB := Lib.hid (bstep HB.out hb)
  clear hb
  have A := A.alloc (.cells #[.int .i64 l, .int .i64 h] 25)
  have X := At2.new v3 (.int .i64 l) (.int .i64 h) 25
  have HB := Lib.hid (bstep HB.out (below1 v3 (.cells #[.int .i64 l, .int .i64 h] 25)))
  obtain ⟨A0, A1, -, -, -⟩ := id A
  obtain ⟨X0, X1, -, -, -⟩ := id X
  go_wp2_with fail
  refine (KA2.out _ HB.out).mono ?_
  rintro e4 v4 ⟨rfl, hb⟩
  clear A0 A1 X0 X1
  have A := A.keep hb
  have X := X.keep hb
  have HB := Lib.hid (bstep HB.out hb)
  clear hb
  have A := A.alloc (.cells #[.int .i64 nh, .int .i64 nl] 25)
  have X := X.alloc (.cells #[.int .i64 nh, .int .i64 nl] 25)
  have Y := At2.new v4 (.int .i64 nh) (.int .i64 nl) 25
  have HB := Lib.hid (bstep HB.out (below1 v4 (.cells #[.int .i64 nh, .int .i64 nl] 25)))
  obtain ⟨A0, A1, -, -, -⟩ := id A
  obtain ⟨X0, X1, -, -, -⟩ := id X
  obtain ⟨Y0, Y1, -, -, -⟩ := id Y
  go_wp2_with fail
  refine (KA3.out _ HB.out).mono ?_
  rintro e5 v5 ⟨rfl, hb⟩
  clear A0 A1 X0 X1 Y0 Y1
  have A := A.keep hb
  have X := X.keep hb
  have Y := Y.keep hb
  have HB := Lib.hid (bstep HB.out hb)
  clear hb
  have A := A.alloc (.cells #[.int .i64 p, .int .i64 q] 25)
  have X := X.alloc (.cells #[.int .i64 p, .int .i64 q] 25)
  have Y := Y.alloc (.cells #[.int .i64 p, .int .i64 q] 25)
  have Z := At2.new v5 (.int .i64 p) (.int .i64 q) 25
  have HB := Lib.hid (bstep HB.out (below1 v5 (.cells #[.int .i64 p, .int .i64 q] 25)))
  obtain ⟨A0, A1, -, -, -⟩ := id A
  obtain ⟨X0, X1, -, -, -⟩ := id X
  obtain ⟨Y0, Y1, -, -, -⟩ := id Y
  obtain ⟨Z0, Z1, -, -, -⟩ := id Z
  go_wp2_with fail
  go_ret
  exact ⟨rfl, HB.out⟩
set_option maxHeartbeats 2000000 in
theorem opp_pos (a b na nb l h nl nh p q m n m2 n2 u v : Int) (w : World) (k : wOk a b = true) (c : ¬ a < 0) (hm2 : 2 * b = m2) (hn2 : 2 * a = n2) (hm : 1073741824 - m2 = m) (hn : 1073741824 - n2 = n) (wa1 : -1073741824 ≤ a) (wa2 : a ≤ 1073741824) (wb1 : -1073741824 ≤ b) (wb2 : b ≤ 1073741824) (l1 : -5400000 ≤ l) (l2 : l ≤ 5400000) (h1 : -5400000 ≤ h) (h2 : h ≤ 5400000) (hna : -a = na) (hnb : -b = nb) (hnl : -l = nl) (hnh : -h = nh) (hp : 5400000 - h = p) (hq : 5400000 - l = q)
    (C0 : Hid (∀ wx, Below w.heap.size w wx → Calls Tryd.prog 11 #[] wx fun e w' => e = .returned (.bool true) ∧ Below wx.heap.size wx w'))
    (KA1 : Hid (∀ wx, Below w.heap.size w wx → Calls Tryd.prog 12 #[.agg #[.int .i64 a, .int .i64 b]] wx fun e w' => e = .returned (.tuple #[.agg #[.int .i64 l, .int .i64 h], .int .i64 0]) ∧ Below wx.heap.size wx w'))
    (KA2 : Hid (∀ wx, Below w.heap.size w wx → Calls Tryd.prog 12 #[.agg #[.int .i64 nb, .int .i64 na]] wx fun e w' => e = .returned (.tuple #[.agg #[.int .i64 nh, .int .i64 nl], .int .i64 0]) ∧ Below wx.heap.size wx w'))
    (KA3 : Hid (∀ wx, Below w.heap.size w wx → Calls Tryd.prog 13 #[.agg #[.int .i64 a, .int .i64 b]] wx fun e w' => e = .returned (.tuple #[.agg #[.int .i64 p, .int .i64 q], .int .i64 0]) ∧ Below wx.heap.size wx w'))
    (KA4 : Hid (∀ wx, Below w.heap.size w wx → Calls Tryd.prog 14 #[.agg #[.int .i64 a, .int .i64 b]] wx fun e w' => e = .returned (.tuple #[.agg #[.int .i64 u, .int .i64 v], .int .i64 0]) ∧ Below wx.heap.size wx w'))
    (KA5 : Hid (∀ wx, Below w.heap.size w wx → Calls Tryd.prog 13 #[.agg #[.int .i64 m, .int .i64 n]] wx fun e w' => e = .returned (.tuple #[.agg #[.int .i64 u, .int .i64 v], .int .i64 0]) ∧ Below wx.heap.size wx w'))
    : Calls Tryd.prog 6 #[.agg #[.int .i64 a, .int .i64 b]] w fun e w' => e = .returned (.bool true) ∧ Below w.heap.size w w' := by
  have CW := Lib.hid (fun wx => within_is a b true k wx)
  clear k
  have A := At2.new w (.int .i64 a) (.int .i64 b) 23
  have HB := Lib.hid (below1 w (.cells #[.int .i64 a, .int .i64 b] 23))
  obtain ⟨A0, A1, -, -, -⟩ := id A
  go_enter Tryd.func6, Tryd.ntmps6
  go_wp2_with fail
  refine (C0.out _ HB.out).mono ?_
  rintro e1 v1 ⟨rfl, hb⟩
  clear A0 A1
  have A := A.keep hb
  have HB := Lib.hid (bstep HB.out hb)
  clear hb
  obtain ⟨A0, A1, -, -, -⟩ := id A
  go_wp2_with fail
  refine (CW.out _).mono ?_
  rintro e2 v2 ⟨rfl, hb⟩
  clear A0 A1
  have A := A.keep hb
  have HB := Lib.hid (bstep HB.out hb)
  clear hb
  obtain ⟨A0, A1, -, -, -⟩ := id A
  go_wp2_with fail
  refine (KA1.out _ HB.out).mono ?_
  rintro e3 v3 ⟨rfl, hb⟩
  clear A0 A1
  have A := A.keep hb
  have HB := Lib.hid (bstep HB.out hb)
  clear hb
  have A := A.alloc (.cells #[.int .i64 l, .int .i64 h] 25)
  have X := At2.new v3 (.int .i64 l) (.int .i64 h) 25
  have HB := Lib.hid (bstep HB.out (below1 v3 (.cells #[.int .i64 l, .int .i64 h] 25)))
  obtain ⟨A0, A1, -, -, -⟩ := id A
  obtain ⟨X0, X1, -, -, -⟩ := id X
  go_wp2_with fail
  refine (KA2.out _ HB.out).mono ?_
  rintro e4 v4 ⟨rfl, hb⟩
  clear A0 A1 X0 X1
  have A := A.keep hb
  have X := X.keep hb
  have HB := Lib.hid (bstep HB.out hb)
  clear hb
  have A := A.alloc (.cells #[.int .i64 nh, .int .i64 nl] 25)
  have X := X.alloc (.cells #[.int .i64 nh, .int .i64 nl] 25)
  have Y := At2.new v4 (.int .i64 nh) (.int .i64 nl) 25
  have HB := Lib.hid (bstep HB.out (below1 v4 (.cells #[.int .i64 nh, .int .i64 nl] 25)))
  obtain ⟨A0, A1, -, -, -⟩ := id A
  obtain ⟨X0, X1, -, -, -⟩ := id X
  obtain ⟨Y0, Y1, -, -, -⟩ := id Y
  go_wp2_with fail
  refine (KA3.out _ HB.out).mono ?_
  rintro e5 v5 ⟨rfl, hb⟩
  clear A0 A1 X0 X1 Y0 Y1
  have A := A.keep hb
  have X := X.keep hb
  have Y := Y.keep hb
  have HB := Lib.hid (bstep HB.out hb)
  clear hb
  have A := A.alloc (.cells #[.int .i64 p, .int .i64 q] 25)
  have X := X.alloc (.cells #[.int .i64 p, .int .i64 q] 25)
  have Y := Y.alloc (.cells #[.int .i64 p, .int .i64 q] 25)
  have Z := At2.new v5 (.int .i64 p) (.int .i64 q) 25
  have HB := Lib.hid (bstep HB.out (below1 v5 (.cells #[.int .i64 p, .int .i64 q] 25)))
  obtain ⟨A0, A1, -, -, -⟩ := id A
  obtain ⟨X0, X1, -, -, -⟩ := id X
  obtain ⟨Y0, Y1, -, -, -⟩ := id Y
  obtain ⟨Z0, Z1, -, -, -⟩ := id Z
  go_wp2_with fail
  refine (KA4.out _ HB.out).mono ?_
  rintro e6 v6 ⟨rfl, hb⟩
  clear A0 A1 X0 X1 Y0 Y1 Z0 Z1
  have A := A.keep hb
  have X := X.keep hb
  have Y := Y.keep hb
  have Z := Z.keep hb
  have HB := Lib.hid (bstep HB.out hb)
  clear hb
  have A := A.alloc (.cells #[.int .i64 u, .int .i64 v] 25)
  have X := X.alloc (.cells #[.int .i64 u, .int .i64 v] 25)
  have Y := Y.alloc (.cells #[.int .i64 u, .int .i64 v] 25)
  have Z := Z.alloc (.cells #[.int .i64 u, .int .i64 v] 25)
  have U := At2.new v6 (.int .i64 u) (.int .i64 v) 25
  have HB := Lib.hid (bstep HB.out (below1 v6 (.cells #[.int .i64 u, .int .i64 v] 25)))
  obtain ⟨A0, A1, -, -, -⟩ := id A
  obtain ⟨X0, X1, -, -, -⟩ := id X
  obtain ⟨Y0, Y1, -, -, -⟩ := id Y
  obtain ⟨Z0, Z1, -, -, -⟩ := id Z
  obtain ⟨U0, U1, -, -, -⟩ := id U
  go_wp2_with fail
  refine (KA5.out _ HB.out).mono ?_
  rintro e7 v7 ⟨rfl, hb⟩
  clear A0 A1 X0 X1 Y0 Y1 Z0 Z1 U0 U1
  have A := A.keep hb
  have X := X.keep hb
  have Y := Y.keep hb
  have Z := Z.keep hb
  have U := U.keep hb
  have HB := Lib.hid (bstep HB.out hb)
  clear hb
  have A := A.alloc (.cells #[.int .i64 u, .int .i64 v] 25)
  have X := X.alloc (.cells #[.int .i64 u, .int .i64 v] 25)
  have Y := Y.alloc (.cells #[.int .i64 u, .int .i64 v] 25)
  have Z := Z.alloc (.cells #[.int .i64 u, .int .i64 v] 25)
  have U := U.alloc (.cells #[.int .i64 u, .int .i64 v] 25)
  have T := At2.new v7 (.int .i64 u) (.int .i64 v) 25
  have HB := Lib.hid (bstep HB.out (below1 v7 (.cells #[.int .i64 u, .int .i64 v] 25)))
  obtain ⟨A0, A1, -, -, -⟩ := id A
  obtain ⟨X0, X1, -, -, -⟩ := id X
  obtain ⟨Y0, Y1, -, -, -⟩ := id Y
  obtain ⟨Z0, Z1, -, -, -⟩ := id Z
  obtain ⟨U0, U1, -, -, -⟩ := id U
  obtain ⟨T0, T1, -, -, -⟩ := id T
  go_wp2_with fail
  go_ret
  exact ⟨rfl, HB.out⟩
theorem opp_walk (w : World) (P : ArProg w) (a b : Int) (ha : I64 a) (hb : I64 b) : Calls Tryd.prog 6 #[.agg #[.int .i64 a, .int .i64 b]] w fun e w' => e = .returned (.bool true) ∧ Below w.heap.size w w' := by
  have C0 := Lib.hid (fun wx (hb : Below w.heap.size w wx) => awake7 w P wx hb)
  rcases Bool.eq_false_or_eq_true (wOk a b) with k | k
  · obtain ⟨k1, k2, k3⟩ := (wOk_iff _ _).1 k
    have kn : wOk (-b) (-a) = true := (wOk_iff _ _).2 (by omega)
    obtain ⟨e1, e2, e3, i⟩ := aE_of k
    obtain ⟨f1, f2, f3, j⟩ := aE_of kn
    obtain ⟨j1, j2, j3, j4, j5⟩ := L6.asin_in i
    have A1 := Lib.hid (fun wx (hx : Below w.heap.size w wx) => P.asin a b wx hx ha hb)
    have A2 := Lib.hid (fun wx (hx : Below w.heap.size w wx) => P.asin (-b) (-a) wx hx ⟨by omega, by omega⟩ ⟨by omega, by omega⟩)
    have A3 := Lib.hid (fun wx (hx : Below w.heap.size w wx) => P.acos a b wx hx ha hb)
    have g1 : acL a b = 5400000 - L6.aHi b := by unfold acL; rw [if_pos e1, e3]
    have g2 : acH a b = 5400000 - L6.aLo a := by unfold acH; rw [if_pos e1, e2]
    have n1 : L6.aLo (-b) = -L6.aHi b := by unfold L6.aLo L6.aHi; omega
    have n2 : L6.aHi (-a) = -L6.aLo a := by unfold L6.aLo L6.aHi; rw [Int.neg_neg]
    unfold tAr at A1 A2 A3
    rw [e1, e2, e3] at A1
    rw [f1, f2, f3, n1, n2] at A2
    rw [e1, g1, g2] at A3
    by_cases c : a < 0
    · exact opp_neg a b _ _ _ _ _ _ _ _ w k c (by omega) (by omega) (by omega) (by omega) (by omega) (by omega) (by omega) (by omega) rfl rfl rfl rfl rfl rfl C0 A1 A2 A3
    · have hv : hE a b = 0 := by unfold hE; rw [if_pos ((fok_iff _ _).2 (by omega)), if_neg (by omega)]
      have hl : ahL a b = acL (1073741824 - 2 * b) (1073741824 - 2 * a) := by unfold ahL; rw [if_pos hv, show min b 1073741824 = b by omega, show max a 0 = a by omega]
      have hh : ahH a b = acH (1073741824 - 2 * b) (1073741824 - 2 * a) := by unfold ahH; rw [if_pos hv, show min b 1073741824 = b by omega, show max a 0 = a by omega]
      have A4 := Lib.hid (fun wx (hx : Below w.heap.size w wx) => P.ahav a b wx hx ha hb)
      have A5 := Lib.hid (fun wx (hx : Below w.heap.size w wx) => P.acos (1073741824 - 2 * b) (1073741824 - 2 * a) wx hx ⟨by omega, by omega⟩ ⟨by omega, by omega⟩)
      have ae : aE (1073741824 - 2 * b) (1073741824 - 2 * a) = 0 := by unfold aE; rw [if_pos ((fok_iff _ _).2 (by omega)), if_neg (by omega)]
      unfold tAr at A4 A5
      rw [hv, hl, hh] at A4
      rw [ae] at A5
      exact opp_pos a b _ _ _ _ _ _ _ _ _ _ _ _ _ _ w k c rfl rfl rfl rfl (by omega) (by omega) (by omega) (by omega) (by omega) (by omega) (by omega) (by omega) rfl rfl rfl rfl rfl rfl C0 A1 A2 A3 A4 A5
  · exact opp_out a b w k C0
end Go.Proofs.YtebhflmmdfbjkaaDoor
