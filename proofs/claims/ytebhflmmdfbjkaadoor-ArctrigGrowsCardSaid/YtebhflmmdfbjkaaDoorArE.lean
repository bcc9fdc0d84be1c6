/- ArctrigLeast: the walk of the law. -/
import Derived.Test.YtebhflmmdfbjkaaDoorAra
namespace Go.Proofs.YtebhflmmdfbjkaaDoor
open Go.RowKit
set_option linter.unusedVariables false
set_option maxRecDepth 100000

theorem least_out (a b : Int) (w : World) (h : wOk a b = false)
    (C0 : Hid (∀ wx, Below w.heap.size w wx → Calls Tryd.prog 11 #[] wx fun e w' => e = .returned (.bool true) ∧ Below wx.heap.size wx w')) : Calls Tryd.prog 5 #[.agg #[.int .i64 a, .int .i64 b]] w fun e w' => e = .returned (.bool true) ∧ Below w.heap.size w w' := by
  have CW := Lib.hid (fun wx => within_is a b false h wx)
  clear h
  have A := At2.new w (.int .i64 a) (.int .i64 b) 23
  have HB := Lib.hid (below1 w (.cells #[.int .i64 a, .int .i64 b] 23))
  obtain ⟨A0, A1, -, -, -⟩ := id A
  go_enter Tryd.func5, Tryd.ntmps5
  go_wp2_with fail
  refine (C0.out _ HB.out).mono ?_
  rintro e w2 ⟨rfl, hb⟩
  clear A0 A1
  have A := A.keep hb
  have HB := Lib.hid (bstep HB.out hb)
  clear hb
  obtain ⟨A0, A1, -, -, -⟩ := id A
  go_wp2_with fail
  refine (CW.out _).mono ?_
  rintro e w3 ⟨rfl, hb⟩
  clear A0 A1
  have A := A.keep hb
  have HB := Lib.hid (bstep HB.out hb)
  clear hb
  obtain ⟨A0, A1, -, -, -⟩ := id A
  go_wp2_with fail
  go_ret
  exact ⟨rfl, HB.out⟩

theorem least_00 (a b l h r1 r2 : Int) (w : World) (k : wOk a b = true) (l1 : ¬ l < -5400000) (l2 : ¬ h > 5400000) (l3 : ¬ l > h) (l4 : l ≤ 5400000) (l5 : -5400000 ≤ h) (n1 : ¬ r1 > 0) (n2 : ¬ r2 < 0)
    (cx : ¬ l = 5400000) (cy : ¬ h = -5400000)
    (C0 : Hid (∀ wx, Below w.heap.size w wx → Calls Tryd.prog 11 #[] wx fun e w' => e = .returned (.bool true) ∧ Below wx.heap.size wx w'))
    (CA : Hid (∀ wx, Below w.heap.size w wx → Calls Tryd.prog 12 #[.agg #[.int .i64 a, .int .i64 b]] wx fun e w' => e = .returned (.tuple #[.agg #[.int .i64 l, .int .i64 h], .int .i64 0]) ∧ Below wx.heap.size wx w'))
    (B1 : Hid (∀ wx, Below w.heap.size w wx → Calls Tryd.prog 21 #[.int .i64 l, .int .i64 a] wx fun e w' => e = .returned (.int .i64 r1) ∧ Below wx.heap.size wx w'))
    (B2 : Hid (∀ wx, Below w.heap.size w wx → Calls Tryd.prog 21 #[.int .i64 h, .int .i64 b] wx fun e w' => e = .returned (.int .i64 r2) ∧ Below wx.heap.size wx w'))
    (B3 : Hid (∀ wx, Below w.heap.size w wx → Calls Tryd.prog 21 #[.int .i64 (l + 1), .int .i64 a] wx fun e w' => e = .returned (.int .i64 1) ∧ Below wx.heap.size wx w'))
    (B4 : Hid (∀ wx, Below w.heap.size w wx → Calls Tryd.prog 21 #[.int .i64 (h - 1), .int .i64 b] wx fun e w' => e = .returned (.int .i64 (-1)) ∧ Below wx.heap.size wx w'))
    : Calls Tryd.prog 5 #[.agg #[.int .i64 a, .int .i64 b]] w fun e w' => e = .returned (.bool true) ∧ Below w.heap.size w w' := by
  have CW := Lib.hid (fun wx => within_is a b true k wx)
  clear k
  have xb : (l == 5400000) = false := by simp [cx]
  have yb : (h == -5400000) = false := by simp [cy]
  have A := At2.new w (.int .i64 a) (.int .i64 b) 23
  have HB := Lib.hid (below1 w (.cells #[.int .i64 a, .int .i64 b] 23))
  obtain ⟨A0, A1, -, -, -⟩ := id A
  go_enter Tryd.func5, Tryd.ntmps5
  go_wp2_with fail
  refine (C0.out _ HB.out).mono ?_
  rintro e w2 ⟨rfl, hb⟩
  clear A0 A1
  have A := A.keep hb
  have HB := Lib.hid (bstep HB.out hb)
  clear hb
  obtain ⟨A0, A1, -, -, -⟩ := id A
  go_wp2_with fail
  refine (CW.out _).mono ?_
  rintro e w3 ⟨rfl, hb⟩
  clear A0 A1
  have A := A.keep hb
  have HB := Lib.hid (bstep HB.out hb)
  clear hb
  obtain ⟨A0, A1, -, -, -⟩ := id A
  go_wp2_with fail
  refine (CA.out _ HB.out).mono ?_
  rintro e w4 ⟨rfl, hb⟩
  clear A0 A1
  have A := A.keep hb
  have HB := Lib.hid (bstep HB.out hb)
  clear hb
  have A := A.alloc (.cells #[.int .i64 (l), .int .i64 (h)] 25)
  have N := At2.new w4 (.int .i64 (l)) (.int .i64 (h)) 25
  have HB := Lib.hid (bstep HB.out (below1 w4 (.cells #[.int .i64 (l), .int .i64 (h)] 25)))
  obtain ⟨A0, A1, -, -, -⟩ := id A
  obtain ⟨N0, N1, -, -, -⟩ := id N
  go_wp2_with fail
  refine (B1.out _ HB.out).mono ?_
  rintro e w5 ⟨rfl, hb⟩
  clear A0 A1 N0 N1
  have A := A.keep hb
  have N := N.keep hb
  have HB := Lib.hid (bstep HB.out hb)
  clear hb
  obtain ⟨A0, A1, -, -, -⟩ := id A
  obtain ⟨N0, N1, -, -, -⟩ := id N
  go_wp2_with fail
  refine (B2.out _ HB.out).mono ?_
  rintro e w6 ⟨rfl, hb⟩
  clear A0 A1 N0 N1
  have A := A.keep hb
  have N := N.keep hb
  have HB := Lib.hid (bstep HB.out hb)
  clear hb
  obtain ⟨A0, A1, -, -, -⟩ := id A
  obtain ⟨N0, N1, -, -, -⟩ := id N
  go_wp2_with fail
  refine (B3.out _ HB.out).mono ?_
  rintro e w7 ⟨rfl, hb⟩
  clear A0 A1 N0 N1
  have A := A.keep hb
  have N := N.keep hb
  have HB := Lib.hid (bstep HB.out hb)
  clear hb
  obtain ⟨A0, A1, -, -, -⟩ := id A
  obtain ⟨N0, N1, -, -, -⟩ := id N
  go_wp2_with fail
  refine (B4.out _ HB.out).mono ?_
  rintro e w8 ⟨rfl, hb⟩
  clear A0 A1 N0 N1
  have A := A.keep hb
  have N := N.keep hb
  have HB := Lib.hid (bstep HB.out hb)
  clear hb
  obtain ⟨A0, A1, -, -, -⟩ := id A
  obtain ⟨N0, N1, -, -, -⟩ := id N
  go_wp2_with fail
  go_ret
  exact ⟨rfl, HB.out⟩

theorem least_01 (a b l r1 r2 : Int) (w : World) (k : wOk a b = true) (l1 : ¬ l < -5400000) (l2 : ¬ (-5400000) > 5400000) (l3 : ¬ l > (-5400000)) (l4 : l ≤ 5400000) (l5 : -5400000 ≤ (-5400000)) (n1 : ¬ r1 > 0) (n2 : ¬ r2 < 0)
    (cx : ¬ l = 5400000) 
    (C0 : Hid (∀ wx, Below w.heap.size w wx → Calls Tryd.prog 11 #[] wx fun e w' => e = .returned (.bool true) ∧ Below wx.heap.size wx w'))
    (CA : Hid (∀ wx, Below w.heap.size w wx → Calls Tryd.prog 12 #[.agg #[.int .i64 a, .int .i64 b]] wx fun e w' => e = .returned (.tuple #[.agg #[.int .i64 l, .int .i64 (-5400000)], .int .i64 0]) ∧ Below wx.heap.size wx w'))
    (B1 : Hid (∀ wx, Below w.heap.size w wx → Calls Tryd.prog 21 #[.int .i64 l, .int .i64 a] wx fun e w' => e = .returned (.int .i64 r1) ∧ Below wx.heap.size wx w'))
    (B2 : Hid (∀ wx, Below w.heap.size w wx → Calls Tryd.prog 21 #[.int .i64 (-5400000), .int .i64 b] wx fun e w' => e = .returned (.int .i64 r2) ∧ Below wx.heap.size wx w'))
    (B3 : Hid (∀ wx, Below w.heap.size w wx → Calls Tryd.prog 21 #[.int .i64 (l + 1), .int .i64 a] wx fun e w' => e = .returned (.int .i64 1) ∧ Below wx.heap.size wx w'))
    : Calls Tryd.prog 5 #[.agg #[.int .i64 a, .int .i64 b]] w fun e w' => e = .returned (.bool true) ∧ Below w.heap.size w w' := by
  have CW := Lib.hid (fun wx => within_is a b true k wx)
  clear k
  have xb : (l == 5400000) = false := by simp [cx]
  have A := At2.new w (.int .i64 a) (.int .i64 b) 23
  have HB := Lib.hid (below1 w (.cells #[.int .i64 a, .int .i64 b] 23))
  obtain ⟨A0, A1, -, -, -⟩ := id A
  go_enter Tryd.func5, Tryd.ntmps5
  go_wp2_with fail
  refine (C0.out _ HB.out).mono ?_
  rintro e w2 ⟨rfl, hb⟩
  clear A0 A1
  have A := A.keep hb
  have HB := Lib.hid (bstep HB.out hb)
  clear hb
  obtain ⟨A0, A1, -, -, -⟩ := id A
  go_wp2_with fail
  refine (CW.out _).mono ?_
  rintro e w3 ⟨rfl, hb⟩
  clear A0 A1
  have A := A.keep hb
  have HB := Lib.hid (bstep HB.out hb)
  clear hb
  obtain ⟨A0, A1, -, -, -⟩ := id A
  go_wp2_with fail
  refine (CA.out _ HB.out).mono ?_
  rintro e w4 ⟨rfl, hb⟩
  clear A0 A1
  have A := A.keep hb
  have HB := Lib.hid (bstep HB.out hb)
  clear hb
  have A := A.alloc (.cells #[.int .i64 (l), .int .i64 ((-5400000))] 25)
  have N := At2.new w4 (.int .i64 (l)) (.int .i64 ((-5400000))) 25
  have HB := Lib.hid (bstep HB.out (below1 w4 (.cells #[.int .i64 (l), .int .i64 ((-5400000))] 25)))
  obtain ⟨A0, A1, -, -, -⟩ := id A
  obtain ⟨N0, N1, -, -, -⟩ := id N
  go_wp2_with fail
  refine (B1.out _ HB.out).mono ?_
  rintro e w5 ⟨rfl, hb⟩
  clear A0 A1 N0 N1
  have A := A.keep hb
  have N := N.keep hb
  have HB := Lib.hid (bstep HB.out hb)
  clear hb
  obtain ⟨A0, A1, -, -, -⟩ := id A
  obtain ⟨N0, N1, -, -, -⟩ := id N
  go_wp2_with fail
  refine (B2.out _ HB.out).mono ?_
  rintro e w6 ⟨rfl, hb⟩
  clear A0 A1 N0 N1
  have A := A.keep hb
  have N := N.keep hb
  have HB := Lib.hid (bstep HB.out hb)
  clear hb
  obtain ⟨A0, A1, -, -, -⟩ := id A
  obtain ⟨N0, N1, -, -, -⟩ := id N
  go_wp2_with fail
  refine (B3.out _ HB.out).mono ?_
  rintro e w7 ⟨rfl, hb⟩
  clear A0 A1 N0 N1
  have A := A.keep hb
  have N := N.keep hb
  have HB := Lib.hid (bstep HB.out hb)
  clear hb
  obtain ⟨A0, A1, -, -, -⟩ := id A
  obtain ⟨N0, N1, -, -, -⟩ := id N
  go_wp2_with fail
  go_ret
  exact ⟨rfl, HB.out⟩

theorem least_10 (a b h r1 r2 : Int) (w : World) (k : wOk a b = true) (l1 : ¬ 5400000 < -5400000) (l2 : ¬ h > 5400000) (l3 : ¬ 5400000 > h) (l4 : 5400000 ≤ 5400000) (l5 : -5400000 ≤ h) (n1 : ¬ r1 > 0) (n2 : ¬ r2 < 0)
     (cy : ¬ h = -5400000)
    (C0 : Hid (∀ wx, Below w.heap.size w wx → Calls Tryd.prog 11 #[] wx fun e w' => e = .returned (.bool true) ∧ Below wx.heap.size wx w'))
    (CA : Hid (∀ wx, Below w.heap.size w wx → Calls Tryd.prog 12 #[.agg #[.int .i64 a, .int .i64 b]] wx fun e w' => e = .returned (.tuple #[.agg #[.int .i64 5400000, .int .i64 h], .int .i64 0]) ∧ Below wx.heap.size wx w'))
    (B1 : Hid (∀ wx, Below w.heap.size w wx → Calls Tryd.prog 21 #[.int .i64 5400000, .int .i64 a] wx fun e w' => e = .returned (.int .i64 r1) ∧ Below wx.heap.size wx w'))
    (B2 : Hid (∀ wx, Below w.heap.size w wx → Calls Tryd.prog 21 #[.int .i64 h, .int .i64 b] wx fun e w' => e = .returned (.int .i64 r2) ∧ Below wx.heap.size wx w'))
    (B4 : Hid (∀ wx, Below w.heap.size w wx → Calls Tryd.prog 21 #[.int .i64 (h - 1), .int .i64 b] wx fun e w' => e = .returned (.int .i64 (-1)) ∧ Below wx.heap.size wx w'))
    : Calls Tryd.prog 5 #[.agg #[.int .i64 a, .int .i64 b]] w fun e w' => e = .returned (.bool true) ∧ Below w.heap.size w w' := by
  have CW := Lib.hid (fun wx => within_is a b true k wx)
  clear k
  have yb : (h == -5400000) = false := by simp [cy]
  have A := At2.new w (.int .i64 a) (.int .i64 b) 23
  have HB := Lib.hid (below1 w (.cells #[.int .i64 a, .int .i64 b] 23))
  obtain ⟨A0, A1, -, -, -⟩ := id A
  go_enter Tryd.func5, Tryd.ntmps5
  go_wp2_with fail
  refine (C0.out _ HB.out).mono ?_
  rintro e w2 ⟨rfl, hb⟩
  clear A0 A1
  have A := A.keep hb
  have HB := Lib.hid (bstep HB.out hb)
  clear hb
  obtain ⟨A0, A1, -, -, -⟩ := id A
  go_wp2_with fail
  refine (CW.out _).mono ?_
  rintro e w3 ⟨rfl, hb⟩
  clear A0 A1
  have A := A.keep hb
  have HB := Lib.hid (bstep HB.out hb)
  clear hb
  obtain ⟨A0, A1, -, -, -⟩ := id A
  go_wp2_with fail
  refine (CA.out _ HB.out).mono ?_
  rintro e w4 ⟨rfl, hb⟩
  clear A0 A1
  have A := A.keep hb
  have HB := Lib.hid (bstep HB.out hb)
  clear hb
  have A := A.alloc (.cells #[.int .i64 (5400000), .int .i64 (h)] 25)
  have N := At2.new w4 (.int .i64 (5400000)) (.int .i64 (h)) 25
  have HB := Lib.hid (bstep HB.out (below1 w4 (.cells #[.int .i64 (5400000), .int .i64 (h)] 25)))
  obtain ⟨A0, A1, -, -, -⟩ := id A
  obtain ⟨N0, N1, -, -, -⟩ := id N
  go_wp2_with fail
  refine (B1.out _ HB.out).mono ?_
  rintro e w5 ⟨rfl, hb⟩
  clear A0 A1 N0 N1
  have A := A.keep hb
  have N := N.keep hb
  have HB := Lib.hid (bstep HB.out hb)
  clear hb
  obtain ⟨A0, A1, -, -, -⟩ := id A
  obtain ⟨N0, N1, -, -, -⟩ := id N
  go_wp2_with fail
  refine (B2.out _ HB.out).mono ?_
  rintro e w6 ⟨rfl, hb⟩
  clear A0 A1 N0 N1
  have A := A.keep hb
  have N := N.keep hb
  have HB := Lib.hid (bstep HB.out hb)
  clear hb
  obtain ⟨A0, A1, -, -, -⟩ := id A
  obtain ⟨N0, N1, -, -, -⟩ := id N
  go_wp2_with fail
  refine (B4.out _ HB.out).mono ?_
  rintro e w7 ⟨rfl, hb⟩
  clear A0 A1 N0 N1
  have A := A.keep hb
  have N := N.keep hb
  have HB := Lib.hid (bstep HB.out hb)
  clear hb
  obtain ⟨A0, A1, -, -, -⟩ := id A
  obtain ⟨N0, N1, -, -, -⟩ := id N
  go_wp2_with fail
  go_ret
  exact ⟨rfl, HB.out⟩

theorem aE_of {a b : Int} (k : wOk a b = true) : aE a b = 0 ∧ asL a b = L6.aLo a ∧ asH a b = L6.aHi b ∧ L6.InA a b := by
  obtain ⟨k1, k2, k3⟩ := (wOk_iff a b).1 k
  have f : fok a b = true := (fok_iff a b).2 ⟨by omega, by omega, k1⟩
  have e : aE a b = 0 := by unfold aE; rw [if_pos f, if_neg (by omega)]
  refine ⟨e, ?_, ?_, by omega, k1, k3⟩
  · unfold asL; rw [if_pos e, show max a (-1073741824) = a by omega]
  · unfold asH; rw [if_pos e, show min b 1073741824 = b by omega]
theorem least_walk (w : World) (P : ArProg w) (T : TrProg w) (a b : Int) (ha : I64 a) (hb : I64 b) : Calls Tryd.prog 5 #[.agg #[.int .i64 a, .int .i64 b]] w fun e w' => e = .returned (.bool true) ∧ Below w.heap.size w w' := by
  have C0 := Lib.hid (fun wx (hb : Below w.heap.size w wx) => awake7 w P wx hb)
  rcases Bool.eq_false_or_eq_true (wOk a b) with k | k
  · obtain ⟨e1, e2, e3, i⟩ := aE_of k
    obtain ⟨j1, j2, j3, j4, j5⟩ := L6.asin_in i
    obtain ⟨m1, m2, m3, m4⟩ := L6.asin_ends i
    have CA := Lib.hid (fun wx (hx : Below w.heap.size w wx) => P.asin a b wx hx ha hb)
    unfold tAr at CA
    rw [e1, e2, e3] at CA
    obtain ⟨p1, p2, p3, p4⟩ := bln_le (L6.aLo a) a
    obtain ⟨q1, q2⟩ := bln_ge (L6.aHi b) b
    obtain ⟨x1, x2, x3, x4⟩ := bln_le (L6.aLo a + 1) a
    obtain ⟨y1, y2⟩ := bln_ge (L6.aHi b - 1) b
    have B1 := Lib.hid (fun wx (hx : Below w.heap.size w wx) => T.below (L6.aLo a) a wx hx ⟨by omega, by omega⟩ ha)
    have B2 := Lib.hid (fun wx (hx : Below w.heap.size w wx) => T.below (L6.aHi b) b wx hx ⟨by omega, by omega⟩ hb)
    have B3 := Lib.hid (fun wx (hx : Below w.heap.size w wx) => T.below (L6.aLo a + 1) a wx hx ⟨by omega, by omega⟩ ha)
    have B4 := Lib.hid (fun wx (hx : Below w.heap.size w wx) => T.below (L6.aHi b - 1) b wx hx ⟨by omega, by omega⟩ hb)
    have n1 : ¬ blN (L6.aLo a) a > 0 := by have := p1 m1; omega
    have n2 : ¬ blN (L6.aHi b) b < 0 := by have := q1 m2; omega
    by_cases cx : L6.aLo a = 5400000
    · have cy : ¬ L6.aHi b = -5400000 := by omega
      rw [y2 (m4.resolve_left cy)] at B4
      rw [cx] at CA B1 n1
      exact least_10 a b _ _ _ w k (by omega) (by omega) (by omega) (by omega) (by omega) n1 n2 cy C0 CA B1 B2 B4
    · rw [x2 (m3.resolve_left cx)] at B3
      by_cases cy : L6.aHi b = -5400000
      · rw [cy] at CA B2 n2
        exact least_01 a b _ _ _ w k (by omega) (by omega) (by omega) (by omega) (by omega) n1 n2 cx C0 CA B1 B2 B3
      · rw [y2 (m4.resolve_left cy)] at B4
        exact least_00 a b _ _ _ _ w k (by omega) (by omega) (by omega) (by omega) (by omega) n1 n2 cx cy C0 CA B1 B2 B3 B4
  · exact least_out a b w k C0
end Go.Proofs.YtebhflmmdfbjkaaDoor
