/- TrigTurns: the walk of the law. -/
import Derived.Test.YtglmkpnnbgkndaaDoorTrO
namespace Go.Proofs.YtglmkpnnbgkndaaDoor
open Go.RowKit
set_option linter.unusedVariables false
set_option maxRecDepth 100000


theorem turns_out (w : World) (P : TrProg w) (a b k : Int) (h : rok a b = false) :
    Calls Tryd.prog 6 #[.agg #[.int .i64 a, .int .i64 b], .int .i8 k] w fun e w' => e = .returned (.bool true) ∧ Below w.heap.size w w' := by
  have C0 := Lib.hid (fun wx (hb : Below w.heap.size w wx) => awake_any w P wx hb)
  have C1 := Lib.hid (fun wx => right_is a b false h wx)
  clear h
  have A := At2.new w (.int .i64 a) (.int .i64 b) 23
  have HB := Lib.hid (bstep (Below.refl w.heap.size w) (below1 w (.cells #[.int .i64 a, .int .i64 b] 23)))
  go_enter Tryd.func6, Tryd.ntmps6
  obtain ⟨A0, A1, -, -, -⟩ := id A
  go_wp2_with fail
  refine (C0.out _ HB.out).mono ?_
  rintro e w1 ⟨rfl, hb⟩
  have A := A.keep hb
  have HB := Lib.hid (bstep HB.out hb)
  clear hb
  clear A0 A1
  obtain ⟨A0, A1, -, -, -⟩ := id A
  go_wp2_with fail
  refine (C1.out _).mono ?_
  rintro e w2 ⟨rfl, hb⟩
  have A := A.keep hb
  have HB := Lib.hid (bstep HB.out hb)
  clear hb
  clear A0 A1
  obtain ⟨A0, A1, -, -, -⟩ := id A
  go_wp2_with fail
  go_ret
  exact ⟨rfl, HB.out⟩

set_option maxHeartbeats 4000000 in
theorem turns_in (w : World) (a b k nb na x y u v m h nx ny qa qb ha hb t ta tb : Int)
    (hnb : -b = nb) (hna : -a = na) (hqa : a + 5400000 = qa) (hqb : b + 5400000 = qb) (hha : a + 10800000 = ha) (hhb : b + 10800000 = hb) (ht : k * 21600000 = t) (hta : a + t = ta) (htb : b + t = tb)
    (a1 : -274877906944 ≤ a) (a2 : a ≤ 274877906944) (b1 : -274877906944 ≤ b) (b2 : b ≤ 274877906944) (k1 : -128 ≤ k) (k2 : k ≤ 127)
    (hx : -x = nx) (hy : -y = ny) (x1 : -1073741824 ≤ x) (x2 : x ≤ 1073741824) (y1 : -1073741824 ≤ y) (y2 : y ≤ 1073741824)
    (C0 : Hid (∀ wx, Below w.heap.size w wx → Calls Tryd.prog 12 #[] wx fun e w' => e = .returned (.bool true) ∧ Below wx.heap.size wx w'))
    (C1 : Hid (∀ wx, Calls Tryd.prog 22 #[.agg #[.int .i64 a, .int .i64 b]] wx fun e w' => e = .returned (.bool true) ∧ Below wx.heap.size wx w'))
    (S1 : Hid (∀ wx, Below w.heap.size w wx → Calls Tryd.prog 13 #[.agg #[.int .i64 a, .int .i64 b]] wx fun e w' => e = .returned (.tuple #[.agg #[.int .i64 x, .int .i64 y], .int .i64 0]) ∧ Below wx.heap.size wx w'))
    (S2 : Hid (∀ wx, Below w.heap.size w wx → Calls Tryd.prog 14 #[.agg #[.int .i64 a, .int .i64 b]] wx fun e w' => e = .returned (.tuple #[.agg #[.int .i64 u, .int .i64 v], .int .i64 0]) ∧ Below wx.heap.size wx w'))
    (S3 : Hid (∀ wx, Below w.heap.size w wx → Calls Tryd.prog 18 #[.agg #[.int .i64 a, .int .i64 b]] wx fun e w' => e = .returned (.tuple #[.agg #[.int .i64 m, .int .i64 h], .int .i64 0]) ∧ Below wx.heap.size wx w'))
    (S4 : Hid (∀ wx, Below w.heap.size w wx → Calls Tryd.prog 13 #[.agg #[.int .i64 nb, .int .i64 na]] wx fun e w' => e = .returned (.tuple #[.agg #[.int .i64 ny, .int .i64 nx], .int .i64 0]) ∧ Below wx.heap.size wx w'))
    (S5 : Hid (∀ wx, Below w.heap.size w wx → Calls Tryd.prog 14 #[.agg #[.int .i64 nb, .int .i64 na]] wx fun e w' => e = .returned (.tuple #[.agg #[.int .i64 u, .int .i64 v], .int .i64 0]) ∧ Below wx.heap.size wx w'))
    (S6 : Hid (∀ wx, Below w.heap.size w wx → Calls Tryd.prog 18 #[.agg #[.int .i64 nb, .int .i64 na]] wx fun e w' => e = .returned (.tuple #[.agg #[.int .i64 m, .int .i64 h], .int .i64 0]) ∧ Below wx.heap.size wx w'))
    (S7 : Hid (∀ wx, Below w.heap.size w wx → Calls Tryd.prog 13 #[.agg #[.int .i64 qa, .int .i64 qb]] wx fun e w' => e = .returned (.tuple #[.agg #[.int .i64 u, .int .i64 v], .int .i64 0]) ∧ Below wx.heap.size wx w'))
    (S8 : Hid (∀ wx, Below w.heap.size w wx → Calls Tryd.prog 13 #[.agg #[.int .i64 ha, .int .i64 hb]] wx fun e w' => e = .returned (.tuple #[.agg #[.int .i64 ny, .int .i64 nx], .int .i64 0]) ∧ Below wx.heap.size wx w'))
    (S9 : Hid (∀ wx, Below w.heap.size w wx → Calls Tryd.prog 13 #[.agg #[.int .i64 ta, .int .i64 tb]] wx fun e w' => e = .returned (.tuple #[.agg #[.int .i64 x, .int .i64 y], .int .i64 0]) ∧ Below wx.heap.size wx w'))
    (SA : Hid (∀ wx, Below w.heap.size w wx → Calls Tryd.prog 14 #[.agg #[.int .i64 ta, .int .i64 tb]] wx fun e w' => e = .returned (.tuple #[.agg #[.int .i64 u, .int .i64 v], .int .i64 0]) ∧ Below wx.heap.size wx w'))
    (SB : Hid (∀ wx, Below w.heap.size w wx → Calls Tryd.prog 18 #[.agg #[.int .i64 ta, .int .i64 tb]] wx fun e w' => e = .returned (.tuple #[.agg #[.int .i64 m, .int .i64 h], .int .i64 0]) ∧ Below wx.heap.size wx w')) :
    Calls Tryd.prog 6 #[.agg #[.int .i64 a, .int .i64 b], .int .i8 k] w fun e w' => e = .returned (.bool true) ∧ Below w.heap.size w w' := by
  have CN := Lib.hid (fun wx => alc_minus x y nx ny hx hy x1 x2 y1 y2 wx)
  have CQ := Lib.hid (fun wx A => move_any a b 5400000 qa qb w.heap.size hqa hqb (by omega) (by omega) (by omega) (by omega) wx A)
  have CH := Lib.hid (fun wx A => move_any a b 10800000 ha hb w.heap.size hha hhb (by omega) (by omega) (by omega) (by omega) wx A)
  have CT := Lib.hid (fun wx A => move_any a b t ta tb w.heap.size hta htb (by omega) (by omega) (by omega) (by omega) wx A)
  have t1 : -9223372036854775808 ≤ t := by omega
  have t2 : t ≤ 9223372036854775807 := by omega
  have e1 : (0 : Int) - b = nb := by omega
  have e2 : (0 : Int) - a = na := by omega
  have n1 : -9223372036854775808 ≤ nb := by omega
  have n2 : nb ≤ 9223372036854775807 := by omega
  have n3 : -9223372036854775808 ≤ na := by omega
  have n4 : na ≤ 9223372036854775807 := by omega
  have kw : IntKind.i64.wrap k = k := i64_is (by omega) (by omega)
  clear hx hy x1 x2 y1 y2 hqa hqb hha hhb hta htb
  have A := At2.new w (.int .i64 a) (.int .i64 b) 23
  have HB := Lib.hid (bstep (Below.refl w.heap.size w) (below1 w (.cells #[.int .i64 a, .int .i64 b] 23)))
  go_enter Tryd.func6, Tryd.ntmps6
  obtain ⟨A0, A1, -, -, -⟩ := id A
  go_wp2_with fail
  refine (C0.out _ HB.out).mono ?_
  rintro e w1 ⟨rfl, hb⟩
  have A := A.keep hb
  have HB := Lib.hid (bstep HB.out hb)
  clear hb A0 A1
  obtain ⟨A0, A1, -, -, -⟩ := id A
  go_wp2_with fail
  refine (C1.out _ ).mono ?_
  rintro e w2 ⟨rfl, hb⟩
  have A := A.keep hb
  have HB := Lib.hid (bstep HB.out hb)
  clear hb A0 A1
  obtain ⟨A0, A1, -, -, -⟩ := id A
  clear A0 A1
  obtain ⟨Aa, Ab, -, -, -⟩ := id A
  have ltAN := A.lt
  have A := A.alloc (.cells #[.int .i64 (nb), .int .i64 (na)] 23)
  have szN := HB.out.size
  have N := At2.new w2 (.int .i64 (nb)) (.int .i64 (na)) 23
  have HB := Lib.hid (bstep HB.out (below1 w2 (.cells #[.int .i64 (nb), .int .i64 (na)] 23)))
  obtain ⟨A0, A1, -, -, -⟩ := id A
  obtain ⟨N0, N1, -, -, -⟩ := id N
  go_wp2_with fail
  clear Aa Ab
  refine (S1.out _ HB.out).mono ?_
  rintro e w3 ⟨rfl, hb⟩
  have A := A.keep hb
  have N := N.keep hb
  have HB := Lib.hid (bstep HB.out hb)
  clear hb A0 A1 N0 N1
  have ltAX := A.lt
  have A := A.alloc (.cells #[.int .i64 (x), .int .i64 (y)] 25)
  have ltNX := N.lt
  have N := N.alloc (.cells #[.int .i64 (x), .int .i64 (y)] 25)
  have szX := HB.out.size
  have X := At2.new w3 (.int .i64 (x)) (.int .i64 (y)) 25
  have HB := Lib.hid (bstep HB.out (below1 w3 (.cells #[.int .i64 (x), .int .i64 (y)] 25)))
  obtain ⟨A0, A1, -, -, -⟩ := id A
  obtain ⟨N0, N1, -, -, -⟩ := id N
  obtain ⟨X0, X1, -, -, -⟩ := id X
  go_wp2_with fail
  refine (S2.out _ HB.out).mono ?_
  rintro e w4 ⟨rfl, hb⟩
  have A := A.keep hb
  have N := N.keep hb
  have X := X.keep hb
  have HB := Lib.hid (bstep HB.out hb)
  clear hb A0 A1 N0 N1 X0 X1
  have ltAY := A.lt
  have A := A.alloc (.cells #[.int .i64 (u), .int .i64 (v)] 25)
  have ltNY := N.lt
  have N := N.alloc (.cells #[.int .i64 (u), .int .i64 (v)] 25)
  have ltXY := X.lt
  have X := X.alloc (.cells #[.int .i64 (u), .int .i64 (v)] 25)
  have szY := HB.out.size
  have Y := At2.new w4 (.int .i64 (u)) (.int .i64 (v)) 25
  have HB := Lib.hid (bstep HB.out (below1 w4 (.cells #[.int .i64 (u), .int .i64 (v)] 25)))
  obtain ⟨A0, A1, -, -, -⟩ := id A
  obtain ⟨N0, N1, -, -, -⟩ := id N
  obtain ⟨X0, X1, -, -, -⟩ := id X
  obtain ⟨Y0, Y1, -, -, -⟩ := id Y
  go_wp2_with fail
  refine (S3.out _ HB.out).mono ?_
  rintro e w5 ⟨rfl, hb⟩
  have A := A.keep hb
  have N := N.keep hb
  have X := X.keep hb
  have Y := Y.keep hb
  have HB := Lib.hid (bstep HB.out hb)
  clear hb A0 A1 N0 N1 X0 X1 Y0 Y1
  have ltAZ := A.lt
  have A := A.alloc (.cells #[.int .i64 (m), .int .i64 (h)] 25)
  have ltNZ := N.lt
  have N := N.alloc (.cells #[.int .i64 (m), .int .i64 (h)] 25)
  have ltXZ := X.lt
  have X := X.alloc (.cells #[.int .i64 (m), .int .i64 (h)] 25)
  have ltYZ := Y.lt
  have Y := Y.alloc (.cells #[.int .i64 (m), .int .i64 (h)] 25)
  have szZ := HB.out.size
  have Z := At2.new w5 (.int .i64 (m)) (.int .i64 (h)) 25
  have HB := Lib.hid (bstep HB.out (below1 w5 (.cells #[.int .i64 (m), .int .i64 (h)] 25)))
  obtain ⟨A0, A1, -, -, -⟩ := id A
  obtain ⟨N0, N1, -, -, -⟩ := id N
  obtain ⟨X0, X1, -, -, -⟩ := id X
  obtain ⟨Y0, Y1, -, -, -⟩ := id Y
  obtain ⟨Z0, Z1, -, -, -⟩ := id Z
  go_wp2_with fail
  refine (S4.out _ HB.out).mono ?_
  rintro e w6 ⟨rfl, hb⟩
  have A := A.keep hb
  have N := N.keep hb
  have X := X.keep hb
  have Y := Y.keep hb
  have Z := Z.keep hb
  have HB := Lib.hid (bstep HB.out hb)
  clear hb A0 A1 N0 N1 X0 X1 Y0 Y1 Z0 Z1
  have ltAX2 := A.lt
  have A := A.alloc (.cells #[.int .i64 (ny), .int .i64 (nx)] 25)
  have ltNX2 := N.lt
  have N := N.alloc (.cells #[.int .i64 (ny), .int .i64 (nx)] 25)
  have ltXX2 := X.lt
  have X := X.alloc (.cells #[.int .i64 (ny), .int .i64 (nx)] 25)
  have ltYX2 := Y.lt
  have Y := Y.alloc (.cells #[.int .i64 (ny), .int .i64 (nx)] 25)
  have ltZX2 := Z.lt
  have Z := Z.alloc (.cells #[.int .i64 (ny), .int .i64 (nx)] 25)
  have szX2 := HB.out.size
  have X2 := At2.new w6 (.int .i64 (ny)) (.int .i64 (nx)) 25
  have HB := Lib.hid (bstep HB.out (below1 w6 (.cells #[.int .i64 (ny), .int .i64 (nx)] 25)))
  obtain ⟨A0, A1, -, -, -⟩ := id A
  obtain ⟨N0, N1, -, -, -⟩ := id N
  obtain ⟨X0, X1, -, -, -⟩ := id X
  obtain ⟨Y0, Y1, -, -, -⟩ := id Y
  obtain ⟨Z0, Z1, -, -, -⟩ := id Z
  obtain ⟨X20, X21, -, -, -⟩ := id X2
  go_wp2_with fail
  refine (S5.out _ HB.out).mono ?_
  rintro e w7 ⟨rfl, hb⟩
  have A := A.keep hb
  have N := N.keep hb
  have X := X.keep hb
  have Y := Y.keep hb
  have Z := Z.keep hb
  have X2 := X2.keep hb
  have HB := Lib.hid (bstep HB.out hb)
  clear hb A0 A1 N0 N1 X0 X1 Y0 Y1 Z0 Z1 X20 X21
  have ltAY2 := A.lt
  have A := A.alloc (.cells #[.int .i64 (u), .int .i64 (v)] 25)
  have ltNY2 := N.lt
  have N := N.alloc (.cells #[.int .i64 (u), .int .i64 (v)] 25)
  have ltXY2 := X.lt
  have X := X.alloc (.cells #[.int .i64 (u), .int .i64 (v)] 25)
  have ltYY2 := Y.lt
  have Y := Y.alloc (.cells #[.int .i64 (u), .int .i64 (v)] 25)
  have ltZY2 := Z.lt
  have Z := Z.alloc (.cells #[.int .i64 (u), .int .i64 (v)] 25)
  have ltX2Y2 := X2.lt
  have X2 := X2.alloc (.cells #[.int .i64 (u), .int .i64 (v)] 25)
  have szY2 := HB.out.size
  have Y2 := At2.new w7 (.int .i64 (u)) (.int .i64 (v)) 25
  have HB := Lib.hid (bstep HB.out (below1 w7 (.cells #[.int .i64 (u), .int .i64 (v)] 25)))
  obtain ⟨A0, A1, -, -, -⟩ := id A
  obtain ⟨N0, N1, -, -, -⟩ := id N
  obtain ⟨X0, X1, -, -, -⟩ := id X
  obtain ⟨Y0, Y1, -, -, -⟩ := id Y
  obtain ⟨Z0, Z1, -, -, -⟩ := id Z
  obtain ⟨X20, X21, -, -, -⟩ := id X2
  obtain ⟨Y20, Y21, -, -, -⟩ := id Y2
  go_wp2_with fail
  refine (S6.out _ HB.out).mono ?_
  rintro e w8 ⟨rfl, hb⟩
  have A := A.keep hb
  have N := N.keep hb
  have X := X.keep hb
  have Y := Y.keep hb
  have Z := Z.keep hb
  have X2 := X2.keep hb
  have Y2 := Y2.keep hb
  have HB := Lib.hid (bstep HB.out hb)
  clear hb A0 A1 N0 N1 X0 X1 Y0 Y1 Z0 Z1 X20 X21 Y20 Y21
  have ltAZ2 := A.lt
  have A := A.alloc (.cells #[.int .i64 (m), .int .i64 (h)] 25)
  have ltNZ2 := N.lt
  have N := N.alloc (.cells #[.int .i64 (m), .int .i64 (h)] 25)
  have ltXZ2 := X.lt
  have X := X.alloc (.cells #[.int .i64 (m), .int .i64 (h)] 25)
  have ltYZ2 := Y.lt
  have Y := Y.alloc (.cells #[.int .i64 (m), .int .i64 (h)] 25)
  have ltZZ2 := Z.lt
  have Z := Z.alloc (.cells #[.int .i64 (m), .int .i64 (h)] 25)
  have ltX2Z2 := X2.lt
  have X2 := X2.alloc (.cells #[.int .i64 (m), .int .i64 (h)] 25)
  have ltY2Z2 := Y2.lt
  have Y2 := Y2.alloc (.cells #[.int .i64 (m), .int .i64 (h)] 25)
  have szZ2 := HB.out.size
  have Z2 := At2.new w8 (.int .i64 (m)) (.int .i64 (h)) 25
  have HB := Lib.hid (bstep HB.out (below1 w8 (.cells #[.int .i64 (m), .int .i64 (h)] 25)))
  obtain ⟨A0, A1, -, -, -⟩ := id A
  obtain ⟨N0, N1, -, -, -⟩ := id N
  obtain ⟨X0, X1, -, -, -⟩ := id X
  obtain ⟨Y0, Y1, -, -, -⟩ := id Y
  obtain ⟨Z0, Z1, -, -, -⟩ := id Z
  obtain ⟨X20, X21, -, -, -⟩ := id X2
  obtain ⟨Y20, Y21, -, -, -⟩ := id Y2
  obtain ⟨Z20, Z21, -, -, -⟩ := id Z2
  go_wp2_with fail
  clear A0 A1 N0 N1 X0 X1 Y0 Y1 Z0 Z1 X20 X21 Y20 Y21 Z20 Z21
  obtain ⟨A0, A1⟩ := A.bel
  obtain ⟨N0, N1⟩ := N.bel
  obtain ⟨X0, X1⟩ := X.bel
  obtain ⟨Y0, Y1⟩ := Y.bel
  obtain ⟨Z0, Z1⟩ := Z.bel
  obtain ⟨X20, X21⟩ := X2.bel
  obtain ⟨Y20, Y21⟩ := Y2.bel
  obtain ⟨Z20, Z21⟩ := Z2.bel
  refine wp_region_bel (by kernel_rfl) (by kernel_rfl) ?_
  repeat (go_big_quiet_step (first | (go_at_call 24; first | (with_reducible refine bel_of (CN.out _)))))
  refine wpQuiet_nil ?_
  intro _ hw'
  obtain ⟨pq, hw''⟩ := hw'
  subst hw''
  have A := A.keep pq.h
  have N := N.keep pq.h
  have X := X.keep pq.h
  have Y := Y.keep pq.h
  have Z := Z.keep pq.h
  have X2 := X2.keep pq.h
  have Y2 := Y2.keep pq.h
  have Z2 := Z2.keep pq.h
  have HB := Lib.hid (bstep HB.out pq.h)
  clear A0 A1 N0 N1 X0 X1 Y0 Y1 Z0 Z1 X20 X21 Y20 Y21 Z20 Z21
  obtain ⟨A0, A1, -, -, -⟩ := id A
  obtain ⟨N0, N1, -, -, -⟩ := id N
  obtain ⟨X0, X1, -, -, -⟩ := id X
  obtain ⟨Y0, Y1, -, -, -⟩ := id Y
  obtain ⟨Z0, Z1, -, -, -⟩ := id Z
  obtain ⟨X20, X21, -, -, -⟩ := id X2
  obtain ⟨Y20, Y21, -, -, -⟩ := id Y2
  obtain ⟨Z20, Z21, -, -, -⟩ := id Z2
  go_wp2_with fail
  refine (CQ.out _ A).mono ?_
  rintro e w9 ⟨rfl, hb⟩
  have A := A.keep hb
  have N := N.keep hb
  have X := X.keep hb
  have Y := Y.keep hb
  have Z := Z.keep hb
  have X2 := X2.keep hb
  have Y2 := Y2.keep hb
  have Z2 := Z2.keep hb
  have HB := Lib.hid (bstep HB.out hb)
  clear hb A0 A1 N0 N1 X0 X1 Y0 Y1 Z0 Z1 X20 X21 Y20 Y21 Z20 Z21
  obtain ⟨A0, A1, -, -, -⟩ := id A
  obtain ⟨N0, N1, -, -, -⟩ := id N
  obtain ⟨X0, X1, -, -, -⟩ := id X
  obtain ⟨Y0, Y1, -, -, -⟩ := id Y
  obtain ⟨Z0, Z1, -, -, -⟩ := id Z
  obtain ⟨X20, X21, -, -, -⟩ := id X2
  obtain ⟨Y20, Y21, -, -, -⟩ := id Y2
  obtain ⟨Z20, Z21, -, -, -⟩ := id Z2
  go_wp2_with fail
  refine (S7.out _ HB.out).mono ?_
  rintro e w10 ⟨rfl, hb⟩
  have A := A.keep hb
  have N := N.keep hb
  have X := X.keep hb
  have Y := Y.keep hb
  have Z := Z.keep hb
  have X2 := X2.keep hb
  have Y2 := Y2.keep hb
  have Z2 := Z2.keep hb
  have HB := Lib.hid (bstep HB.out hb)
  clear hb A0 A1 N0 N1 X0 X1 Y0 Y1 Z0 Z1 X20 X21 Y20 Y21 Z20 Z21
  have A' := A.far (show w.heap.size ≠ w6.heap.size by omega) (.int .i64 (u)) (.int .i64 (v))
  have N' := N.far (show w2.heap.size ≠ w6.heap.size by omega) (.int .i64 (u)) (.int .i64 (v))
  have X' := X.far (show w3.heap.size ≠ w6.heap.size by omega) (.int .i64 (u)) (.int .i64 (v))
  have Y' := Y.far (show w4.heap.size ≠ w6.heap.size by omega) (.int .i64 (u)) (.int .i64 (v))
  have Z' := Z.far (show w5.heap.size ≠ w6.heap.size by omega) (.int .i64 (u)) (.int .i64 (v))
  have Y2' := Y2.far (show w7.heap.size ≠ w6.heap.size by omega) (.int .i64 (u)) (.int .i64 (v))
  have Z2' := Z2.far (show w8.heap.size ≠ w6.heap.size by omega) (.int .i64 (u)) (.int .i64 (v))
  obtain ⟨p0, p1, p2, p3, -⟩ := id X2
  obtain ⟨s0, s1⟩ := set2 p0 p1 (.int .i64 (u)) (.int .i64 (v))
  have X2' := X2.put (.int .i64 (u)) (.int .i64 (v))
  have HB' := Lib.hid (below_set2 HB.out (show w.heap.size ≤ w6.heap.size by omega) (.int .i64 (u)) (.int .i64 (v)))
  clear A
  have A := A'
  clear A'
  clear N
  have N := N'
  clear N'
  clear X
  have X := X'
  clear X'
  clear Y
  have Y := Y'
  clear Y'
  clear Z
  have Z := Z'
  clear Z'
  clear X2
  have X2 := X2'
  clear X2'
  clear Y2
  have Y2 := Y2'
  clear Y2'
  clear Z2
  have Z2 := Z2'
  clear Z2'
  clear HB
  have HB := HB'
  clear HB'
  obtain ⟨A0, A1, -, -, -⟩ := id A
  obtain ⟨N0, N1, -, -, -⟩ := id N
  obtain ⟨X0, X1, -, -, -⟩ := id X
  obtain ⟨Y0, Y1, -, -, -⟩ := id Y
  obtain ⟨Z0, Z1, -, -, -⟩ := id Z
  obtain ⟨X20, X21, -, -, -⟩ := id X2
  obtain ⟨Y20, Y21, -, -, -⟩ := id Y2
  obtain ⟨Z20, Z21, -, -, -⟩ := id Z2
  go_wp2_with fail
  refine (CH.out _ A).mono ?_
  rintro e w11 ⟨rfl, hb⟩
  have A := A.keep hb
  have N := N.keep hb
  have X := X.keep hb
  have Y := Y.keep hb
  have Z := Z.keep hb
  have X2 := X2.keep hb
  have Y2 := Y2.keep hb
  have Z2 := Z2.keep hb
  have HB := Lib.hid (bstep HB.out hb)
  clear hb A0 A1 N0 N1 X0 X1 Y0 Y1 Z0 Z1 X20 X21 Y20 Y21 Z20 Z21 p0 p1 p2 p3 s0 s1
  obtain ⟨A0, A1, -, -, -⟩ := id A
  obtain ⟨N0, N1, -, -, -⟩ := id N
  obtain ⟨X0, X1, -, -, -⟩ := id X
  obtain ⟨Y0, Y1, -, -, -⟩ := id Y
  obtain ⟨Z0, Z1, -, -, -⟩ := id Z
  obtain ⟨X20, X21, -, -, -⟩ := id X2
  obtain ⟨Y20, Y21, -, -, -⟩ := id Y2
  obtain ⟨Z20, Z21, -, -, -⟩ := id Z2
  go_wp2_with fail
  refine (S8.out _ HB.out).mono ?_
  rintro e w12 ⟨rfl, hb⟩
  have A := A.keep hb
  have N := N.keep hb
  have X := X.keep hb
  have Y := Y.keep hb
  have Z := Z.keep hb
  have X2 := X2.keep hb
  have Y2 := Y2.keep hb
  have Z2 := Z2.keep hb
  have HB := Lib.hid (bstep HB.out hb)
  clear hb A0 A1 N0 N1 X0 X1 Y0 Y1 Z0 Z1 X20 X21 Y20 Y21 Z20 Z21
  have A' := A.far (show w.heap.size ≠ w7.heap.size by omega) (.int .i64 (ny)) (.int .i64 (nx))
  have N' := N.far (show w2.heap.size ≠ w7.heap.size by omega) (.int .i64 (ny)) (.int .i64 (nx))
  have X' := X.far (show w3.heap.size ≠ w7.heap.size by omega) (.int .i64 (ny)) (.int .i64 (nx))
  have Y' := Y.far (show w4.heap.size ≠ w7.heap.size by omega) (.int .i64 (ny)) (.int .i64 (nx))
  have Z' := Z.far (show w5.heap.size ≠ w7.heap.size by omega) (.int .i64 (ny)) (.int .i64 (nx))
  have X2' := X2.far (show w6.heap.size ≠ w7.heap.size by omega) (.int .i64 (ny)) (.int .i64 (nx))
  have Z2' := Z2.far (show w8.heap.size ≠ w7.heap.size by omega) (.int .i64 (ny)) (.int .i64 (nx))
  obtain ⟨p0, p1, p2, p3, -⟩ := id Y2
  obtain ⟨s0, s1⟩ := set2 p0 p1 (.int .i64 (ny)) (.int .i64 (nx))
  have Y2' := Y2.put (.int .i64 (ny)) (.int .i64 (nx))
  have HB' := Lib.hid (below_set2 HB.out (show w.heap.size ≤ w7.heap.size by omega) (.int .i64 (ny)) (.int .i64 (nx)))
  clear A
  have A := A'
  clear A'
  clear N
  have N := N'
  clear N'
  clear X
  have X := X'
  clear X'
  clear Y
  have Y := Y'
  clear Y'
  clear Z
  have Z := Z'
  clear Z'
  clear X2
  have X2 := X2'
  clear X2'
  clear Y2
  have Y2 := Y2'
  clear Y2'
  clear Z2
  have Z2 := Z2'
  clear Z2'
  clear HB
  have HB := HB'
  clear HB'
  obtain ⟨A0, A1, -, -, -⟩ := id A
  obtain ⟨N0, N1, -, -, -⟩ := id N
  obtain ⟨X0, X1, -, -, -⟩ := id X
  obtain ⟨Y0, Y1, -, -, -⟩ := id Y
  obtain ⟨Z0, Z1, -, -, -⟩ := id Z
  obtain ⟨X20, X21, -, -, -⟩ := id X2
  obtain ⟨Y20, Y21, -, -, -⟩ := id Y2
  obtain ⟨Z20, Z21, -, -, -⟩ := id Z2
  go_wp2_with fail
  clear A0 A1 N0 N1 X0 X1 Y0 Y1 Z0 Z1 X20 X21 Y20 Y21 Z20 Z21 p0 p1 p2 p3 s0 s1
  obtain ⟨A0, A1⟩ := A.bel
  obtain ⟨N0, N1⟩ := N.bel
  obtain ⟨X0, X1⟩ := X.bel
  obtain ⟨Y0, Y1⟩ := Y.bel
  obtain ⟨Z0, Z1⟩ := Z.bel
  obtain ⟨X20, X21⟩ := X2.bel
  obtain ⟨Y20, Y21⟩ := Y2.bel
  obtain ⟨Z20, Z21⟩ := Z2.bel
  refine wp_region_bel (by kernel_rfl) (by kernel_rfl) ?_
  repeat (go_big_quiet_step (first | (go_at_call 24; first | (with_reducible refine bel_of (CN.out _)))))
  refine wpQuiet_nil ?_
  intro _ hw'
  obtain ⟨pq, hw''⟩ := hw'
  subst hw''
  have A := A.keep pq.h
  have N := N.keep pq.h
  have X := X.keep pq.h
  have Y := Y.keep pq.h
  have Z := Z.keep pq.h
  have X2 := X2.keep pq.h
  have Y2 := Y2.keep pq.h
  have Z2 := Z2.keep pq.h
  have HB := Lib.hid (bstep HB.out pq.h)
  clear A0 A1 N0 N1 X0 X1 Y0 Y1 Z0 Z1 X20 X21 Y20 Y21 Z20 Z21
  obtain ⟨A0, A1, -, -, -⟩ := id A
  obtain ⟨N0, N1, -, -, -⟩ := id N
  obtain ⟨X0, X1, -, -, -⟩ := id X
  obtain ⟨Y0, Y1, -, -, -⟩ := id Y
  obtain ⟨Z0, Z1, -, -, -⟩ := id Z
  obtain ⟨X20, X21, -, -, -⟩ := id X2
  obtain ⟨Y20, Y21, -, -, -⟩ := id Y2
  obtain ⟨Z20, Z21, -, -, -⟩ := id Z2
  go_wp2_with fail
  refine (CT.out _ A).mono ?_
  rintro e w13 ⟨rfl, hb⟩
  have A := A.keep hb
  have N := N.keep hb
  have X := X.keep hb
  have Y := Y.keep hb
  have Z := Z.keep hb
  have X2 := X2.keep hb
  have Y2 := Y2.keep hb
  have Z2 := Z2.keep hb
  have HB := Lib.hid (bstep HB.out hb)
  clear hb A0 A1 N0 N1 X0 X1 Y0 Y1 Z0 Z1 X20 X21 Y20 Y21 Z20 Z21
  have ltAV := A.lt
  have A := A.alloc (.cells #[.int .i64 (ta), .int .i64 (tb)] 23)
  have ltNV := N.lt
  have N := N.alloc (.cells #[.int .i64 (ta), .int .i64 (tb)] 23)
  have ltXV := X.lt
  have X := X.alloc (.cells #[.int .i64 (ta), .int .i64 (tb)] 23)
  have ltYV := Y.lt
  have Y := Y.alloc (.cells #[.int .i64 (ta), .int .i64 (tb)] 23)
  have ltZV := Z.lt
  have Z := Z.alloc (.cells #[.int .i64 (ta), .int .i64 (tb)] 23)
  have ltX2V := X2.lt
  have X2 := X2.alloc (.cells #[.int .i64 (ta), .int .i64 (tb)] 23)
  have ltY2V := Y2.lt
  have Y2 := Y2.alloc (.cells #[.int .i64 (ta), .int .i64 (tb)] 23)
  have ltZ2V := Z2.lt
  have Z2 := Z2.alloc (.cells #[.int .i64 (ta), .int .i64 (tb)] 23)
  have szV := HB.out.size
  have V := At2.new w13 (.int .i64 (ta)) (.int .i64 (tb)) 23
  have HB := Lib.hid (bstep HB.out (below1 w13 (.cells #[.int .i64 (ta), .int .i64 (tb)] 23)))
  obtain ⟨A0, A1, -, -, -⟩ := id A
  obtain ⟨N0, N1, -, -, -⟩ := id N
  obtain ⟨X0, X1, -, -, -⟩ := id X
  obtain ⟨Y0, Y1, -, -, -⟩ := id Y
  obtain ⟨Z0, Z1, -, -, -⟩ := id Z
  obtain ⟨X20, X21, -, -, -⟩ := id X2
  obtain ⟨Y20, Y21, -, -, -⟩ := id Y2
  obtain ⟨Z20, Z21, -, -, -⟩ := id Z2
  obtain ⟨V0, V1, -, -, -⟩ := id V
  go_wp2_with fail
  refine (S9.out _ HB.out).mono ?_
  rintro e w14 ⟨rfl, hb⟩
  have A := A.keep hb
  have N := N.keep hb
  have X := X.keep hb
  have Y := Y.keep hb
  have Z := Z.keep hb
  have X2 := X2.keep hb
  have Y2 := Y2.keep hb
  have Z2 := Z2.keep hb
  have V := V.keep hb
  have HB := Lib.hid (bstep HB.out hb)
  clear hb A0 A1 N0 N1 X0 X1 Y0 Y1 Z0 Z1 X20 X21 Y20 Y21 Z20 Z21 V0 V1
  have A' := A.far (show w.heap.size ≠ w6.heap.size by omega) (.int .i64 (x)) (.int .i64 (y))
  have N' := N.far (show w2.heap.size ≠ w6.heap.size by omega) (.int .i64 (x)) (.int .i64 (y))
  have X' := X.far (show w3.heap.size ≠ w6.heap.size by omega) (.int .i64 (x)) (.int .i64 (y))
  have Y' := Y.far (show w4.heap.size ≠ w6.heap.size by omega) (.int .i64 (x)) (.int .i64 (y))
  have Z' := Z.far (show w5.heap.size ≠ w6.heap.size by omega) (.int .i64 (x)) (.int .i64 (y))
  have Y2' := Y2.far (show w7.heap.size ≠ w6.heap.size by omega) (.int .i64 (x)) (.int .i64 (y))
  have Z2' := Z2.far (show w8.heap.size ≠ w6.heap.size by omega) (.int .i64 (x)) (.int .i64 (y))
  have V' := V.far (show w13.heap.size ≠ w6.heap.size by omega) (.int .i64 (x)) (.int .i64 (y))
  obtain ⟨p0, p1, p2, p3, -⟩ := id X2
  obtain ⟨s0, s1⟩ := set2 p0 p1 (.int .i64 (x)) (.int .i64 (y))
  have X2' := X2.put (.int .i64 (x)) (.int .i64 (y))
  have HB' := Lib.hid (below_set2 HB.out (show w.heap.size ≤ w6.heap.size by omega) (.int .i64 (x)) (.int .i64 (y)))
  clear A
  have A := A'
  clear A'
  clear N
  have N := N'
  clear N'
  clear X
  have X := X'
  clear X'
  clear Y
  have Y := Y'
  clear Y'
  clear Z
  have Z := Z'
  clear Z'
  clear X2
  have X2 := X2'
  clear X2'
  clear Y2
  have Y2 := Y2'
  clear Y2'
  clear Z2
  have Z2 := Z2'
  clear Z2'
  clear V
  have V := V'
  clear V'
  clear HB
  have HB := HB'
  clear HB'
  obtain ⟨A0, A1, -, -, -⟩ := id A
  obtain ⟨N0, N1, -, -, -⟩ := id N
  obtain ⟨X0, X1, -, -, -⟩ := id X
  obtain ⟨Y0, Y1, -, -, -⟩ := id Y
  obtain ⟨Z0, Z1, -, -, -⟩ := id Z
  obtain ⟨X20, X21, -, -, -⟩ := id X2
  obtain ⟨Y20, Y21, -, -, -⟩ := id Y2
  obtain ⟨Z20, Z21, -, -, -⟩ := id Z2
  obtain ⟨V0, V1, -, -, -⟩ := id V
  go_wp2_with fail
  refine (SA.out _ HB.out).mono ?_
  rintro e w15 ⟨rfl, hb⟩
  have A := A.keep hb
  have N := N.keep hb
  have X := X.keep hb
  have Y := Y.keep hb
  have Z := Z.keep hb
  have X2 := X2.keep hb
  have Y2 := Y2.keep hb
  have Z2 := Z2.keep hb
  have V := V.keep hb
  have HB := Lib.hid (bstep HB.out hb)
  clear hb A0 A1 N0 N1 X0 X1 Y0 Y1 Z0 Z1 X20 X21 Y20 Y21 Z20 Z21 V0 V1 p0 p1 p2 p3 s0 s1
  have A' := A.far (show w.heap.size ≠ w7.heap.size by omega) (.int .i64 (u)) (.int .i64 (v))
  have N' := N.far (show w2.heap.size ≠ w7.heap.size by omega) (.int .i64 (u)) (.int .i64 (v))
  have X' := X.far (show w3.heap.size ≠ w7.heap.size by omega) (.int .i64 (u)) (.int .i64 (v))
  have Y' := Y.far (show w4.heap.size ≠ w7.heap.size by omega) (.int .i64 (u)) (.int .i64 (v))
  have Z' := Z.far (show w5.heap.size ≠ w7.heap.size by omega) (.int .i64 (u)) (.int .i64 (v))
  have X2' := X2.far (show w6.heap.size ≠ w7.heap.size by omega) (.int .i64 (u)) (.int .i64 (v))
  have Z2' := Z2.far (show w8.heap.size ≠ w7.heap.size by omega) (.int .i64 (u)) (.int .i64 (v))
  have V' := V.far (show w13.heap.size ≠ w7.heap.size by omega) (.int .i64 (u)) (.int .i64 (v))
  obtain ⟨p0, p1, p2, p3, -⟩ := id Y2
  obtain ⟨s0, s1⟩ := set2 p0 p1 (.int .i64 (u)) (.int .i64 (v))
  have Y2' := Y2.put (.int .i64 (u)) (.int .i64 (v))
  have HB' := Lib.hid (below_set2 HB.out (show w.heap.size ≤ w7.heap.size by omega) (.int .i64 (u)) (.int .i64 (v)))
  clear A
  have A := A'
  clear A'
  clear N
  have N := N'
  clear N'
  clear X
  have X := X'
  clear X'
  clear Y
  have Y := Y'
  clear Y'
  clear Z
  have Z := Z'
  clear Z'
  clear X2
  have X2 := X2'
  clear X2'
  clear Y2
  have Y2 := Y2'
  clear Y2'
  clear Z2
  have Z2 := Z2'
  clear Z2'
  clear V
  have V := V'
  clear V'
  clear HB
  have HB := HB'
  clear HB'
  obtain ⟨A0, A1, -, -, -⟩ := id A
  obtain ⟨N0, N1, -, -, -⟩ := id N
  obtain ⟨X0, X1, -, -, -⟩ := id X
  obtain ⟨Y0, Y1, -, -, -⟩ := id Y
  obtain ⟨Z0, Z1, -, -, -⟩ := id Z
  obtain ⟨X20, X21, -, -, -⟩ := id X2
  obtain ⟨Y20, Y21, -, -, -⟩ := id Y2
  obtain ⟨Z20, Z21, -, -, -⟩ := id Z2
  obtain ⟨V0, V1, -, -, -⟩ := id V
  go_wp2_with fail
  refine (SB.out _ HB.out).mono ?_
  rintro e w16 ⟨rfl, hb⟩
  have A := A.keep hb
  have N := N.keep hb
  have X := X.keep hb
  have Y := Y.keep hb
  have Z := Z.keep hb
  have X2 := X2.keep hb
  have Y2 := Y2.keep hb
  have Z2 := Z2.keep hb
  have V := V.keep hb
  have HB := Lib.hid (bstep HB.out hb)
  clear hb A0 A1 N0 N1 X0 X1 Y0 Y1 Z0 Z1 X20 X21 Y20 Y21 Z20 Z21 V0 V1 p0 p1 p2 p3 s0 s1
  have A' := A.far (show w.heap.size ≠ w8.heap.size by omega) (.int .i64 (m)) (.int .i64 (h))
  have N' := N.far (show w2.heap.size ≠ w8.heap.size by omega) (.int .i64 (m)) (.int .i64 (h))
  have X' := X.far (show w3.heap.size ≠ w8.heap.size by omega) (.int .i64 (m)) (.int .i64 (h))
  have Y' := Y.far (show w4.heap.size ≠ w8.heap.size by omega) (.int .i64 (m)) (.int .i64 (h))
  have Z' := Z.far (show w5.heap.size ≠ w8.heap.size by omega) (.int .i64 (m)) (.int .i64 (h))
  have X2' := X2.far (show w6.heap.size ≠ w8.heap.size by omega) (.int .i64 (m)) (.int .i64 (h))
  have Y2' := Y2.far (show w7.heap.size ≠ w8.heap.size by omega) (.int .i64 (m)) (.int .i64 (h))
  have V' := V.far (show w13.heap.size ≠ w8.heap.size by omega) (.int .i64 (m)) (.int .i64 (h))
  obtain ⟨p0, p1, p2, p3, -⟩ := id Z2
  obtain ⟨s0, s1⟩ := set2 p0 p1 (.int .i64 (m)) (.int .i64 (h))
  have Z2' := Z2.put (.int .i64 (m)) (.int .i64 (h))
  have HB' := Lib.hid (below_set2 HB.out (show w.heap.size ≤ w8.heap.size by omega) (.int .i64 (m)) (.int .i64 (h)))
  clear A
  have A := A'
  clear A'
  clear N
  have N := N'
  clear N'
  clear X
  have X := X'
  clear X'
  clear Y
  have Y := Y'
  clear Y'
  clear Z
  have Z := Z'
  clear Z'
  clear X2
  have X2 := X2'
  clear X2'
  clear Y2
  have Y2 := Y2'
  clear Y2'
  clear Z2
  have Z2 := Z2'
  clear Z2'
  clear V
  have V := V'
  clear V'
  clear HB
  have HB := HB'
  clear HB'
  obtain ⟨A0, A1, -, -, -⟩ := id A
  obtain ⟨N0, N1, -, -, -⟩ := id N
  obtain ⟨X0, X1, -, -, -⟩ := id X
  obtain ⟨Y0, Y1, -, -, -⟩ := id Y
  obtain ⟨Z0, Z1, -, -, -⟩ := id Z
  obtain ⟨X20, X21, -, -, -⟩ := id X2
  obtain ⟨Y20, Y21, -, -, -⟩ := id Y2
  obtain ⟨Z20, Z21, -, -, -⟩ := id Z2
  obtain ⟨V0, V1, -, -, -⟩ := id V
  go_wp2_with fail
  go_ret
  exact ⟨rfl, HB.out⟩
end Go.Proofs.YtglmkpnnbgkndaaDoor
