/- ArctrigSines: the walk of the law. -/
import Derived.Test.YtebhflmmdfbjkaaDoorAra
namespace Go.Proofs.YtebhflmmdfbjkaaDoor
open Go.RowKit
set_option linter.unusedVariables false
set_option maxRecDepth 100000

set_option maxHeartbeats 1000000 in
theorem sines7_w (a b l1 h1 e1 l2 h2 l3 h3 e3 : Int) (w : World)
    (C0 : Hid (∀ wx, Below w.heap.size w wx → Calls Tryd.prog 11 #[] wx fun e w' => e = .returned (.bool true) ∧ Below wx.heap.size wx w'))
    (KA1 : Hid (∀ wx, Below w.heap.size w wx → Calls Tryd.prog 12 #[.agg #[.int .i64 a, .int .i64 b]] wx fun e w' => e = .returned (.tuple #[.agg #[.int .i64 l1, .int .i64 h1], .int .i64 e1]) ∧ Below wx.heap.size wx w'))
    (KA2 : Hid (∀ wx, Below w.heap.size w wx → Calls Tryd.prog 13 #[.agg #[.int .i64 a, .int .i64 b]] wx fun e w' => e = .returned (.tuple #[.agg #[.int .i64 l2, .int .i64 h2], .int .i64 e1]) ∧ Below wx.heap.size wx w'))
    (KA3 : Hid (∀ wx, Below w.heap.size w wx → Calls Tryd.prog 14 #[.agg #[.int .i64 a, .int .i64 b]] wx fun e w' => e = .returned (.tuple #[.agg #[.int .i64 l3, .int .i64 h3], .int .i64 e3]) ∧ Below wx.heap.size wx w'))
    (KB1 : Hid (∀ wx, Calls Tryd.prog 15 #[.agg #[.int .i64 a, .int .i64 b]] wx fun e w' => e = .returned (.tuple #[.agg #[.int .i64 l1, .int .i64 h1], .int .i64 e1]) ∧ Below wx.heap.size wx w'))
    (KB2 : Hid (∀ wx, Calls Tryd.prog 16 #[.agg #[.int .i64 a, .int .i64 b]] wx fun e w' => e = .returned (.tuple #[.agg #[.int .i64 l2, .int .i64 h2], .int .i64 e1]) ∧ Below wx.heap.size wx w'))
    (KB3 : Hid (∀ wx, Calls Tryd.prog 17 #[.agg #[.int .i64 a, .int .i64 b]] wx fun e w' => e = .returned (.tuple #[.agg #[.int .i64 l3, .int .i64 h3], .int .i64 e3]) ∧ Below wx.heap.size wx w'))
    (k1 : -9223372036854775808 ≤ e1 ∧ e1 ≤ 9223372036854775807) (k3 : -9223372036854775808 ≤ e3 ∧ e3 ≤ 9223372036854775807) :
    Calls Tryd.prog 3 #[.agg #[.int .i64 a, .int .i64 b]] w fun e w' => e = .returned (.bool true) ∧ Below w.heap.size w w' := by
  obtain ⟨k11, k12⟩ := k1
  obtain ⟨k31, k32⟩ := k3
  have A := At2.new w (.int .i64 a) (.int .i64 b) 23
  have HB := Lib.hid (below1 w (.cells #[.int .i64 a, .int .i64 b] 23))
  obtain ⟨A0, A1, -, -, -⟩ := id A
  go_enter Tryd.func3, Tryd.ntmps3
  go_wp2_with fail
  refine (C0.out _ HB.out).mono ?_
  rintro e1 v1 ⟨rfl, hb⟩
  clear A0 A1
  have A := A.keep hb
  have HB := Lib.hid (bstep HB.out hb)
  clear hb
  obtain ⟨A0, A1, -, -, -⟩ := id A
  go_wp2_with fail
  refine (KA1.out _ HB.out).mono ?_
  rintro e2 v2 ⟨rfl, hb⟩
  clear A0 A1
  have A := A.keep hb
  have HB := Lib.hid (bstep HB.out hb)
  clear hb
  have A := A.alloc (.cells #[.int .i64 l1, .int .i64 h1] 25)
  have X := At2.new v2 (.int .i64 l1) (.int .i64 h1) 25
  have HB := Lib.hid (bstep HB.out (below1 v2 (.cells #[.int .i64 l1, .int .i64 h1] 25)))
  obtain ⟨A0, A1, -, -, -⟩ := id A
  obtain ⟨X0, X1, -, -, -⟩ := id X
  go_wp2_with fail
  refine (KA2.out _ HB.out).mono ?_
  rintro e3 v3 ⟨rfl, hb⟩
  clear A0 A1 X0 X1
  have A := A.keep hb
  have X := X.keep hb
  have HB := Lib.hid (bstep HB.out hb)
  clear hb
  have A := A.alloc (.cells #[.int .i64 l2, .int .i64 h2] 25)
  have X := X.alloc (.cells #[.int .i64 l2, .int .i64 h2] 25)
  have Y := At2.new v3 (.int .i64 l2) (.int .i64 h2) 25
  have HB := Lib.hid (bstep HB.out (below1 v3 (.cells #[.int .i64 l2, .int .i64 h2] 25)))
  obtain ⟨A0, A1, -, -, -⟩ := id A
  obtain ⟨X0, X1, -, -, -⟩ := id X
  obtain ⟨Y0, Y1, -, -, -⟩ := id Y
  go_wp2_with fail
  refine (KA3.out _ HB.out).mono ?_
  rintro e4 v4 ⟨rfl, hb⟩
  clear A0 A1 X0 X1 Y0 Y1
  have A := A.keep hb
  have X := X.keep hb
  have Y := Y.keep hb
  have HB := Lib.hid (bstep HB.out hb)
  clear hb
  have A := A.alloc (.cells #[.int .i64 l3, .int .i64 h3] 25)
  have X := X.alloc (.cells #[.int .i64 l3, .int .i64 h3] 25)
  have Y := Y.alloc (.cells #[.int .i64 l3, .int .i64 h3] 25)
  have Z := At2.new v4 (.int .i64 l3) (.int .i64 h3) 25
  have HB := Lib.hid (bstep HB.out (below1 v4 (.cells #[.int .i64 l3, .int .i64 h3] 25)))
  obtain ⟨A0, A1, -, -, -⟩ := id A
  obtain ⟨X0, X1, -, -, -⟩ := id X
  obtain ⟨Y0, Y1, -, -, -⟩ := id Y
  obtain ⟨Z0, Z1, -, -, -⟩ := id Z
  go_wp2_with fail
  refine (KB1.out _).mono ?_
  rintro e5 v5 ⟨rfl, hb⟩
  clear A0 A1 X0 X1 Y0 Y1 Z0 Z1
  have A := A.keep hb
  have X := X.keep hb
  have Y := Y.keep hb
  have Z := Z.keep hb
  have HB := Lib.hid (bstep HB.out hb)
  clear hb
  have A := A.alloc (.cells #[.int .i64 l1, .int .i64 h1] 25)
  have X := X.alloc (.cells #[.int .i64 l1, .int .i64 h1] 25)
  have Y := Y.alloc (.cells #[.int .i64 l1, .int .i64 h1] 25)
  have Z := Z.alloc (.cells #[.int .i64 l1, .int .i64 h1] 25)
  have P := At2.new v5 (.int .i64 l1) (.int .i64 h1) 25
  have HB := Lib.hid (bstep HB.out (below1 v5 (.cells #[.int .i64 l1, .int .i64 h1] 25)))
  obtain ⟨A0, A1, -, -, -⟩ := id A
  obtain ⟨X0, X1, -, -, -⟩ := id X
  obtain ⟨Y0, Y1, -, -, -⟩ := id Y
  obtain ⟨Z0, Z1, -, -, -⟩ := id Z
  obtain ⟨P0, P1, -, -, -⟩ := id P
  go_wp2_with fail
  refine (KB2.out _).mono ?_
  rintro e6 v6 ⟨rfl, hb⟩
  clear A0 A1 X0 X1 Y0 Y1 Z0 Z1 P0 P1
  have A := A.keep hb
  have X := X.keep hb
  have Y := Y.keep hb
  have Z := Z.keep hb
  have P := P.keep hb
  have HB := Lib.hid (bstep HB.out hb)
  clear hb
  have A := A.alloc (.cells #[.int .i64 l2, .int .i64 h2] 25)
  have X := X.alloc (.cells #[.int .i64 l2, .int .i64 h2] 25)
  have Y := Y.alloc (.cells #[.int .i64 l2, .int .i64 h2] 25)
  have Z := Z.alloc (.cells #[.int .i64 l2, .int .i64 h2] 25)
  have P := P.alloc (.cells #[.int .i64 l2, .int .i64 h2] 25)
  have Q := At2.new v6 (.int .i64 l2) (.int .i64 h2) 25
  have HB := Lib.hid (bstep HB.out (below1 v6 (.cells #[.int .i64 l2, .int .i64 h2] 25)))
  obtain ⟨A0, A1, -, -, -⟩ := id A
  obtain ⟨X0, X1, -, -, -⟩ := id X
  obtain ⟨Y0, Y1, -, -, -⟩ := id Y
  obtain ⟨Z0, Z1, -, -, -⟩ := id Z
  obtain ⟨P0, P1, -, -, -⟩ := id P
  obtain ⟨Q0, Q1, -, -, -⟩ := id Q
  go_wp2_with fail
  refine (KB3.out _).mono ?_
  rintro e7 v7 ⟨rfl, hb⟩
  clear A0 A1 X0 X1 Y0 Y1 Z0 Z1 P0 P1 Q0 Q1
  have A := A.keep hb
  have X := X.keep hb
  have Y := Y.keep hb
  have Z := Z.keep hb
  have P := P.keep hb
  have Q := Q.keep hb
  have HB := Lib.hid (bstep HB.out hb)
  clear hb
  have A := A.alloc (.cells #[.int .i64 l3, .int .i64 h3] 25)
  have X := X.alloc (.cells #[.int .i64 l3, .int .i64 h3] 25)
  have Y := Y.alloc (.cells #[.int .i64 l3, .int .i64 h3] 25)
  have Z := Z.alloc (.cells #[.int .i64 l3, .int .i64 h3] 25)
  have P := P.alloc (.cells #[.int .i64 l3, .int .i64 h3] 25)
  have Q := Q.alloc (.cells #[.int .i64 l3, .int .i64 h3] 25)
  have R := At2.new v7 (.int .i64 l3) (.int .i64 h3) 25
  have HB := Lib.hid (bstep HB.out (below1 v7 (.cells #[.int .i64 l3, .int .i64 h3] 25)))
  obtain ⟨A0, A1, -, -, -⟩ := id A
  obtain ⟨X0, X1, -, -, -⟩ := id X
  obtain ⟨Y0, Y1, -, -, -⟩ := id Y
  obtain ⟨Z0, Z1, -, -, -⟩ := id Z
  obtain ⟨P0, P1, -, -, -⟩ := id P
  obtain ⟨Q0, Q1, -, -, -⟩ := id Q
  obtain ⟨R0, R1, -, -, -⟩ := id R
  go_wp2_with fail
  go_ret
  exact ⟨rfl, HB.out⟩
theorem aE_k (a b : Int) : -9223372036854775808 ≤ aE a b ∧ aE a b ≤ 9223372036854775807 := by unfold aE; split <;> (try split) <;> omega
theorem hE_k (a b : Int) : -9223372036854775808 ≤ hE a b ∧ hE a b ≤ 9223372036854775807 := by unfold hE; split <;> (try split) <;> omega
theorem sines7_walk (w : World) (P : ArProg w) (a b : Int) (ha : I64 a) (hb : I64 b) : Calls Tryd.prog 3 #[.agg #[.int .i64 a, .int .i64 b]] w fun e w' => e = .returned (.bool true) ∧ Below w.heap.size w w' :=
  sines7_w a b _ _ _ _ _ _ _ _ w (Lib.hid fun wx h => awake7 w P wx h) (Lib.hid fun wx h => P.asin a b wx h ha hb) (Lib.hid fun wx h => P.acos a b wx h ha hb) (Lib.hid fun wx h => P.ahav a b wx h ha hb)
    (Lib.hid fun wx => rAsin7 a b wx) (Lib.hid fun wx => rAcos7 a b wx) (Lib.hid fun wx => rAhav7 a b wx) (aE_k a b) (hE_k a b)
end Go.Proofs.YtebhflmmdfbjkaaDoor
