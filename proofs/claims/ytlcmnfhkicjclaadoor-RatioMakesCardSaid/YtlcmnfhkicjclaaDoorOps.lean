/- The four operations of both programs agree; RatioOps: the walk of the law. -/
import Derived.Test.YtlcmnfhkicjclaaDoorRtW
import Derived.Test.YtlcmnfhkicjclaaDoorRtK
namespace Go.Proofs.YtlcmnfhkicjclaaDoor
open Go.RowKit
set_option linter.unusedVariables false

/-- a call at two fractions answers so, in whatever world -/
def Ans (f : Nat) (n d n2 d2 x y z : Int) : Prop := ∀ wx, Calls Tryd.prog f #[.agg #[.int .i64 n, .int .i64 d], .agg #[.int .i64 n2, .int .i64 d2]] wx fun e w' => e = .returned (.tuple #[.agg #[.int .i64 x, .int .i64 y], .int .i64 z]) ∧ Below wx.heap.size wx w'
theorem bothAdd (n d n2 d2 : Int) : ∃ x y z, Ans 17 n d n2 d2 x y z ∧ Ans 21 n d n2 d2 x y z := by
  cases hk : rok n d
  · exact ⟨0, 0, 1, fun wx => pAdd_b1 n d n2 d2 wx hk, fun wx => rAdd_b1 n d n2 d2 wx hk⟩
  · cases hk2 : rok n2 d2
    · exact ⟨0, 0, 1, fun wx => pAdd_b2 n d n2 d2 wx hk hk2, fun wx => rAdd_b2 n d n2 d2 wx hk hk2⟩
    · obtain ⟨a, ha, rfl, rfl⟩ := rok_rat hk
      obtain ⟨b, hb, rfl, rfl⟩ := rok_rat hk2
      exact ⟨rN (a + b), rD (a + b), rE (a + b), fun wx => pAdd a b wx ha hb, fun wx => rAdd a b wx ha hb⟩
theorem bothSub (n d n2 d2 : Int) : ∃ x y z, Ans 18 n d n2 d2 x y z ∧ Ans 22 n d n2 d2 x y z := by
  cases hk : rok n d
  · exact ⟨0, 0, 1, fun wx => pSub_b1 n d n2 d2 wx hk, fun wx => rSub_b1 n d n2 d2 wx hk⟩
  · cases hk2 : rok n2 d2
    · exact ⟨0, 0, 1, fun wx => pSub_b2 n d n2 d2 wx hk hk2, fun wx => rSub_b2 n d n2 d2 wx hk hk2⟩
    · obtain ⟨a, ha, rfl, rfl⟩ := rok_rat hk
      obtain ⟨b, hb, rfl, rfl⟩ := rok_rat hk2
      exact ⟨rN (a - b), rD (a - b), rE (a - b), fun wx => pSub a b wx ha hb, fun wx => rSub a b wx ha hb⟩
theorem bothMul (n d n2 d2 : Int) : ∃ x y z, Ans 19 n d n2 d2 x y z ∧ Ans 23 n d n2 d2 x y z := by
  cases hk : rok n d
  · exact ⟨0, 0, 1, fun wx => pMul_b1 n d n2 d2 wx hk, fun wx => rMul_b1 n d n2 d2 wx hk⟩
  · cases hk2 : rok n2 d2
    · exact ⟨0, 0, 1, fun wx => pMul_b2 n d n2 d2 wx hk hk2, fun wx => rMul_b2 n d n2 d2 wx hk hk2⟩
    · obtain ⟨a, ha, rfl, rfl⟩ := rok_rat hk
      obtain ⟨b, hb, rfl, rfl⟩ := rok_rat hk2
      exact ⟨rN (a * b), rD (a * b), rE (a * b), fun wx => pMul a b wx ha hb, fun wx => rMul a b wx ha hb⟩
theorem bothDiv (n d n2 d2 : Int) : ∃ x y z, Ans 20 n d n2 d2 x y z ∧ Ans 24 n d n2 d2 x y z := by
  cases hk : rok n d
  · exact ⟨0, 0, 1, fun wx => pDiv_b1 n d n2 d2 wx hk, fun wx => rDiv_b1 n d n2 d2 wx hk⟩
  · cases hk2 : rok n2 d2
    · exact ⟨0, 0, 1, fun wx => pDiv_b2 n d n2 d2 wx hk hk2, fun wx => rDiv_b2 n d n2 d2 wx hk hk2⟩
    · by_cases hz : n2 = 0
      · subst hz
        exact ⟨0, 0, 16, fun wx => pDiv_zero n d d2 wx hk hk2, fun wx => rDiv_zero n d d2 wx hk hk2⟩
      · obtain ⟨a, ha, rfl, rfl⟩ := rok_rat hk
        obtain ⟨b, hb, rfl, rfl⟩ := rok_rat hk2
        exact ⟨rN (a / b), rD (a / b), rE (a / b), fun wx => pDiv a b wx ha hb hz, fun wx => rDiv a b wx ha hb hz⟩

set_option maxRecDepth 100000 in
set_option maxHeartbeats 4000000 in
theorem ops_any (n d n2 d2 : Int) (w : World) (htab : Lib.TabIs Tryd.prog w "internal/strconv.uint64pow10" .u64 Lib.pow10Tab) :
    Calls Tryd.prog 4 #[.agg #[.int .i64 n, .int .i64 d], .agg #[.int .i64 n2, .int .i64 d2]] w fun e w' => e = .returned (.bool true) ∧ Below w.heap.size w w' := by
  have CA := Lib.hid (fun wx (hb : Below w.heap.size w wx) => awake_any wx (Lib.tabBelow_of_tabIs htab wx hb))
  obtain ⟨x1, y1, z1, p1, r1⟩ := bothAdd n d n2 d2
  obtain ⟨x2, y2, z2, p2, r2⟩ := bothSub n d n2 d2
  obtain ⟨x3, y3, z3, p3, r3⟩ := bothMul n d n2 d2
  obtain ⟨x4, y4, z4, p4, r4⟩ := bothDiv n d n2 d2
  have P1 := Lib.hid p1
  have R1 := Lib.hid r1
  have P2 := Lib.hid p2
  have R2 := Lib.hid r2
  have P3 := Lib.hid p3
  have R3 := Lib.hid r3
  have P4 := Lib.hid p4
  have R4 := Lib.hid r4
  clear htab p1 r1 p2 r2 p3 r3 p4 r4
  go_enter Tryd.func4, Tryd.ntmps4
  have A := At2.new w (.int .i64 n) (.int .i64 d) 24
  have A := A.alloc (.cells #[.int .i64 n2, .int .i64 d2] 24)
  have B := At2.new (w.alloc (.cells #[.int .i64 n, .int .i64 d] 24)) (.int .i64 n2) (.int .i64 d2) 24
  simp at B
  have HB := Lib.hid (bstep (bstep (Below.refl _ w) (below1 w (.cells #[.int .i64 n, .int .i64 d] 24))) (below1 (w.alloc (.cells #[.int .i64 n, .int .i64 d] 24)) (.cells #[.int .i64 n2, .int .i64 d2] 24)))
  obtain ⟨f00, f01, _, _, _⟩ := id A
  obtain ⟨f10, f11, _, _, _⟩ := id B
  go_wp2_with fail
  refine (CA.out _ HB.out).mono ?_
  rintro e w1 ⟨rfl, hb⟩
  have A := A.keep hb
  have B := B.keep hb
  have HB := Lib.hid (bstep HB.out hb)
  clear hb f00 f01 f10 f11
  obtain ⟨f00, f01, _, _, _⟩ := id A
  obtain ⟨f10, f11, _, _, _⟩ := id B
  go_wp2_with fail
  refine (P1.out _).mono ?_
  rintro e w2 ⟨rfl, hb⟩
  have A := A.keep hb
  have B := B.keep hb
  have HB := Lib.hid (bstep HB.out hb)
  clear hb f00 f01 f10 f11
  have A := A.alloc (.cells #[.int .i64 x1, .int .i64 y1] 24)
  have B := B.alloc (.cells #[.int .i64 x1, .int .i64 y1] 24)
  have X1 := At2.new w2 (.int .i64 x1) (.int .i64 y1) 24
  have HB := Lib.hid (bstep (HB.out) (below1 w2 (.cells #[.int .i64 x1, .int .i64 y1] 24)))
  obtain ⟨f00, f01, _, _, _⟩ := id A
  obtain ⟨f10, f11, _, _, _⟩ := id B
  obtain ⟨f20, f21, _, _, _⟩ := id X1
  go_wp2_with fail
  refine (P2.out _).mono ?_
  rintro e w3 ⟨rfl, hb⟩
  have A := A.keep hb
  have B := B.keep hb
  have X1 := X1.keep hb
  have HB := Lib.hid (bstep HB.out hb)
  clear hb f00 f01 f10 f11 f20 f21
  have A := A.alloc (.cells #[.int .i64 x2, .int .i64 y2] 24)
  have B := B.alloc (.cells #[.int .i64 x2, .int .i64 y2] 24)
  have X1 := X1.alloc (.cells #[.int .i64 x2, .int .i64 y2] 24)
  have X2 := At2.new w3 (.int .i64 x2) (.int .i64 y2) 24
  have HB := Lib.hid (bstep (HB.out) (below1 w3 (.cells #[.int .i64 x2, .int .i64 y2] 24)))
  obtain ⟨f00, f01, _, _, _⟩ := id A
  obtain ⟨f10, f11, _, _, _⟩ := id B
  obtain ⟨f20, f21, _, _, _⟩ := id X1
  obtain ⟨f30, f31, _, _, _⟩ := id X2
  go_wp2_with fail
  refine (P3.out _).mono ?_
  rintro e w4 ⟨rfl, hb⟩
  have A := A.keep hb
  have B := B.keep hb
  have X1 := X1.keep hb
  have X2 := X2.keep hb
  have HB := Lib.hid (bstep HB.out hb)
  clear hb f00 f01 f10 f11 f20 f21 f30 f31
  have A := A.alloc (.cells #[.int .i64 x3, .int .i64 y3] 24)
  have B := B.alloc (.cells #[.int .i64 x3, .int .i64 y3] 24)
  have X1 := X1.alloc (.cells #[.int .i64 x3, .int .i64 y3] 24)
  have X2 := X2.alloc (.cells #[.int .i64 x3, .int .i64 y3] 24)
  have X3 := At2.new w4 (.int .i64 x3) (.int .i64 y3) 24
  have HB := Lib.hid (bstep (HB.out) (below1 w4 (.cells #[.int .i64 x3, .int .i64 y3] 24)))
  obtain ⟨f00, f01, _, _, _⟩ := id A
  obtain ⟨f10, f11, _, _, _⟩ := id B
  obtain ⟨f20, f21, _, _, _⟩ := id X1
  obtain ⟨f30, f31, _, _, _⟩ := id X2
  obtain ⟨f40, f41, _, _, _⟩ := id X3
  go_wp2_with fail
  refine (P4.out _).mono ?_
  rintro e w5 ⟨rfl, hb⟩
  have A := A.keep hb
  have B := B.keep hb
  have X1 := X1.keep hb
  have X2 := X2.keep hb
  have X3 := X3.keep hb
  have HB := Lib.hid (bstep HB.out hb)
  clear hb f00 f01 f10 f11 f20 f21 f30 f31 f40 f41
  have A := A.alloc (.cells #[.int .i64 x4, .int .i64 y4] 24)
  have B := B.alloc (.cells #[.int .i64 x4, .int .i64 y4] 24)
  have X1 := X1.alloc (.cells #[.int .i64 x4, .int .i64 y4] 24)
  have X2 := X2.alloc (.cells #[.int .i64 x4, .int .i64 y4] 24)
  have X3 := X3.alloc (.cells #[.int .i64 x4, .int .i64 y4] 24)
  have X4 := At2.new w5 (.int .i64 x4) (.int .i64 y4) 24
  have HB := Lib.hid (bstep (HB.out) (below1 w5 (.cells #[.int .i64 x4, .int .i64 y4] 24)))
  obtain ⟨f00, f01, _, _, _⟩ := id A
  obtain ⟨f10, f11, _, _, _⟩ := id B
  obtain ⟨f20, f21, _, _, _⟩ := id X1
  obtain ⟨f30, f31, _, _, _⟩ := id X2
  obtain ⟨f40, f41, _, _, _⟩ := id X3
  obtain ⟨f50, f51, _, _, _⟩ := id X4
  go_wp2_with fail
  refine (R1.out _).mono ?_
  rintro e w6 ⟨rfl, hb⟩
  have A := A.keep hb
  have B := B.keep hb
  have X1 := X1.keep hb
  have X2 := X2.keep hb
  have X3 := X3.keep hb
  have X4 := X4.keep hb
  have HB := Lib.hid (bstep HB.out hb)
  clear hb f00 f01 f10 f11 f20 f21 f30 f31 f40 f41 f50 f51
  have A := A.alloc (.cells #[.int .i64 x1, .int .i64 y1] 24)
  have B := B.alloc (.cells #[.int .i64 x1, .int .i64 y1] 24)
  have X1 := X1.alloc (.cells #[.int .i64 x1, .int .i64 y1] 24)
  have X2 := X2.alloc (.cells #[.int .i64 x1, .int .i64 y1] 24)
  have X3 := X3.alloc (.cells #[.int .i64 x1, .int .i64 y1] 24)
  have X4 := X4.alloc (.cells #[.int .i64 x1, .int .i64 y1] 24)
  have Y1 := At2.new w6 (.int .i64 x1) (.int .i64 y1) 24
  have HB := Lib.hid (bstep (HB.out) (below1 w6 (.cells #[.int .i64 x1, .int .i64 y1] 24)))
  obtain ⟨f00, f01, _, _, _⟩ := id A
  obtain ⟨f10, f11, _, _, _⟩ := id B
  obtain ⟨f20, f21, _, _, _⟩ := id X1
  obtain ⟨f30, f31, _, _, _⟩ := id X2
  obtain ⟨f40, f41, _, _, _⟩ := id X3
  obtain ⟨f50, f51, _, _, _⟩ := id X4
  obtain ⟨f60, f61, _, _, _⟩ := id Y1
  go_wp2_with fail
  refine (R2.out _).mono ?_
  rintro e w7 ⟨rfl, hb⟩
  have A := A.keep hb
  have B := B.keep hb
  have X1 := X1.keep hb
  have X2 := X2.keep hb
  have X3 := X3.keep hb
  have X4 := X4.keep hb
  have Y1 := Y1.keep hb
  have HB := Lib.hid (bstep HB.out hb)
  clear hb f00 f01 f10 f11 f20 f21 f30 f31 f40 f41 f50 f51 f60 f61
  have A := A.alloc (.cells #[.int .i64 x2, .int .i64 y2] 24)
  have B := B.alloc (.cells #[.int .i64 x2, .int .i64 y2] 24)
  have X1 := X1.alloc (.cells #[.int .i64 x2, .int .i64 y2] 24)
  have X2 := X2.alloc (.cells #[.int .i64 x2, .int .i64 y2] 24)
  have X3 := X3.alloc (.cells #[.int .i64 x2, .int .i64 y2] 24)
  have X4 := X4.alloc (.cells #[.int .i64 x2, .int .i64 y2] 24)
  have Y1 := Y1.alloc (.cells #[.int .i64 x2, .int .i64 y2] 24)
  have Y2 := At2.new w7 (.int .i64 x2) (.int .i64 y2) 24
  have HB := Lib.hid (bstep (HB.out) (below1 w7 (.cells #[.int .i64 x2, .int .i64 y2] 24)))
  obtain ⟨f00, f01, _, _, _⟩ := id A
  obtain ⟨f10, f11, _, _, _⟩ := id B
  obtain ⟨f20, f21, _, _, _⟩ := id X1
  obtain ⟨f30, f31, _, _, _⟩ := id X2
  obtain ⟨f40, f41, _, _, _⟩ := id X3
  obtain ⟨f50, f51, _, _, _⟩ := id X4
  obtain ⟨f60, f61, _, _, _⟩ := id Y1
  obtain ⟨f70, f71, _, _, _⟩ := id Y2
  go_wp2_with fail
  refine (R3.out _).mono ?_
  rintro e w8 ⟨rfl, hb⟩
  have A := A.keep hb
  have B := B.keep hb
  have X1 := X1.keep hb
  have X2 := X2.keep hb
  have X3 := X3.keep hb
  have X4 := X4.keep hb
  have Y1 := Y1.keep hb
  have Y2 := Y2.keep hb
  have HB := Lib.hid (bstep HB.out hb)
  clear hb f00 f01 f10 f11 f20 f21 f30 f31 f40 f41 f50 f51 f60 f61 f70 f71
  have A := A.alloc (.cells #[.int .i64 x3, .int .i64 y3] 24)
  have B := B.alloc (.cells #[.int .i64 x3, .int .i64 y3] 24)
  have X1 := X1.alloc (.cells #[.int .i64 x3, .int .i64 y3] 24)
  have X2 := X2.alloc (.cells #[.int .i64 x3, .int .i64 y3] 24)
  have X3 := X3.alloc (.cells #[.int .i64 x3, .int .i64 y3] 24)
  have X4 := X4.alloc (.cells #[.int .i64 x3, .int .i64 y3] 24)
  have Y1 := Y1.alloc (.cells #[.int .i64 x3, .int .i64 y3] 24)
  have Y2 := Y2.alloc (.cells #[.int .i64 x3, .int .i64 y3] 24)
  have Y3 := At2.new w8 (.int .i64 x3) (.int .i64 y3) 24
  have HB := Lib.hid (bstep (HB.out) (below1 w8 (.cells #[.int .i64 x3, .int .i64 y3] 24)))
  obtain ⟨f00, f01, _, _, _⟩ := id A
  obtain ⟨f10, f11, _, _, _⟩ := id B
  obtain ⟨f20, f21, _, _, _⟩ := id X1
  obtain ⟨f30, f31, _, _, _⟩ := id X2
  obtain ⟨f40, f41, _, _, _⟩ := id X3
  obtain ⟨f50, f51, _, _, _⟩ := id X4
  obtain ⟨f60, f61, _, _, _⟩ := id Y1
  obtain ⟨f70, f71, _, _, _⟩ := id Y2
  obtain ⟨f80, f81, _, _, _⟩ := id Y3
  go_wp2_with fail
  refine (R4.out _).mono ?_
  rintro e w9 ⟨rfl, hb⟩
  have A := A.keep hb
  have B := B.keep hb
  have X1 := X1.keep hb
  have X2 := X2.keep hb
  have X3 := X3.keep hb
  have X4 := X4.keep hb
  have Y1 := Y1.keep hb
  have Y2 := Y2.keep hb
  have Y3 := Y3.keep hb
  have HB := Lib.hid (bstep HB.out hb)
  clear hb f00 f01 f10 f11 f20 f21 f30 f31 f40 f41 f50 f51 f60 f61 f70 f71 f80 f81
  have A := A.alloc (.cells #[.int .i64 x4, .int .i64 y4] 24)
  have B := B.alloc (.cells #[.int .i64 x4, .int .i64 y4] 24)
  have X1 := X1.alloc (.cells #[.int .i64 x4, .int .i64 y4] 24)
  have X2 := X2.alloc (.cells #[.int .i64 x4, .int .i64 y4] 24)
  have X3 := X3.alloc (.cells #[.int .i64 x4, .int .i64 y4] 24)
  have X4 := X4.alloc (.cells #[.int .i64 x4, .int .i64 y4] 24)
  have Y1 := Y1.alloc (.cells #[.int .i64 x4, .int .i64 y4] 24)
  have Y2 := Y2.alloc (.cells #[.int .i64 x4, .int .i64 y4] 24)
  have Y3 := Y3.alloc (.cells #[.int .i64 x4, .int .i64 y4] 24)
  have Y4 := At2.new w9 (.int .i64 x4) (.int .i64 y4) 24
  have HB := Lib.hid (bstep (HB.out) (below1 w9 (.cells #[.int .i64 x4, .int .i64 y4] 24)))
  obtain ⟨f00, f01, _, _, _⟩ := id A
  obtain ⟨f10, f11, _, _, _⟩ := id B
  obtain ⟨f20, f21, _, _, _⟩ := id X1
  obtain ⟨f30, f31, _, _, _⟩ := id X2
  obtain ⟨f40, f41, _, _, _⟩ := id X3
  obtain ⟨f50, f51, _, _, _⟩ := id X4
  obtain ⟨f60, f61, _, _, _⟩ := id Y1
  obtain ⟨f70, f71, _, _, _⟩ := id Y2
  obtain ⟨f80, f81, _, _, _⟩ := id Y3
  obtain ⟨f90, f91, _, _, _⟩ := id Y4
  go_wp2_with fail
  go_ret
  exact ⟨rfl, HB.out⟩
end Go.Proofs.YtlcmnfhkicjclaaDoor
