/- Place: PlaceBack: the walk. -/
import Derived.Test.YtgcoddjjkcdfmaaDoorPcW
import Derived.Test.YtgcoddjjkcdfmaaDoorPcZ
namespace Go.Proofs.YtgcoddjjkcdfmaaDoor
open Go.RowKit
set_option linter.unusedVariables false
set_option maxRecDepth 100000

set_option maxHeartbeats 4000000 in
theorem back8 (x y u v : Int) (w : World) (H : Pc8 w) (hm : HasMax w) (he : HasErr w) :
    Calls Tryd.prog 5 #[.agg #[.int .i64 x, .int .i64 y], .agg #[.int .i64 u, .int .i64 v]] w fun r w' => r = .returned (.bool true) ∧ Below w.heap.size w w' := by
  have CW := Lib.hid (fun wx (Hx : Pc8 wx) => awake8 wx Hx)
  have T1 := Lib.hid (fun wx (Hx : Tab wx) => pPtText x y wx Hx)
  have T2 := Lib.hid (fun wx (Hx : Tab wx) => pPtText u v wx Hx)
  have V1 := Lib.hid (fun wx => pPtValid x y wx)
  have V2 := Lib.hid (fun wx => pPtValid u v wx)
  have A := (At2.new w (.int .i64 x) (.int .i64 y) 27).alloc (.cells #[.int .i64 u, .int .i64 v] 27)
  have B := At2.new (w.alloc (.cells #[.int .i64 x, .int .i64 y] 27)) (.int .i64 u) (.int .i64 v) 27
  have HB := Lib.hid (below2 w (.cells #[.int .i64 x, .int .i64 y] 27) (.cells #[.int .i64 u, .int .i64 v] 27))
  simp at B
  have G := H.below HB.out
  obtain ⟨A0, A1, -, -, -⟩ := id A
  obtain ⟨B0, B1, -, -, -⟩ := id B
  cases h1 : ptOk x y
  · cases h2 : ptOk u v
    · rw [show ptS x y = ⟨#[]⟩ from if_neg (by rw [h1]; simp), show ptE x y = 1 from if_neg (by rw [h1]; simp)] at T1
      rw [h1] at V1
      rw [show ptS u v = ⟨#[]⟩ from if_neg (by rw [h2]; simp), show ptE u v = 1 from if_neg (by rw [h2]; simp)] at T2
      rw [h2] at V2
      clear h1 h2
      go_enter Tryd.func5, Tryd.ntmps5
      go_wp2_with fail
      refine ((CW).out _ G).mono ?_
      rintro e w1 ⟨rfl, hb⟩
      clear A0 A1 B0 B1
      have A := A.keep hb
      have B := B.keep hb
      have G := G.below hb
      have HB := Lib.hid (bstep HB.out hb)
      clear hb
      obtain ⟨A0, A1, -, -, -⟩ := id A
      obtain ⟨B0, B1, -, -, -⟩ := id B
      go_wp2_with fail
      refine ((T1).out _ G.tab).mono ?_
      rintro e w2 ⟨rfl, hb⟩
      clear A0 A1 B0 B1
      have A := A.keep hb
      have B := B.keep hb
      have G := G.below hb
      have HB := Lib.hid (bstep HB.out hb)
      clear hb
      obtain ⟨A0, A1, -, -, -⟩ := id A
      obtain ⟨B0, B1, -, -, -⟩ := id B
      go_wp2_with fail
      refine ((T2).out _ G.tab).mono ?_
      rintro e w3 ⟨rfl, hb⟩
      clear A0 A1 B0 B1
      have A := A.keep hb
      have B := B.keep hb
      have G := G.below hb
      have HB := Lib.hid (bstep HB.out hb)
      clear hb
      obtain ⟨A0, A1, -, -, -⟩ := id A
      obtain ⟨B0, B1, -, -, -⟩ := id B
      go_wp2_with fail
      refine ((V1).out _).mono ?_
      rintro e w4 ⟨rfl, hb⟩
      clear A0 A1 B0 B1
      have A := A.keep hb
      have B := B.keep hb
      have G := G.below hb
      have HB := Lib.hid (bstep HB.out hb)
      clear hb
      obtain ⟨A0, A1, -, -, -⟩ := id A
      obtain ⟨B0, B1, -, -, -⟩ := id B
      go_wp2_with fail
      refine ((V2).out _).mono ?_
      rintro e w5 ⟨rfl, hb⟩
      clear A0 A1 B0 B1
      have A := A.keep hb
      have B := B.keep hb
      have G := G.below hb
      have HB := Lib.hid (bstep HB.out hb)
      clear hb
      obtain ⟨A0, A1, -, -, -⟩ := id A
      obtain ⟨B0, B1, -, -, -⟩ := id B
      go_wp2_with fail
      go_ret
      exact ⟨by first | rfl | exact ret_bool (by simp), HB.out⟩
    · rw [show ptS x y = ⟨#[]⟩ from if_neg (by rw [h1]; simp), show ptE x y = 1 from if_neg (by rw [h1]; simp)] at T1
      rw [h1] at V1
      rw [show ptE u v = 0 from if_pos h2] at T2
      rw [h2] at V2
      generalize ptS u v = T at *
      clear h1 h2
      go_enter Tryd.func5, Tryd.ntmps5
      go_wp2_with fail
      refine ((CW).out _ G).mono ?_
      rintro e w1 ⟨rfl, hb⟩
      clear A0 A1 B0 B1
      have A := A.keep hb
      have B := B.keep hb
      have G := G.below hb
      have HB := Lib.hid (bstep HB.out hb)
      clear hb
      obtain ⟨A0, A1, -, -, -⟩ := id A
      obtain ⟨B0, B1, -, -, -⟩ := id B
      go_wp2_with fail
      refine ((T1).out _ G.tab).mono ?_
      rintro e w2 ⟨rfl, hb⟩
      clear A0 A1 B0 B1
      have A := A.keep hb
      have B := B.keep hb
      have G := G.below hb
      have HB := Lib.hid (bstep HB.out hb)
      clear hb
      obtain ⟨A0, A1, -, -, -⟩ := id A
      obtain ⟨B0, B1, -, -, -⟩ := id B
      go_wp2_with fail
      refine ((T2).out _ G.tab).mono ?_
      rintro e w3 ⟨rfl, hb⟩
      clear A0 A1 B0 B1
      have A := A.keep hb
      have B := B.keep hb
      have G := G.below hb
      have HB := Lib.hid (bstep HB.out hb)
      clear hb
      obtain ⟨A0, A1, -, -, -⟩ := id A
      obtain ⟨B0, B1, -, -, -⟩ := id B
      go_wp2_with fail
      refine ((V1).out _).mono ?_
      rintro e w4 ⟨rfl, hb⟩
      clear A0 A1 B0 B1
      have A := A.keep hb
      have B := B.keep hb
      have G := G.below hb
      have HB := Lib.hid (bstep HB.out hb)
      clear hb
      obtain ⟨A0, A1, -, -, -⟩ := id A
      obtain ⟨B0, B1, -, -, -⟩ := id B
      go_wp2_with fail
      refine ((V2).out _).mono ?_
      rintro e w5 ⟨rfl, hb⟩
      clear A0 A1 B0 B1
      have A := A.keep hb
      have B := B.keep hb
      have G := G.below hb
      have HB := Lib.hid (bstep HB.out hb)
      clear hb
      obtain ⟨A0, A1, -, -, -⟩ := id A
      obtain ⟨B0, B1, -, -, -⟩ := id B
      go_wp2_with fail
      go_ret
      exact ⟨by first | rfl | exact ret_bool (by simp), HB.out⟩
  · cases h2 : ptOk u v
    · rw [show ptE x y = 0 from if_pos h1] at T1
      rw [h1] at V1
      rw [show ptS u v = ⟨#[]⟩ from if_neg (by rw [h2]; simp), show ptE u v = 1 from if_neg (by rw [h2]; simp)] at T2
      rw [h2] at V2
      generalize ptS x y = T at *
      clear h1 h2
      go_enter Tryd.func5, Tryd.ntmps5
      go_wp2_with fail
      refine ((CW).out _ G).mono ?_
      rintro e w1 ⟨rfl, hb⟩
      clear A0 A1 B0 B1
      have A := A.keep hb
      have B := B.keep hb
      have G := G.below hb
      have HB := Lib.hid (bstep HB.out hb)
      clear hb
      obtain ⟨A0, A1, -, -, -⟩ := id A
      obtain ⟨B0, B1, -, -, -⟩ := id B
      go_wp2_with fail
      refine ((T1).out _ G.tab).mono ?_
      rintro e w2 ⟨rfl, hb⟩
      clear A0 A1 B0 B1
      have A := A.keep hb
      have B := B.keep hb
      have G := G.below hb
      have HB := Lib.hid (bstep HB.out hb)
      clear hb
      obtain ⟨A0, A1, -, -, -⟩ := id A
      obtain ⟨B0, B1, -, -, -⟩ := id B
      go_wp2_with fail
      refine ((T2).out _ G.tab).mono ?_
      rintro e w3 ⟨rfl, hb⟩
      clear A0 A1 B0 B1
      have A := A.keep hb
      have B := B.keep hb
      have G := G.below hb
      have HB := Lib.hid (bstep HB.out hb)
      clear hb
      obtain ⟨A0, A1, -, -, -⟩ := id A
      obtain ⟨B0, B1, -, -, -⟩ := id B
      go_wp2_with fail
      refine ((V1).out _).mono ?_
      rintro e w4 ⟨rfl, hb⟩
      clear A0 A1 B0 B1
      have A := A.keep hb
      have B := B.keep hb
      have G := G.below hb
      have HB := Lib.hid (bstep HB.out hb)
      clear hb
      obtain ⟨A0, A1, -, -, -⟩ := id A
      obtain ⟨B0, B1, -, -, -⟩ := id B
      go_wp2_with fail
      refine ((V2).out _).mono ?_
      rintro e w5 ⟨rfl, hb⟩
      clear A0 A1 B0 B1
      have A := A.keep hb
      have B := B.keep hb
      have G := G.below hb
      have HB := Lib.hid (bstep HB.out hb)
      clear hb
      obtain ⟨A0, A1, -, -, -⟩ := id A
      obtain ⟨B0, B1, -, -, -⟩ := id B
      go_wp2_with fail
      go_ret
      exact ⟨by first | rfl | exact ret_bool (by simp), HB.out⟩
    · rw [show ptE x y = 0 from if_pos h1] at T1
      rw [h1] at V1
      rw [show ptE u v = 0 from if_pos h2] at T2
      rw [h2] at V2
      have s1 : ptS x y = ba (ptT x y) := if_pos h1
      have s2 : ptS u v = ba (ptT u v) := if_pos h2
      rw [s1] at T1
      rw [s2] at T2
      obtain ⟨r1, r2, r3⟩ := pt_back x y h1
      have CP := Lib.hid (fun wx (hb : Below w.heap.size w wx) => pPtParse (ptT x y) wx (by have := ptT_len x y; omega) (hm.below hb) (he.below hb))
      rw [r1, r2, r3] at CP
      have key : (x = u ∧ y = v ∧ ptT x y = ptT u v) ∨ (ptT x y ≠ ptT u v ∧ (x ≠ u ∨ (x = u ∧ y ≠ v))) := by
        by_cases q : ptT x y = ptT u v
        · obtain ⟨q1, q2⟩ := pt_inj h1 h2 q
          exact .inl ⟨q1, q2, q⟩
        · refine .inr ⟨q, ?_⟩
          by_cases q1 : x = u
          · exact .inr ⟨q1, fun q2 => q (by rw [q1, q2])⟩
          · exact .inl q1
      have eb : ∀ l k : List UInt8, ((ba l).toList == (ba k).toList) = decide (l = k) := by
        intro l k
        rw [ByteArray.toList_eq, ByteArray.toList_eq, ba_list, ba_list, Bool.eq_iff_iff, beq_iff_eq, decide_eq_true_iff]
      have eb := eb (ptT x y) (ptT u v)
      clear h1 h2 s1 s2 r1 r2 r3
      rcases key with ⟨rfl, rfl, hq⟩ | ⟨hq, hq2⟩
      · generalize ptT x y = l at *
        generalize ba l = T at *
        have hTT : (T.toList == T.toList) = true := by simp
        clear eb hq
        go_enter Tryd.func5, Tryd.ntmps5
        go_wp2_with fail
        refine ((CW).out _ G).mono ?_
        rintro e w1 ⟨rfl, hb⟩
        clear A0 A1 B0 B1
        have A := A.keep hb
        have B := B.keep hb
        have G := G.below hb
        have HB := Lib.hid (bstep HB.out hb)
        clear hb
        obtain ⟨A0, A1, -, -, -⟩ := id A
        obtain ⟨B0, B1, -, -, -⟩ := id B
        go_wp2_with fail
        refine ((T1).out _ G.tab).mono ?_
        rintro e w2 ⟨rfl, hb⟩
        clear A0 A1 B0 B1
        have A := A.keep hb
        have B := B.keep hb
        have G := G.below hb
        have HB := Lib.hid (bstep HB.out hb)
        clear hb
        obtain ⟨A0, A1, -, -, -⟩ := id A
        obtain ⟨B0, B1, -, -, -⟩ := id B
        go_wp2_with fail
        refine ((T2).out _ G.tab).mono ?_
        rintro e w3 ⟨rfl, hb⟩
        clear A0 A1 B0 B1
        have A := A.keep hb
        have B := B.keep hb
        have G := G.below hb
        have HB := Lib.hid (bstep HB.out hb)
        clear hb
        obtain ⟨A0, A1, -, -, -⟩ := id A
        obtain ⟨B0, B1, -, -, -⟩ := id B
        go_wp2_with fail
        refine ((CP).out _ HB.out).mono ?_
        rintro e w4 ⟨rfl, hb⟩
        clear A0 A1 B0 B1
        have A := A.keep hb
        have B := B.keep hb
        have G := G.below hb
        have HB := Lib.hid (bstep HB.out hb)
        clear hb
        obtain ⟨A0, A1, -, -, -⟩ := id A
        obtain ⟨B0, B1, -, -, -⟩ := id B
        clear A0 A1 B0 B1
        have A := A.alloc (.cells #[.int .i64 x, .int .i64 y] 27)
        have B := B.alloc (.cells #[.int .i64 x, .int .i64 y] 27)
        have G := G.below (below1 w4 (.cells #[.int .i64 x, .int .i64 y] 27))
        have P := At2.new w4 (.int .i64 x) (.int .i64 y) 27
        have HB := Lib.hid (bstep HB.out (below1 w4 (.cells #[.int .i64 x, .int .i64 y] 27)))
        obtain ⟨A0, A1, -, -, -⟩ := id A
        obtain ⟨B0, B1, -, -, -⟩ := id B
        obtain ⟨P0, P1, -, -, -⟩ := id P
        go_wp2_with fail
        go_ret
        exact ⟨by first | rfl | exact ret_bool (by simp), HB.out⟩
      · rw [decide_eq_false hq] at eb
        generalize ba (ptT x y) = T at *
        generalize ba (ptT u v) = U at *
        clear hq
        rcases hq2 with hq2 | ⟨rfl, hq2⟩
        · have b1 : (x == u) = false := beq_eq_false_iff_ne.2 hq2
          clear hq2
          go_enter Tryd.func5, Tryd.ntmps5
          go_wp2_with fail
          refine ((CW).out _ G).mono ?_
          rintro e w1 ⟨rfl, hb⟩
          clear A0 A1 B0 B1
          have A := A.keep hb
          have B := B.keep hb
          have G := G.below hb
          have HB := Lib.hid (bstep HB.out hb)
          clear hb
          obtain ⟨A0, A1, -, -, -⟩ := id A
          obtain ⟨B0, B1, -, -, -⟩ := id B
          go_wp2_with fail
          refine ((T1).out _ G.tab).mono ?_
          rintro e w2 ⟨rfl, hb⟩
          clear A0 A1 B0 B1
          have A := A.keep hb
          have B := B.keep hb
          have G := G.below hb
          have HB := Lib.hid (bstep HB.out hb)
          clear hb
          obtain ⟨A0, A1, -, -, -⟩ := id A
          obtain ⟨B0, B1, -, -, -⟩ := id B
          go_wp2_with fail
          refine ((T2).out _ G.tab).mono ?_
          rintro e w3 ⟨rfl, hb⟩
          clear A0 A1 B0 B1
          have A := A.keep hb
          have B := B.keep hb
          have G := G.below hb
          have HB := Lib.hid (bstep HB.out hb)
          clear hb
          obtain ⟨A0, A1, -, -, -⟩ := id A
          obtain ⟨B0, B1, -, -, -⟩ := id B
          go_wp2_with fail
          refine ((CP).out _ HB.out).mono ?_
          rintro e w4 ⟨rfl, hb⟩
          clear A0 A1 B0 B1
          have A := A.keep hb
          have B := B.keep hb
          have G := G.below hb
          have HB := Lib.hid (bstep HB.out hb)
          clear hb
          obtain ⟨A0, A1, -, -, -⟩ := id A
          obtain ⟨B0, B1, -, -, -⟩ := id B
          clear A0 A1 B0 B1
          have A := A.alloc (.cells #[.int .i64 x, .int .i64 y] 27)
          have B := B.alloc (.cells #[.int .i64 x, .int .i64 y] 27)
          have G := G.below (below1 w4 (.cells #[.int .i64 x, .int .i64 y] 27))
          have P := At2.new w4 (.int .i64 x) (.int .i64 y) 27
          have HB := Lib.hid (bstep HB.out (below1 w4 (.cells #[.int .i64 x, .int .i64 y] 27)))
          obtain ⟨A0, A1, -, -, -⟩ := id A
          obtain ⟨B0, B1, -, -, -⟩ := id B
          obtain ⟨P0, P1, -, -, -⟩ := id P
          go_wp2_with fail
          go_ret
          exact ⟨by first | rfl | exact ret_bool (by simp), HB.out⟩
        · have b1 : (y == v) = false := beq_eq_false_iff_ne.2 hq2
          clear hq2
          go_enter Tryd.func5, Tryd.ntmps5
          go_wp2_with fail
          refine ((CW).out _ G).mono ?_
          rintro e w1 ⟨rfl, hb⟩
          clear A0 A1 B0 B1
          have A := A.keep hb
          have B := B.keep hb
          have G := G.below hb
          have HB := Lib.hid (bstep HB.out hb)
          clear hb
          obtain ⟨A0, A1, -, -, -⟩ := id A
          obtain ⟨B0, B1, -, -, -⟩ := id B
          go_wp2_with fail
          refine ((T1).out _ G.tab).mono ?_
          rintro e w2 ⟨rfl, hb⟩
          clear A0 A1 B0 B1
          have A := A.keep hb
          have B := B.keep hb
          have G := G.below hb
          have HB := Lib.hid (bstep HB.out hb)
          clear hb
          obtain ⟨A0, A1, -, -, -⟩ := id A
          obtain ⟨B0, B1, -, -, -⟩ := id B
          go_wp2_with fail
          refine ((T2).out _ G.tab).mono ?_
          rintro e w3 ⟨rfl, hb⟩
          clear A0 A1 B0 B1
          have A := A.keep hb
          have B := B.keep hb
          have G := G.below hb
          have HB := Lib.hid (bstep HB.out hb)
          clear hb
          obtain ⟨A0, A1, -, -, -⟩ := id A
          obtain ⟨B0, B1, -, -, -⟩ := id B
          go_wp2_with fail
          refine ((CP).out _ HB.out).mono ?_
          rintro e w4 ⟨rfl, hb⟩
          clear A0 A1 B0 B1
          have A := A.keep hb
          have B := B.keep hb
          have G := G.below hb
          have HB := Lib.hid (bstep HB.out hb)
          clear hb
          obtain ⟨A0, A1, -, -, -⟩ := id A
          obtain ⟨B0, B1, -, -, -⟩ := id B
          clear A0 A1 B0 B1
          have A := A.alloc (.cells #[.int .i64 x, .int .i64 y] 27)
          have B := B.alloc (.cells #[.int .i64 x, .int .i64 y] 27)
          have G := G.below (below1 w4 (.cells #[.int .i64 x, .int .i64 y] 27))
          have P := At2.new w4 (.int .i64 x) (.int .i64 y) 27
          have HB := Lib.hid (bstep HB.out (below1 w4 (.cells #[.int .i64 x, .int .i64 y] 27)))
          obtain ⟨A0, A1, -, -, -⟩ := id A
          obtain ⟨B0, B1, -, -, -⟩ := id B
          obtain ⟨P0, P1, -, -, -⟩ := id P
          go_wp2_with fail
          go_ret
          exact ⟨by first | rfl | exact ret_bool (by simp), HB.out⟩
end Go.Proofs.YtgcoddjjkcdfmaaDoor
