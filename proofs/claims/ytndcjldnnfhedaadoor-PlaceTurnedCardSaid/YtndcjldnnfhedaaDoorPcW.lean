/- Place: the law's examples; PlaceForms and PlaceBoxes: the walks. -/
import Derived.Test.YtndcjldnnfhedaaDoorPcT
import Derived.Test.YtndcjldnnfhedaaDoorPcV
import Derived.Test.YtndcjldnnfhedaaDoorPcY
namespace Go.Proofs.YtndcjldnnfhedaaDoor
open Go.RowKit
set_option linter.unusedVariables false
set_option maxRecDepth 100000

/-- what is asked of the world: the variable of all longitudes, and the powers of ten -/
structure Pc8 (w : World) : Prop where
  all : HasAll w
  tab : Tab w
theorem Pc8.below {w w' : World} (h : Pc8 w) (hb : Below w.heap.size w w') : Pc8 w' := ⟨h.all.below hb, Lib.tabBelow_of_tabIs h.tab w' hb⟩
set_option maxHeartbeats 4000000 in
theorem awake8 (w : World) (H : Pc8 w) : Calls Tryd.prog 8 #[] w fun e w' => e = .returned (.bool true) ∧ Below w.heap.size w w' := by
  have C1 := Lib.hid (fun wx => toldV (v' := .tuple #[.agg #[.int .i64 0, .int .i64 0, .int .i64 10740000, .int .i64 10740000], .int .i64 0]) (if_pos (by decide)) (pOf 0 10740000 wx))
  have C2 := Lib.hid (fun wx => toldV (v' := .tuple #[.agg #[.int .i64 0, .int .i64 0, .int .i64 (-10740000), .int .i64 (-10740000)], .int .i64 0]) (if_pos (by decide)) (pOf 0 (-10740000) wx))
  have hh : arnd [(10740000, 10740000), (-10740000, -10740000)] = (10740000, 10860000) := by decide +kernel
  have C3 := Lib.hid (fun wx (Hx : HasAll wx) => toldV (v' := .tuple #[.agg #[.int .i64 0, .int .i64 0, .int .i64 10740000, .int .i64 10860000], .int .i64 0]) (by rw [if_pos (by decide), hh]; rfl) (pPlHull 0 0 10740000 10740000 0 0 (-10740000) (-10740000) wx Hx))
  have C4 := Lib.hid (fun wx (hb : Tab wx) => toldT (s := ⟨#[51, 52, 45, 48, 53, 46, 53, 78, 32, 49, 49, 56, 45, 49, 53, 46, 48, 87]⟩) (y := 0) ((if_pos (by decide)).trans pt_example) (if_pos (by decide)) (pPtText 2045500 (-7095000) wx hb))
  have C5 := Lib.hid (fun wx (Hx : HasAll wx) => told1 true (by decide) (pPlValid 0 0 10740000 10860000 wx Hx))
  have G := H
  have HB := Lib.hid (Below.refl w.heap.size w)
  go_enter Tryd.func8, Tryd.ntmps8
  go_wp2_with fail
  refine ((C1).out _).mono ?_
  rintro e w1 ⟨rfl, hb⟩
  have G := G.below hb
  have HB := Lib.hid (bstep HB.out hb)
  clear hb
  have G := G.below (below1 w1 (.cells #[.int .i64 0, .int .i64 0, .int .i64 10740000, .int .i64 10740000] 33))
  have A := At4.new w1 (.int .i64 0) (.int .i64 0) (.int .i64 10740000) (.int .i64 10740000) 33
  have HB := Lib.hid (bstep HB.out (below1 w1 (.cells #[.int .i64 0, .int .i64 0, .int .i64 10740000, .int .i64 10740000] 33)))
  obtain ⟨A0, A1, A2, A3, -, -, -, -, -⟩ := id A
  go_wp2_with fail
  refine ((C2).out _).mono ?_
  rintro e w2 ⟨rfl, hb⟩
  clear A0 A1 A2 A3
  have A := A.keep hb
  have G := G.below hb
  have HB := Lib.hid (bstep HB.out hb)
  clear hb
  obtain ⟨A0, A1, A2, A3, -, -, -, -, -⟩ := id A
  clear A0 A1 A2 A3
  have A := A.alloc (.cells #[.int .i64 0, .int .i64 0, .int .i64 (-10740000), .int .i64 (-10740000)] 33)
  have G := G.below (below1 w2 (.cells #[.int .i64 0, .int .i64 0, .int .i64 (-10740000), .int .i64 (-10740000)] 33))
  have B := At4.new w2 (.int .i64 0) (.int .i64 0) (.int .i64 (-10740000)) (.int .i64 (-10740000)) 33
  have HB := Lib.hid (bstep HB.out (below1 w2 (.cells #[.int .i64 0, .int .i64 0, .int .i64 (-10740000), .int .i64 (-10740000)] 33)))
  obtain ⟨A0, A1, A2, A3, -, -, -, -, -⟩ := id A
  obtain ⟨B0, B1, B2, B3, -, -, -, -, -⟩ := id B
  go_wp2_with fail
  refine ((C3).out _ G.all).mono ?_
  rintro e w3 ⟨rfl, hb⟩
  clear A0 A1 A2 A3 B0 B1 B2 B3
  have A := A.keep hb
  have B := B.keep hb
  have G := G.below hb
  have HB := Lib.hid (bstep HB.out hb)
  clear hb
  obtain ⟨A0, A1, A2, A3, -, -, -, -, -⟩ := id A
  obtain ⟨B0, B1, B2, B3, -, -, -, -, -⟩ := id B
  clear A0 A1 A2 A3 B0 B1 B2 B3
  have A := A.alloc (.cells #[.int .i64 0, .int .i64 0, .int .i64 10740000, .int .i64 10860000] 33)
  have B := B.alloc (.cells #[.int .i64 0, .int .i64 0, .int .i64 10740000, .int .i64 10860000] 33)
  have G := G.below (below1 w3 (.cells #[.int .i64 0, .int .i64 0, .int .i64 10740000, .int .i64 10860000] 33))
  have S := At4.new w3 (.int .i64 0) (.int .i64 0) (.int .i64 10740000) (.int .i64 10860000) 33
  have HB := Lib.hid (bstep HB.out (below1 w3 (.cells #[.int .i64 0, .int .i64 0, .int .i64 10740000, .int .i64 10860000] 33)))
  obtain ⟨A0, A1, A2, A3, -, -, -, -, -⟩ := id A
  obtain ⟨B0, B1, B2, B3, -, -, -, -, -⟩ := id B
  obtain ⟨S0, S1, S2, S3, -, -, -, -, -⟩ := id S
  go_wp2_with fail
  refine ((C4).out _ G.tab).mono ?_
  rintro e w4 ⟨rfl, hb⟩
  clear A0 A1 A2 A3 B0 B1 B2 B3 S0 S1 S2 S3
  have A := A.keep hb
  have B := B.keep hb
  have S := S.keep hb
  have G := G.below hb
  have HB := Lib.hid (bstep HB.out hb)
  clear hb
  obtain ⟨A0, A1, A2, A3, -, -, -, -, -⟩ := id A
  obtain ⟨B0, B1, B2, B3, -, -, -, -, -⟩ := id B
  obtain ⟨S0, S1, S2, S3, -, -, -, -, -⟩ := id S
  go_wp2_with fail
  refine ((C5).out _ G.all).mono ?_
  rintro e w5 ⟨rfl, hb⟩
  clear A0 A1 A2 A3 B0 B1 B2 B3 S0 S1 S2 S3
  have A := A.keep hb
  have B := B.keep hb
  have S := S.keep hb
  have G := G.below hb
  have HB := Lib.hid (bstep HB.out hb)
  clear hb
  obtain ⟨A0, A1, A2, A3, -, -, -, -, -⟩ := id A
  obtain ⟨B0, B1, B2, B3, -, -, -, -, -⟩ := id B
  obtain ⟨S0, S1, S2, S3, -, -, -, -, -⟩ := id S
  go_wp2_with fail
  go_ret
  exact ⟨rfl, HB.out⟩
end Go.Proofs.YtndcjldnnfhedaaDoor
