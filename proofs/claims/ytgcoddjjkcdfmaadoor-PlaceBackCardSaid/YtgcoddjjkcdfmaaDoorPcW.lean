/- Place: the law's examples; PlaceForms and PlaceBoxes: the walks. -/
import Derived.Test.YtgcoddjjkcdfmaaDoorPcT
import Derived.Test.YtgcoddjjkcdfmaaDoorPcV
import Derived.Test.YtgcoddjjkcdfmaaDoorPcY
namespace Go.Proofs.YtgcoddjjkcdfmaaDoor
open Go.RowKit
set_option linter.unusedVariables false
set_option maxRecDepth 100000

/-- what is asked of the world: the variable of all longitudes, and the powers of ten -/
structure Pc8 (w : World) : Prop where
  all : HasAll w
  tab : Tab w
theorem Pc8.below {w w' : World} (h : Pc8 w) (hb : Below w.heap.size w w') : Pc8 w' := ⟨h.all.below hb, Lib.tabBelow_of_tabIs h.tab w' hb⟩
set_option maxHeartbeats 4000000 in
theorem awake8 (w : World) (H : Pc8 w) : Calls Tryd.prog 8 #[] w fun e w' => e = .returned (.bool true) ∧ Below w.heap.size w w' := by
  have C1 := Lib.hid (fun wx => toldV (v' := .tuple #[.agg #[.int .i64 0, .int .i64 0, .int .i64 10740000, .int .i64 10740000], .int .i64 0]) (if_pos (by decide)) (pOf 0 10740000 wx))
  have C2 := Lib.hid (fun wx => toldV (v' := .tuple #[.agg #[.int .i64 0, .int .i64 0, .int .i64 (-10740000), .int .i64 (-10740000)], .int .i64 0]) (if_pos (by decide)) (pOf 0 (-10740000) wx))
  have hh : arnd [(10740000, 10740000), (-10740000, -10740000)] = (10740000, 10860000) := by decide +kernel
  have C3 := Lib.hid (fun wx (Hx : HasAll wx) => toldV (v' := .tuple #[.agg #[.int .i64 0, .int .i64 0, .int .i64 10740000, .int .i64 10860000], .int .i64 0]) (by rw [if_pos (by decide), hh]; rfl) (pPlHull 0 0 10740000 10740000 0 0 (-10740000) (-10740000) wx Hx))
  have C4 := Lib.hid (fun wx (hb : Tab wx) => toldT (s := ⟨#[51, 52, 45, 48, 53, 46, 53, 78, 32, 49, 49, 56, 45, 49, 53, 46, 48, 87]⟩) (y := 0) ((if_pos (by decide)).trans pt_example) (if_pos (by decide)) (pPtText 2045500 (-7095000) wx hb))
  have C5 := Lib.hid (fun wx (Hx : HasAll wx) => told1 true (by decide) (pPlValid 0 0 10740000 10860000 wx Hx))
  have G := H
  have HB := Lib.hid (Below.refl w.heap.size w)
  go_enter Tryd.func8, Tryd.ntmps8
  go_wp2_with fail
  refine ((C1).out _).mono ?_
  rintro e w1 ⟨rfl, hb⟩
  have G := G.below hb
  have HB := Lib.hid (bstep HB.out hb)
  clear hb
  have G := G.below (below1 w1 (.cells #[.int .i64 0, .int .i64 0, .int .i64 10740000, .int .i64 10740000] 25))
  have A := At4.new w1 (.int .i64 0) (.int .i64 0) (.int .i64 10740000) (.int .i64 10740000) 25
  have HB := Lib.hid (bstep HB.out (below1 w1 (.cells #[.int .i64 0, .int .i64 0, .int .i64 10740000, .int .i64 10740000] 25)))
  obtain ⟨A0, A1, A2, A3, -, -, -, -, -⟩ := id A
  go_wp2_with fail
  refine ((C2).out _).mono ?_
  rintro e w2 ⟨rfl, hb⟩
  clear A0 A1 A2 A3
  have A := A.keep hb
  have G := G.below hb
  have HB := Lib.hid (bstep HB.out hb)
  clear hb
  obtain ⟨A0, A1, A2, A3, -, -, -, -, -⟩ := id A
  clear A0 A1 A2 A3
  have A := A.alloc (.cells #[.int .i64 0, .int .i64 0, .int .i64 (-10740000), .int .i64 (-10740000)] 25)
  have G := G.below (below1 w2 (.cells #[.int .i64 0, .int .i64 0, .int .i64 (-10740000), .int .i64 (-10740000)] 25))
  have B := At4.new w2 (.int .i64 0) (.int .i64 0) (.int .i64 (-10740000)) (.int .i64 (-10740000)) 25
  have HB := Lib.hid (bstep HB.out (below1 w2 (.cells #[.int .i64 0, .int .i64 0, .int .i64 (-10740000), .int .i64 (-10740000)] 25)))
  obtain ⟨A0, A1, A2, A3, -, -, -, -, -⟩ := id A
  obtain ⟨B0, B1, B2, B3, -, -, -, -, -⟩ := id B
  go_wp2_with fail
  refine ((C3).out _ G.all).mono ?_
  rintro e w3 ⟨rfl, hb⟩
  clear A0 A1 A2 A3 B0 B1 B2 B3
  have A := A.keep hb
  have B := B.keep hb
  have G := G.below hb
  have HB := Lib.hid (bstep HB.out hb)
  clear hb
  obtain ⟨A0, A1, A2, A3, -, -, -, -, -⟩ := id A
  obtain ⟨B0, B1, B2, B3, -, -, -, -, -⟩ := id B
  clear A0 A1 A2 A3 B0 B1 B2 B3
  have A := A.alloc (.cells #[.int .i64 0, .int .i64 0, .int .i64 10740000, .int .i64 10860000] 25)
  have B := B.alloc (.cells #[.int .i64 0, .int .i64 0, .int .i64 10740000, .int .i64 10860000] 25)
  have G := G.below (below1 w3 (.cells #[.int .i64 0, .int .i64 0, .int .i64 10740000, .int .i64 10860000] 25))
  have S := At4.new w3 (.int .i64 0) (.int .i64 0) (.int .i64 10740000) (.int .i64 10860000) 25
  have HB := Lib.hid (bstep HB.out (below1 w3 (.cells #[.int .i64 0, .int .i64 0, .int .i64 10740000, .int .i64 10860000] 25)))
  obtain ⟨A0, A1, A2, A3, -, -, -, -, -⟩ := id A
  obtain ⟨B0, B1, B2, B3, -, -, -, -, -⟩ := id B
  obtain ⟨S0, S1, S2, S3, -, -, -, -, -⟩ := id S
  go_wp2_with fail
  refine ((C4).out _ G.tab).mono ?_
  rintro e w4 ⟨rfl, hb⟩
  clear A0 A1 A2 A3 B0 B1 B2 B3 S0 S1 S2 S3
  have A := A.keep hb
  have B := B.keep hb
  have S := S.keep hb
  have G := G.below hb
  have HB := Lib.hid (bstep HB.out hb)
  clear hb
  obtain ⟨A0, A1, A2, A3, -, -, -, -, -⟩ := id A
  obtain ⟨B0, B1, B2, B3, -, -, -, -, -⟩ := id B
  obtain ⟨S0, S1, S2, S3, -, -, -, -, -⟩ := id S
  go_wp2_with fail
  refine ((C5).out _ G.all).mono ?_
  rintro e w5 ⟨rfl, hb⟩
  clear A0 A1 A2 A3 B0 B1 B2 B3 S0 S1 S2 S3
  have A := A.keep hb
  have B := B.keep hb
  have S := S.keep hb
  have G := G.below hb
  have HB := Lib.hid (bstep HB.out hb)
  clear hb
  obtain ⟨A0, A1, A2, A3, -, -, -, -, -⟩ := id A
  obtain ⟨B0, B1, B2, B3, -, -, -, -, -⟩ := id B
  obtain ⟨S0, S1, S2, S3, -, -, -, -, -⟩ := id S
  go_wp2_with fail
  go_ret
  exact ⟨rfl, HB.out⟩
set_option maxHeartbeats 4000000 in
theorem forms8 (a b c d e f g h x y : Int) (w : World) (H : Pc8 w) :
    Calls Tryd.prog 3 #[.agg #[.int .i64 a, .int .i64 b, .int .i64 c, .int .i64 d], .agg #[.int .i64 e, .int .i64 f, .int .i64 g, .int .i64 h], .agg #[.int .i64 x, .int .i64 y]] w fun r w' => r = .returned (.bool true) ∧ Below w.heap.size w w' := by
  have CW := Lib.hid (fun wx (Hx : Pc8 wx) => awake8 wx Hx)
  have CO := Lib.hid (fun wx => pOf x y wx)
  have CC := Lib.hid (fun wx (Hx : HasAll wx) => pContains a b c d x y wx Hx)
  have V1 := Lib.hid (fun wx (Hx : HasAll wx) => pPlValid a b c d wx Hx)
  have V2 := Lib.hid (fun wx => rpValid a b c d wx)
  have P1 := Lib.hid (fun wx => pPtValid x y wx)
  have P2 := Lib.hid (fun wx => rpPoint x y wx)
  have I1 := Lib.hid (fun wx (Hx : HasAll wx) => pPlInside a b c d e f g h wx Hx)
  have I2 := Lib.hid (fun wx => rpInside a b c d e f g h wx)
  generalize insB a b c d e f g h = iv at *
  have A := ((At4.new w (.int .i64 a) (.int .i64 b) (.int .i64 c) (.int .i64 d) 25).alloc (.cells #[.int .i64 e, .int .i64 f, .int .i64 g, .int .i64 h] 25)).alloc (.cells #[.int .i64 x, .int .i64 y] 27)
  have B := (At4.new (w.alloc (.cells #[.int .i64 a, .int .i64 b, .int .i64 c, .int .i64 d] 25)) (.int .i64 e) (.int .i64 f) (.int .i64 g) (.int .i64 h) 25).alloc (.cells #[.int .i64 x, .int .i64 y] 27)
  have Q := At2.new ((w.alloc (.cells #[.int .i64 a, .int .i64 b, .int .i64 c, .int .i64 d] 25)).alloc (.cells #[.int .i64 e, .int .i64 f, .int .i64 g, .int .i64 h] 25)) (.int .i64 x) (.int .i64 y) 27
  have HB := Lib.hid (below3 w (.cells #[.int .i64 a, .int .i64 b, .int .i64 c, .int .i64 d] 25) (.cells #[.int .i64 e, .int .i64 f, .int .i64 g, .int .i64 h] 25) (.cells #[.int .i64 x, .int .i64 y] 27))
  simp at B Q
  have G := H.below HB.out
  obtain ⟨A0, A1, A2, A3, -, -, -, -, -⟩ := id A
  obtain ⟨B0, B1, B2, B3, -, -, -, -, -⟩ := id B
  obtain ⟨Q0, Q1, -, -, -⟩ := id Q
  cases hp : ptOk x y
  · rw [hp, if_neg (by decide)] at CO
    unfold vPE at CO
    rw [hp] at P1 P2
    rw [show conV a b c d x y = false by (unfold conV; rw [hp]; simp), show conE a b c d x y = 1 from if_neg (by rw [hp]; simp)] at CC
    clear hp
    generalize plOk a b c d = pv at *
    go_enter Tryd.func3, Tryd.ntmps3
    go_wp2_with fail
    refine ((CW).out _ G).mono ?_
    rintro e w1 ⟨rfl, hb⟩
    clear A0 A1 A2 A3 B0 B1 B2 B3 Q0 Q1
    have A := A.keep hb
    have B := B.keep hb
    have Q := Q.keep hb
    have G := G.below hb
    have HB := Lib.hid (bstep HB.out hb)
    clear hb
    obtain ⟨A0, A1, A2, A3, -, -, -, -, -⟩ := id A
    obtain ⟨B0, B1, B2, B3, -, -, -, -, -⟩ := id B
    obtain ⟨Q0, Q1, -, -, -⟩ := id Q
    go_wp2_with fail
    refine ((CO).out _).mono ?_
    rintro e w2 ⟨rfl, hb⟩
    clear A0 A1 A2 A3 B0 B1 B2 B3 Q0 Q1
    have A := A.keep hb
    have B := B.keep hb
    have Q := Q.keep hb
    have G := G.below hb
    have HB := Lib.hid (bstep HB.out hb)
    clear hb
    obtain ⟨A0, A1, A2, A3, -, -, -, -, -⟩ := id A
    obtain ⟨B0, B1, B2, B3, -, -, -, -, -⟩ := id B
    obtain ⟨Q0, Q1, -, -, -⟩ := id Q
    clear A0 A1 A2 A3 B0 B1 B2 B3 Q0 Q1
    have A := A.alloc (.cells #[.int .i64 0, .int .i64 0, .int .i64 0, .int .i64 0] 25)
    have B := B.alloc (.cells #[.int .i64 0, .int .i64 0, .int .i64 0, .int .i64 0] 25)
    have Q := Q.alloc (.cells #[.int .i64 0, .int .i64 0, .int .i64 0, .int .i64 0] 25)
    have G := G.below (below1 w2 (.cells #[.int .i64 0, .int .i64 0, .int .i64 0, .int .i64 0] 25))
    have S := At4.new w2 (.int .i64 0) (.int .i64 0) (.int .i64 0) (.int .i64 0) 25
    have HB := Lib.hid (bstep HB.out (below1 w2 (.cells #[.int .i64 0, .int .i64 0, .int .i64 0, .int .i64 0] 25)))
    obtain ⟨A0, A1, A2, A3, -, -, -, -, -⟩ := id A
    obtain ⟨B0, B1, B2, B3, -, -, -, -, -⟩ := id B
    obtain ⟨Q0, Q1, -, -, -⟩ := id Q
    obtain ⟨S0, S1, S2, S3, -, -, -, -, -⟩ := id S
    go_wp2_with fail
    refine ((CC).out _ G.all).mono ?_
    rintro e w3 ⟨rfl, hb⟩
    clear A0 A1 A2 A3 B0 B1 B2 B3 Q0 Q1 S0 S1 S2 S3
    have A := A.keep hb
    have B := B.keep hb
    have Q := Q.keep hb
    have S := S.keep hb
    have G := G.below hb
    have HB := Lib.hid (bstep HB.out hb)
    clear hb
    obtain ⟨A0, A1, A2, A3, -, -, -, -, -⟩ := id A
    obtain ⟨B0, B1, B2, B3, -, -, -, -, -⟩ := id B
    obtain ⟨Q0, Q1, -, -, -⟩ := id Q
    obtain ⟨S0, S1, S2, S3, -, -, -, -, -⟩ := id S
    go_upto_region 5 with fail
    clear A0 A1 A2 A3 B0 B1 B2 B3 Q0 Q1 S0 S1 S2 S3
    obtain ⟨A0, A1, A2, A3⟩ := A.bel
    obtain ⟨B0, B1, B2, B3⟩ := B.bel
    obtain ⟨Q0, Q1⟩ := Q.bel
    obtain ⟨S0, S1, S2, S3⟩ := S.bel
    have Gb := Lib.hid G
    refine wp_region_bel (by kernel_rfl) (by kernel_rfl) ?_
    repeat (go_big_quiet_step (first
      | (go_at_call 11; with_reducible refine bel_of (V1.out _ (Gb.out.below (Bel.h _)).all))
      | (go_at_call 12; with_reducible refine bel_of (V2.out _))
      | (go_at_call 13; with_reducible refine bel_of (P1.out _))
      | (go_at_call 14; with_reducible refine bel_of (P2.out _))
      | (go_at_call 15; with_reducible refine bel_of (I1.out _ (Gb.out.below (Bel.h _)).all))
      | (go_at_call 16; with_reducible refine bel_of (I2.out _))))
    refine wpQuiet_nil ?_
    intro _ hw'
    obtain ⟨pq, hw''⟩ := hw'
    subst hw''
    have G := G.below pq.h
    have HB := Lib.hid (bstep HB.out pq.h)
    have A := A.keep pq.h
    have B := B.keep pq.h
    have Q := Q.keep pq.h
    have S := S.keep pq.h
    clear A0 A1 A2 A3 B0 B1 B2 B3 Q0 Q1 S0 S1 S2 S3 Gb
    obtain ⟨A0, A1, A2, A3, -, -, -, -, -⟩ := id A
    obtain ⟨B0, B1, B2, B3, -, -, -, -, -⟩ := id B
    obtain ⟨Q0, Q1, -, -, -⟩ := id Q
    obtain ⟨S0, S1, S2, S3, -, -, -, -, -⟩ := id S
    go_wp2_with fail
    refine ((P2).out _).mono ?_
    rintro e w4 ⟨rfl, hb⟩
    clear A0 A1 A2 A3 B0 B1 B2 B3 Q0 Q1 S0 S1 S2 S3
    have A := A.keep hb
    have B := B.keep hb
    have Q := Q.keep hb
    have S := S.keep hb
    have G := G.below hb
    have HB := Lib.hid (bstep HB.out hb)
    clear hb
    obtain ⟨A0, A1, A2, A3, -, -, -, -, -⟩ := id A
    obtain ⟨B0, B1, B2, B3, -, -, -, -, -⟩ := id B
    obtain ⟨Q0, Q1, -, -, -⟩ := id Q
    obtain ⟨S0, S1, S2, S3, -, -, -, -, -⟩ := id S
    go_wp2_with fail
    go_ret
    exact ⟨by first | rfl | exact ret_bool (by simp), HB.out⟩
  · have kp := (ptOk_iff _ _).1 hp
    rw [hp, if_pos rfl] at CO
    unfold vPE at CO
    rw [hp] at P1 P2
    cases hv : plOk a b c d
    · rw [hv] at V1 V2
      rw [show conV a b c d x y = false by (unfold conV; rw [hv]; simp), show conE a b c d x y = 1 from if_neg (by rw [hv]; simp)] at CC
      clear hp hv kp
      go_enter Tryd.func3, Tryd.ntmps3
      go_wp2_with fail
      refine ((CW).out _ G).mono ?_
      rintro e w1 ⟨rfl, hb⟩
      clear A0 A1 A2 A3 B0 B1 B2 B3 Q0 Q1
      have A := A.keep hb
      have B := B.keep hb
      have Q := Q.keep hb
      have G := G.below hb
      have HB := Lib.hid (bstep HB.out hb)
      clear hb
      obtain ⟨A0, A1, A2, A3, -, -, -, -, -⟩ := id A
      obtain ⟨B0, B1, B2, B3, -, -, -, -, -⟩ := id B
      obtain ⟨Q0, Q1, -, -, -⟩ := id Q
      go_wp2_with fail
      refine ((CO).out _).mono ?_
      rintro e w2 ⟨rfl, hb⟩
      clear A0 A1 A2 A3 B0 B1 B2 B3 Q0 Q1
      have A := A.keep hb
      have B := B.keep hb
      have Q := Q.keep hb
      have G := G.below hb
      have HB := Lib.hid (bstep HB.out hb)
      clear hb
      obtain ⟨A0, A1, A2, A3, -, -, -, -, -⟩ := id A
      obtain ⟨B0, B1, B2, B3, -, -, -, -, -⟩ := id B
      obtain ⟨Q0, Q1, -, -, -⟩ := id Q
      clear A0 A1 A2 A3 B0 B1 B2 B3 Q0 Q1
      have A := A.alloc (.cells #[.int .i64 x, .int .i64 x, .int .i64 y, .int .i64 y] 25)
      have B := B.alloc (.cells #[.int .i64 x, .int .i64 x, .int .i64 y, .int .i64 y] 25)
      have Q := Q.alloc (.cells #[.int .i64 x, .int .i64 x, .int .i64 y, .int .i64 y] 25)
      have G := G.below (below1 w2 (.cells #[.int .i64 x, .int .i64 x, .int .i64 y, .int .i64 y] 25))
      have S := At4.new w2 (.int .i64 x) (.int .i64 x) (.int .i64 y) (.int .i64 y) 25
      have HB := Lib.hid (bstep HB.out (below1 w2 (.cells #[.int .i64 x, .int .i64 x, .int .i64 y, .int .i64 y] 25)))
      obtain ⟨A0, A1, A2, A3, -, -, -, -, -⟩ := id A
      obtain ⟨B0, B1, B2, B3, -, -, -, -, -⟩ := id B
      obtain ⟨Q0, Q1, -, -, -⟩ := id Q
      obtain ⟨S0, S1, S2, S3, -, -, -, -, -⟩ := id S
      go_wp2_with fail
      refine ((CC).out _ G.all).mono ?_
      rintro e w3 ⟨rfl, hb⟩
      clear A0 A1 A2 A3 B0 B1 B2 B3 Q0 Q1 S0 S1 S2 S3
      have A := A.keep hb
      have B := B.keep hb
      have Q := Q.keep hb
      have S := S.keep hb
      have G := G.below hb
      have HB := Lib.hid (bstep HB.out hb)
      clear hb
      obtain ⟨A0, A1, A2, A3, -, -, -, -, -⟩ := id A
      obtain ⟨B0, B1, B2, B3, -, -, -, -, -⟩ := id B
      obtain ⟨Q0, Q1, -, -, -⟩ := id Q
      obtain ⟨S0, S1, S2, S3, -, -, -, -, -⟩ := id S
      go_upto_region 5 with fail
      clear A0 A1 A2 A3 B0 B1 B2 B3 Q0 Q1 S0 S1 S2 S3
      obtain ⟨A0, A1, A2, A3⟩ := A.bel
      obtain ⟨B0, B1, B2, B3⟩ := B.bel
      obtain ⟨Q0, Q1⟩ := Q.bel
      obtain ⟨S0, S1, S2, S3⟩ := S.bel
      have Gb := Lib.hid G
      refine wp_region_bel (by kernel_rfl) (by kernel_rfl) ?_
      repeat (go_big_quiet_step (first
        | (go_at_call 11; with_reducible refine bel_of (V1.out _ (Gb.out.below (Bel.h _)).all))
        | (go_at_call 12; with_reducible refine bel_of (V2.out _))
        | (go_at_call 13; with_reducible refine bel_of (P1.out _))
        | (go_at_call 14; with_reducible refine bel_of (P2.out _))
        | (go_at_call 15; with_reducible refine bel_of (I1.out _ (Gb.out.below (Bel.h _)).all))
        | (go_at_call 16; with_reducible refine bel_of (I2.out _))))
      refine wpQuiet_nil ?_
      intro _ hw'
      obtain ⟨pq, hw''⟩ := hw'
      subst hw''
      have G := G.below pq.h
      have HB := Lib.hid (bstep HB.out pq.h)
      have A := A.keep pq.h
      have B := B.keep pq.h
      have Q := Q.keep pq.h
      have S := S.keep pq.h
      clear A0 A1 A2 A3 B0 B1 B2 B3 Q0 Q1 S0 S1 S2 S3 Gb
      obtain ⟨A0, A1, A2, A3, -, -, -, -, -⟩ := id A
      obtain ⟨B0, B1, B2, B3, -, -, -, -, -⟩ := id B
      obtain ⟨Q0, Q1, -, -, -⟩ := id Q
      obtain ⟨S0, S1, S2, S3, -, -, -, -, -⟩ := id S
      go_wp2_with fail
      refine ((P2).out _).mono ?_
      rintro e w4 ⟨rfl, hb⟩
      clear A0 A1 A2 A3 B0 B1 B2 B3 Q0 Q1 S0 S1 S2 S3
      have A := A.keep hb
      have B := B.keep hb
      have Q := Q.keep hb
      have S := S.keep hb
      have G := G.below hb
      have HB := Lib.hid (bstep HB.out hb)
      clear hb
      obtain ⟨A0, A1, A2, A3, -, -, -, -, -⟩ := id A
      obtain ⟨B0, B1, B2, B3, -, -, -, -, -⟩ := id B
      obtain ⟨Q0, Q1, -, -, -⟩ := id Q
      obtain ⟨S0, S1, S2, S3, -, -, -, -, -⟩ := id S
      go_wp2_with fail
      refine ((V2).out _).mono ?_
      rintro e w5 ⟨rfl, hb⟩
      clear A0 A1 A2 A3 B0 B1 B2 B3 Q0 Q1 S0 S1 S2 S3
      have A := A.keep hb
      have B := B.keep hb
      have Q := Q.keep hb
      have S := S.keep hb
      have G := G.below hb
      have HB := Lib.hid (bstep HB.out hb)
      clear hb
      obtain ⟨A0, A1, A2, A3, -, -, -, -, -⟩ := id A
      obtain ⟨B0, B1, B2, B3, -, -, -, -, -⟩ := id B
      obtain ⟨Q0, Q1, -, -, -⟩ := id Q
      obtain ⟨S0, S1, S2, S3, -, -, -, -, -⟩ := id S
      go_wp2_with fail
      go_ret
      exact ⟨by first | rfl | exact ret_bool (by simp), HB.out⟩
    · rw [hv] at V1 V2
      have R1 := Lib.hid (fun wx => rpContains a b c d x y wx ((plOk_iff _ _ _ _).1 hv).2 ⟨kp.2.2.1, kp.2.2.2⟩)
      rw [show conV a b c d x y = conB a b c d x y by (unfold conV; rw [hp, hv]; simp), show conE a b c d x y = 0 from if_pos ⟨hp, hv⟩] at CC
      clear hp hv kp
      generalize conB a b c d x y = cb at *
      go_enter Tryd.func3, Tryd.ntmps3
      go_wp2_with fail
      refine ((CW).out _ G).mono ?_
      rintro e w1 ⟨rfl, hb⟩
      clear A0 A1 A2 A3 B0 B1 B2 B3 Q0 Q1
      have A := A.keep hb
      have B := B.keep hb
      have Q := Q.keep hb
      have G := G.below hb
      have HB := Lib.hid (bstep HB.out hb)
      clear hb
      obtain ⟨A0, A1, A2, A3, -, -, -, -, -⟩ := id A
      obtain ⟨B0, B1, B2, B3, -, -, -, -, -⟩ := id B
      obtain ⟨Q0, Q1, -, -, -⟩ := id Q
      go_wp2_with fail
      refine ((CO).out _).mono ?_
      rintro e w2 ⟨rfl, hb⟩
      clear A0 A1 A2 A3 B0 B1 B2 B3 Q0 Q1
      have A := A.keep hb
      have B := B.keep hb
      have Q := Q.keep hb
      have G := G.below hb
      have HB := Lib.hid (bstep HB.out hb)
      clear hb
      obtain ⟨A0, A1, A2, A3, -, -, -, -, -⟩ := id A
      obtain ⟨B0, B1, B2, B3, -, -, -, -, -⟩ := id B
      obtain ⟨Q0, Q1, -, -, -⟩ := id Q
      clear A0 A1 A2 A3 B0 B1 B2 B3 Q0 Q1
      have A := A.alloc (.cells #[.int .i64 x, .int .i64 x, .int .i64 y, .int .i64 y] 25)
      have B := B.alloc (.cells #[.int .i64 x, .int .i64 x, .int .i64 y, .int .i64 y] 25)
      have Q := Q.alloc (.cells #[.int .i64 x, .int .i64 x, .int .i64 y, .int .i64 y] 25)
      have G := G.below (below1 w2 (.cells #[.int .i64 x, .int .i64 x, .int .i64 y, .int .i64 y] 25))
      have S := At4.new w2 (.int .i64 x) (.int .i64 x) (.int .i64 y) (.int .i64 y) 25
      have HB := Lib.hid (bstep HB.out (below1 w2 (.cells #[.int .i64 x, .int .i64 x, .int .i64 y, .int .i64 y] 25)))
      obtain ⟨A0, A1, A2, A3, -, -, -, -, -⟩ := id A
      obtain ⟨B0, B1, B2, B3, -, -, -, -, -⟩ := id B
      obtain ⟨Q0, Q1, -, -, -⟩ := id Q
      obtain ⟨S0, S1, S2, S3, -, -, -, -, -⟩ := id S
      go_wp2_with fail
      refine ((CC).out _ G.all).mono ?_
      rintro e w3 ⟨rfl, hb⟩
      clear A0 A1 A2 A3 B0 B1 B2 B3 Q0 Q1 S0 S1 S2 S3
      have A := A.keep hb
      have B := B.keep hb
      have Q := Q.keep hb
      have S := S.keep hb
      have G := G.below hb
      have HB := Lib.hid (bstep HB.out hb)
      clear hb
      obtain ⟨A0, A1, A2, A3, -, -, -, -, -⟩ := id A
      obtain ⟨B0, B1, B2, B3, -, -, -, -, -⟩ := id B
      obtain ⟨Q0, Q1, -, -, -⟩ := id Q
      obtain ⟨S0, S1, S2, S3, -, -, -, -, -⟩ := id S
      go_upto_region 5 with fail
      clear A0 A1 A2 A3 B0 B1 B2 B3 Q0 Q1 S0 S1 S2 S3
      obtain ⟨A0, A1, A2, A3⟩ := A.bel
      obtain ⟨B0, B1, B2, B3⟩ := B.bel
      obtain ⟨Q0, Q1⟩ := Q.bel
      obtain ⟨S0, S1, S2, S3⟩ := S.bel
      have Gb := Lib.hid G
      refine wp_region_bel (by kernel_rfl) (by kernel_rfl) ?_
      repeat (go_big_quiet_step (first
        | (go_at_call 11; with_reducible refine bel_of (V1.out _ (Gb.out.below (Bel.h _)).all))
        | (go_at_call 12; with_reducible refine bel_of (V2.out _))
        | (go_at_call 13; with_reducible refine bel_of (P1.out _))
        | (go_at_call 14; with_reducible refine bel_of (P2.out _))
        | (go_at_call 15; with_reducible refine bel_of (I1.out _ (Gb.out.below (Bel.h _)).all))
        | (go_at_call 16; with_reducible refine bel_of (I2.out _))))
      refine wpQuiet_nil ?_
      intro _ hw'
      obtain ⟨pq, hw''⟩ := hw'
      subst hw''
      have G := G.below pq.h
      have HB := Lib.hid (bstep HB.out pq.h)
      have A := A.keep pq.h
      have B := B.keep pq.h
      have Q := Q.keep pq.h
      have S := S.keep pq.h
      clear A0 A1 A2 A3 B0 B1 B2 B3 Q0 Q1 S0 S1 S2 S3 Gb
      obtain ⟨A0, A1, A2, A3, -, -, -, -, -⟩ := id A
      obtain ⟨B0, B1, B2, B3, -, -, -, -, -⟩ := id B
      obtain ⟨Q0, Q1, -, -, -⟩ := id Q
      obtain ⟨S0, S1, S2, S3, -, -, -, -, -⟩ := id S
      go_wp2_with fail
      refine ((P2).out _).mono ?_
      rintro e w4 ⟨rfl, hb⟩
      clear A0 A1 A2 A3 B0 B1 B2 B3 Q0 Q1 S0 S1 S2 S3
      have A := A.keep hb
      have B := B.keep hb
      have Q := Q.keep hb
      have S := S.keep hb
      have G := G.below hb
      have HB := Lib.hid (bstep HB.out hb)
      clear hb
      obtain ⟨A0, A1, A2, A3, -, -, -, -, -⟩ := id A
      obtain ⟨B0, B1, B2, B3, -, -, -, -, -⟩ := id B
      obtain ⟨Q0, Q1, -, -, -⟩ := id Q
      obtain ⟨S0, S1, S2, S3, -, -, -, -, -⟩ := id S
      go_wp2_with fail
      refine ((V2).out _).mono ?_
      rintro e w5 ⟨rfl, hb⟩
      clear A0 A1 A2 A3 B0 B1 B2 B3 Q0 Q1 S0 S1 S2 S3
      have A := A.keep hb
      have B := B.keep hb
      have Q := Q.keep hb
      have S := S.keep hb
      have G := G.below hb
      have HB := Lib.hid (bstep HB.out hb)
      clear hb
      obtain ⟨A0, A1, A2, A3, -, -, -, -, -⟩ := id A
      obtain ⟨B0, B1, B2, B3, -, -, -, -, -⟩ := id B
      obtain ⟨Q0, Q1, -, -, -⟩ := id Q
      obtain ⟨S0, S1, S2, S3, -, -, -, -, -⟩ := id S
      go_wp2_with fail
      refine ((R1).out _).mono ?_
      rintro e w6 ⟨rfl, hb⟩
      clear A0 A1 A2 A3 B0 B1 B2 B3 Q0 Q1 S0 S1 S2 S3
      have A := A.keep hb
      have B := B.keep hb
      have Q := Q.keep hb
      have S := S.keep hb
      have G := G.below hb
      have HB := Lib.hid (bstep HB.out hb)
      clear hb
      obtain ⟨A0, A1, A2, A3, -, -, -, -, -⟩ := id A
      obtain ⟨B0, B1, B2, B3, -, -, -, -, -⟩ := id B
      obtain ⟨Q0, Q1, -, -, -⟩ := id Q
      obtain ⟨S0, S1, S2, S3, -, -, -, -, -⟩ := id S
      go_wp2_with fail
      go_ret
      exact ⟨by first | rfl | exact ret_bool (by simp), HB.out⟩
end Go.Proofs.YtgcoddjjkcdfmaaDoor
