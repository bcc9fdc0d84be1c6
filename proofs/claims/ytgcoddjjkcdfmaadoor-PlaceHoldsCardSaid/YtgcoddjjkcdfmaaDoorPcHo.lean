/- Place: PlaceHolds: the walk. -/
import Derived.Test.YtgcoddjjkcdfmaaDoorPcX
namespace Go.Proofs.YtgcoddjjkcdfmaaDoor
open Go.RowKit
set_option linter.unusedVariables false
set_option maxRecDepth 100000

set_option maxHeartbeats 4000000 in
theorem holds_bad (a b c d e f g h x y : Int) (w : World) (H : Pc8 w) (hv : (plOk a b c d && plOk e f g h) = false) :
    Calls Tryd.prog 6 #[.agg #[.int .i64 a, .int .i64 b, .int .i64 c, .int .i64 d], .agg #[.int .i64 e, .int .i64 f, .int .i64 g, .int .i64 h], .agg #[.int .i64 x, .int .i64 y]] w fun r w' => r = .returned (.bool true) ∧ Below w.heap.size w w' := by
  have CW := Lib.hid (fun wx (Hx : Pc8 wx) => awake8 wx Hx)
  have CH := Lib.hid (fun wx (Hx : HasAll wx) => pPlHull a b c d e f g h wx Hx)
  have CK := Lib.hid (fun wx (Hx : HasAll wx) => toldV (hull_swap a b c d e f g h) (pPlHull e f g h a b c d wx Hx))
  have CM := Lib.hid (fun wx (Hx : HasAll wx) => toldV (mt_bad hv) (pPlMeet a b c d e f g h wx Hx))
  have CN := Lib.hid (fun wx (Hx : HasAll wx) => toldV ((mt_swap a b c d e f g h).trans (mt_bad hv)) (pPlMeet e f g h a b c d wx Hx))
  have V1 := Lib.hid (fun wx (Hx : HasAll wx) => pPlValid a b c d wx Hx)
  have V2 := Lib.hid (fun wx (Hx : HasAll wx) => pPlValid e f g h wx Hx)
  rw [hv, if_neg (by decide)] at CH CK
  unfold vPE at CH CK
  have A := ((At4.new w (.int .i64 a) (.int .i64 b) (.int .i64 c) (.int .i64 d) 25).alloc (.cells #[.int .i64 e, .int .i64 f, .int .i64 g, .int .i64 h] 25)).alloc (.cells #[.int .i64 x, .int .i64 y] 27)
  have B := (At4.new (w.alloc (.cells #[.int .i64 a, .int .i64 b, .int .i64 c, .int .i64 d] 25)) (.int .i64 e) (.int .i64 f) (.int .i64 g) (.int .i64 h) 25).alloc (.cells #[.int .i64 x, .int .i64 y] 27)
  have Q := At2.new ((w.alloc (.cells #[.int .i64 a, .int .i64 b, .int .i64 c, .int .i64 d] 25)).alloc (.cells #[.int .i64 e, .int .i64 f, .int .i64 g, .int .i64 h] 25)) (.int .i64 x) (.int .i64 y) 27
  have HB := Lib.hid (below3 w (.cells #[.int .i64 a, .int .i64 b, .int .i64 c, .int .i64 d] 25) (.cells #[.int .i64 e, .int .i64 f, .int .i64 g, .int .i64 h] 25) (.cells #[.int .i64 x, .int .i64 y] 27))
  simp at B Q
  have G := H.below HB.out
  obtain ⟨A0, A1, A2, A3, -, -, -, -, -⟩ := id A
  obtain ⟨B0, B1, B2, B3, -, -, -, -, -⟩ := id B
  obtain ⟨Q0, Q1, -, -, -⟩ := id Q
  cases h1 : plOk a b c d
  · rw [h1] at V1
    clear hv h1
    go_enter Tryd.func6, Tryd.ntmps6
    go_wp2_with fail
    refine ((CW).out _ G).mono ?_
    rintro e w1 ⟨rfl, hb⟩
    clear A0 A1 A2 A3 B0 B1 B2 B3 Q0 Q1
    have A := A.keep hb
    have B := B.keep hb
    have Q := Q.keep hb
    have G := G.below hb
    have HB := Lib.hid (bstep HB.out hb)
    clear hb
    obtain ⟨A0, A1, A2, A3, -, -, -, -, -⟩ := id A
    obtain ⟨B0, B1, B2, B3, -, -, -, -, -⟩ := id B
    obtain ⟨Q0, Q1, -, -, -⟩ := id Q
    go_wp2_with fail
    refine ((CH).out _ G.all).mono ?_
    rintro e w2 ⟨rfl, hb⟩
    clear A0 A1 A2 A3 B0 B1 B2 B3 Q0 Q1
    have A := A.keep hb
    have B := B.keep hb
    have Q := Q.keep hb
    have G := G.below hb
    have HB := Lib.hid (bstep HB.out hb)
    clear hb
    obtain ⟨A0, A1, A2, A3, -, -, -, -, -⟩ := id A
    obtain ⟨B0, B1, B2, B3, -, -, -, -, -⟩ := id B
    obtain ⟨Q0, Q1, -, -, -⟩ := id Q
    clear A0 A1 A2 A3 B0 B1 B2 B3 Q0 Q1
    have A := A.alloc (.cells #[.int .i64 0, .int .i64 0, .int .i64 0, .int .i64 0] 25)
    have B := B.alloc (.cells #[.int .i64 0, .int .i64 0, .int .i64 0, .int .i64 0] 25)
    have Q := Q.alloc (.cells #[.int .i64 0, .int .i64 0, .int .i64 0, .int .i64 0] 25)
    have G := G.below (below1 w2 (.cells #[.int .i64 0, .int .i64 0, .int .i64 0, .int .i64 0] 25))
    have S := At4.new w2 (.int .i64 0) (.int .i64 0) (.int .i64 0) (.int .i64 0) 25
    have HB := Lib.hid (bstep HB.out (below1 w2 (.cells #[.int .i64 0, .int .i64 0, .int .i64 0, .int .i64 0] 25)))
    obtain ⟨A0, A1, A2, A3, -, -, -, -, -⟩ := id A
    obtain ⟨B0, B1, B2, B3, -, -, -, -, -⟩ := id B
    obtain ⟨Q0, Q1, -, -, -⟩ := id Q
    obtain ⟨S0, S1, S2, S3, -, -, -, -, -⟩ := id S
    go_wp2_with fail
    refine ((CK).out _ G.all).mono ?_
    rintro e w3 ⟨rfl, hb⟩
    clear A0 A1 A2 A3 B0 B1 B2 B3 Q0 Q1 S0 S1 S2 S3
    have A := A.keep hb
    have B := B.keep hb
    have Q := Q.keep hb
    have S := S.keep hb
    have G := G.below hb
    have HB := Lib.hid (bstep HB.out hb)
    clear hb
    obtain ⟨A0, A1, A2, A3, -, -, -, -, -⟩ := id A
    obtain ⟨B0, B1, B2, B3, -, -, -, -, -⟩ := id B
    obtain ⟨Q0, Q1, -, -, -⟩ := id Q
    obtain ⟨S0, S1, S2, S3, -, -, -, -, -⟩ := id S
    clear A0 A1 A2 A3 B0 B1 B2 B3 Q0 Q1 S0 S1 S2 S3
    have A := A.alloc (.cells #[.int .i64 0, .int .i64 0, .int .i64 0, .int .i64 0] 25)
    have B := B.alloc (.cells #[.int .i64 0, .int .i64 0, .int .i64 0, .int .i64 0] 25)
    have Q := Q.alloc (.cells #[.int .i64 0, .int .i64 0, .int .i64 0, .int .i64 0] 25)
    have S := S.alloc (.cells #[.int .i64 0, .int .i64 0, .int .i64 0, .int .i64 0] 25)
    have G := G.below (below1 w3 (.cells #[.int .i64 0, .int .i64 0, .int .i64 0, .int .i64 0] 25))
    have K := At4.new w3 (.int .i64 0) (.int .i64 0) (.int .i64 0) (.int .i64 0) 25
    have HB := Lib.hid (bstep HB.out (below1 w3 (.cells #[.int .i64 0, .int .i64 0, .int .i64 0, .int .i64 0] 25)))
    obtain ⟨A0, A1, A2, A3, -, -, -, -, -⟩ := id A
    obtain ⟨B0, B1, B2, B3, -, -, -, -, -⟩ := id B
    obtain ⟨Q0, Q1, -, -, -⟩ := id Q
    obtain ⟨S0, S1, S2, S3, -, -, -, -, -⟩ := id S
    obtain ⟨K0, K1, K2, K3, -, -, -, -, -⟩ := id K
    go_wp2_with fail
    refine ((CM).out _ G.all).mono ?_
    rintro e w4 ⟨rfl, hb⟩
    clear A0 A1 A2 A3 B0 B1 B2 B3 Q0 Q1 S0 S1 S2 S3 K0 K1 K2 K3
    have A := A.keep hb
    have B := B.keep hb
    have Q := Q.keep hb
    have S := S.keep hb
    have K := K.keep hb
    have G := G.below hb
    have HB := Lib.hid (bstep HB.out hb)
    clear hb
    obtain ⟨A0, A1, A2, A3, -, -, -, -, -⟩ := id A
    obtain ⟨B0, B1, B2, B3, -, -, -, -, -⟩ := id B
    obtain ⟨Q0, Q1, -, -, -⟩ := id Q
    obtain ⟨S0, S1, S2, S3, -, -, -, -, -⟩ := id S
    obtain ⟨K0, K1, K2, K3, -, -, -, -, -⟩ := id K
    clear A0 A1 A2 A3 B0 B1 B2 B3 Q0 Q1 S0 S1 S2 S3 K0 K1 K2 K3
    have A := A.alloc (.cells #[.int .i64 0, .int .i64 0, .int .i64 0, .int .i64 0] 25)
    have B := B.alloc (.cells #[.int .i64 0, .int .i64 0, .int .i64 0, .int .i64 0] 25)
    have Q := Q.alloc (.cells #[.int .i64 0, .int .i64 0, .int .i64 0, .int .i64 0] 25)
    have S := S.alloc (.cells #[.int .i64 0, .int .i64 0, .int .i64 0, .int .i64 0] 25)
    have K := K.alloc (.cells #[.int .i64 0, .int .i64 0, .int .i64 0, .int .i64 0] 25)
    have G := G.below (below1 w4 (.cells #[.int .i64 0, .int .i64 0, .int .i64 0, .int .i64 0] 25))
    have M := At4.new w4 (.int .i64 0) (.int .i64 0) (.int .i64 0) (.int .i64 0) 25
    have HB := Lib.hid (bstep HB.out (below1 w4 (.cells #[.int .i64 0, .int .i64 0, .int .i64 0, .int .i64 0] 25)))
    obtain ⟨A0, A1, A2, A3, -, -, -, -, -⟩ := id A
    obtain ⟨B0, B1, B2, B3, -, -, -, -, -⟩ := id B
    obtain ⟨Q0, Q1, -, -, -⟩ := id Q
    obtain ⟨S0, S1, S2, S3, -, -, -, -, -⟩ := id S
    obtain ⟨K0, K1, K2, K3, -, -, -, -, -⟩ := id K
    obtain ⟨M0, M1, M2, M3, -, -, -, -, -⟩ := id M
    go_wp2_with fail
    refine ((CN).out _ G.all).mono ?_
    rintro e w5 ⟨rfl, hb⟩
    clear A0 A1 A2 A3 B0 B1 B2 B3 Q0 Q1 S0 S1 S2 S3 K0 K1 K2 K3 M0 M1 M2 M3
    have A := A.keep hb
    have B := B.keep hb
    have Q := Q.keep hb
    have S := S.keep hb
    have K := K.keep hb
    have M := M.keep hb
    have G := G.below hb
    have HB := Lib.hid (bstep HB.out hb)
    clear hb
    obtain ⟨A0, A1, A2, A3, -, -, -, -, -⟩ := id A
    obtain ⟨B0, B1, B2, B3, -, -, -, -, -⟩ := id B
    obtain ⟨Q0, Q1, -, -, -⟩ := id Q
    obtain ⟨S0, S1, S2, S3, -, -, -, -, -⟩ := id S
    obtain ⟨K0, K1, K2, K3, -, -, -, -, -⟩ := id K
    obtain ⟨M0, M1, M2, M3, -, -, -, -, -⟩ := id M
    clear A0 A1 A2 A3 B0 B1 B2 B3 Q0 Q1 S0 S1 S2 S3 K0 K1 K2 K3 M0 M1 M2 M3
    have A := A.alloc (.cells #[.int .i64 0, .int .i64 0, .int .i64 0, .int .i64 0] 25)
    have B := B.alloc (.cells #[.int .i64 0, .int .i64 0, .int .i64 0, .int .i64 0] 25)
    have Q := Q.alloc (.cells #[.int .i64 0, .int .i64 0, .int .i64 0, .int .i64 0] 25)
    have S := S.alloc (.cells #[.int .i64 0, .int .i64 0, .int .i64 0, .int .i64 0] 25)
    have K := K.alloc (.cells #[.int .i64 0, .int .i64 0, .int .i64 0, .int .i64 0] 25)
    have M := M.alloc (.cells #[.int .i64 0, .int .i64 0, .int .i64 0, .int .i64 0] 25)
    have G := G.below (below1 w5 (.cells #[.int .i64 0, .int .i64 0, .int .i64 0, .int .i64 0] 25))
    have N := At4.new w5 (.int .i64 0) (.int .i64 0) (.int .i64 0) (.int .i64 0) 25
    have HB := Lib.hid (bstep HB.out (below1 w5 (.cells #[.int .i64 0, .int .i64 0, .int .i64 0, .int .i64 0] 25)))
    obtain ⟨A0, A1, A2, A3, -, -, -, -, -⟩ := id A
    obtain ⟨B0, B1, B2, B3, -, -, -, -, -⟩ := id B
    obtain ⟨Q0, Q1, -, -, -⟩ := id Q
    obtain ⟨S0, S1, S2, S3, -, -, -, -, -⟩ := id S
    obtain ⟨K0, K1, K2, K3, -, -, -, -, -⟩ := id K
    obtain ⟨M0, M1, M2, M3, -, -, -, -, -⟩ := id M
    obtain ⟨N0, N1, N2, N3, -, -, -, -, -⟩ := id N
    go_wp2_with fail
    refine ((V1).out _ G.all).mono ?_
    rintro e w6 ⟨rfl, hb⟩
    clear A0 A1 A2 A3 B0 B1 B2 B3 Q0 Q1 S0 S1 S2 S3 K0 K1 K2 K3 M0 M1 M2 M3 N0 N1 N2 N3
    have A := A.keep hb
    have B := B.keep hb
    have Q := Q.keep hb
    have S := S.keep hb
    have K := K.keep hb
    have M := M.keep hb
    have N := N.keep hb
    have G := G.below hb
    have HB := Lib.hid (bstep HB.out hb)
    clear hb
    obtain ⟨A0, A1, A2, A3, -, -, -, -, -⟩ := id A
    obtain ⟨B0, B1, B2, B3, -, -, -, -, -⟩ := id B
    obtain ⟨Q0, Q1, -, -, -⟩ := id Q
    obtain ⟨S0, S1, S2, S3, -, -, -, -, -⟩ := id S
    obtain ⟨K0, K1, K2, K3, -, -, -, -, -⟩ := id K
    obtain ⟨M0, M1, M2, M3, -, -, -, -, -⟩ := id M
    obtain ⟨N0, N1, N2, N3, -, -, -, -, -⟩ := id N
    go_wp2_with fail
    go_ret
    exact ⟨by first | rfl | exact ret_bool (by simp), HB.out⟩
  · have h2 : plOk e f g h = false := by rw [h1] at hv; simpa using hv
    rw [h1] at V1
    rw [h2] at V2
    clear hv h1 h2
    go_enter Tryd.func6, Tryd.ntmps6
    go_wp2_with fail
    refine ((CW).out _ G).mono ?_
    rintro e w1 ⟨rfl, hb⟩
    clear A0 A1 A2 A3 B0 B1 B2 B3 Q0 Q1
    have A := A.keep hb
    have B := B.keep hb
    have Q := Q.keep hb
    have G := G.below hb
    have HB := Lib.hid (bstep HB.out hb)
    clear hb
    obtain ⟨A0, A1, A2, A3, -, -, -, -, -⟩ := id A
    obtain ⟨B0, B1, B2, B3, -, -, -, -, -⟩ := id B
    obtain ⟨Q0, Q1, -, -, -⟩ := id Q
    go_wp2_with fail
    refine ((CH).out _ G.all).mono ?_
    rintro e w2 ⟨rfl, hb⟩
    clear A0 A1 A2 A3 B0 B1 B2 B3 Q0 Q1
    have A := A.keep hb
    have B := B.keep hb
    have Q := Q.keep hb
    have G := G.below hb
    have HB := Lib.hid (bstep HB.out hb)
    clear hb
    obtain ⟨A0, A1, A2, A3, -, -, -, -, -⟩ := id A
    obtain ⟨B0, B1, B2, B3, -, -, -, -, -⟩ := id B
    obtain ⟨Q0, Q1, -, -, -⟩ := id Q
    clear A0 A1 A2 A3 B0 B1 B2 B3 Q0 Q1
    have A := A.alloc (.cells #[.int .i64 0, .int .i64 0, .int .i64 0, .int .i64 0] 25)
    have B := B.alloc (.cells #[.int .i64 0, .int .i64 0, .int .i64 0, .int .i64 0] 25)
    have Q := Q.alloc (.cells #[.int .i64 0, .int .i64 0, .int .i64 0, .int .i64 0] 25)
    have G := G.below (below1 w2 (.cells #[.int .i64 0, .int .i64 0, .int .i64 0, .int .i64 0] 25))
    have S := At4.new w2 (.int .i64 0) (.int .i64 0) (.int .i64 0) (.int .i64 0) 25
    have HB := Lib.hid (bstep HB.out (below1 w2 (.cells #[.int .i64 0, .int .i64 0, .int .i64 0, .int .i64 0] 25)))
    obtain ⟨A0, A1, A2, A3, -, -, -, -, -⟩ := id A
    obtain ⟨B0, B1, B2, B3, -, -, -, -, -⟩ := id B
    obtain ⟨Q0, Q1, -, -, -⟩ := id Q
    obtain ⟨S0, S1, S2, S3, -, -, -, -, -⟩ := id S
    go_wp2_with fail
    refine ((CK).out _ G.all).mono ?_
    rintro e w3 ⟨rfl, hb⟩
    clear A0 A1 A2 A3 B0 B1 B2 B3 Q0 Q1 S0 S1 S2 S3
    have A := A.keep hb
    have B := B.keep hb
    have Q := Q.keep hb
    have S := S.keep hb
    have G := G.below hb
    have HB := Lib.hid (bstep HB.out hb)
    clear hb
    obtain ⟨A0, A1, A2, A3, -, -, -, -, -⟩ := id A
    obtain ⟨B0, B1, B2, B3, -, -, -, -, -⟩ := id B
    obtain ⟨Q0, Q1, -, -, -⟩ := id Q
    obtain ⟨S0, S1, S2, S3, -, -, -, -, -⟩ := id S
    clear A0 A1 A2 A3 B0 B1 B2 B3 Q0 Q1 S0 S1 S2 S3
    have A := A.alloc (.cells #[.int .i64 0, .int .i64 0, .int .i64 0, .int .i64 0] 25)
    have B := B.alloc (.cells #[.int .i64 0, .int .i64 0, .int .i64 0, .int .i64 0] 25)
    have Q := Q.alloc (.cells #[.int .i64 0, .int .i64 0, .int .i64 0, .int .i64 0] 25)
    have S := S.alloc (.cells #[.int .i64 0, .int .i64 0, .int .i64 0, .int .i64 0] 25)
    have G := G.below (below1 w3 (.cells #[.int .i64 0, .int .i64 0, .int .i64 0, .int .i64 0] 25))
    have K := At4.new w3 (.int .i64 0) (.int .i64 0) (.int .i64 0) (.int .i64 0) 25
    have HB := Lib.hid (bstep HB.out (below1 w3 (.cells #[.int .i64 0, .int .i64 0, .int .i64 0, .int .i64 0] 25)))
    obtain ⟨A0, A1, A2, A3, -, -, -, -, -⟩ := id A
    obtain ⟨B0, B1, B2, B3, -, -, -, -, -⟩ := id B
    obtain ⟨Q0, Q1, -, -, -⟩ := id Q
    obtain ⟨S0, S1, S2, S3, -, -, -, -, -⟩ := id S
    obtain ⟨K0, K1, K2, K3, -, -, -, -, -⟩ := id K
    go_wp2_with fail
    refine ((CM).out _ G.all).mono ?_
    rintro e w4 ⟨rfl, hb⟩
    clear A0 A1 A2 A3 B0 B1 B2 B3 Q0 Q1 S0 S1 S2 S3 K0 K1 K2 K3
    have A := A.keep hb
    have B := B.keep hb
    have Q := Q.keep hb
    have S := S.keep hb
    have K := K.keep hb
    have G := G.below hb
    have HB := Lib.hid (bstep HB.out hb)
    clear hb
    obtain ⟨A0, A1, A2, A3, -, -, -, -, -⟩ := id A
    obtain ⟨B0, B1, B2, B3, -, -, -, -, -⟩ := id B
    obtain ⟨Q0, Q1, -, -, -⟩ := id Q
    obtain ⟨S0, S1, S2, S3, -, -, -, -, -⟩ := id S
    obtain ⟨K0, K1, K2, K3, -, -, -, -, -⟩ := id K
    clear A0 A1 A2 A3 B0 B1 B2 B3 Q0 Q1 S0 S1 S2 S3 K0 K1 K2 K3
    have A := A.alloc (.cells #[.int .i64 0, .int .i64 0, .int .i64 0, .int .i64 0] 25)
    have B := B.alloc (.cells #[.int .i64 0, .int .i64 0, .int .i64 0, .int .i64 0] 25)
    have Q := Q.alloc (.cells #[.int .i64 0, .int .i64 0, .int .i64 0, .int .i64 0] 25)
    have S := S.alloc (.cells #[.int .i64 0, .int .i64 0, .int .i64 0, .int .i64 0] 25)
    have K := K.alloc (.cells #[.int .i64 0, .int .i64 0, .int .i64 0, .int .i64 0] 25)
    have G := G.below (below1 w4 (.cells #[.int .i64 0, .int .i64 0, .int .i64 0, .int .i64 0] 25))
    have M := At4.new w4 (.int .i64 0) (.int .i64 0) (.int .i64 0) (.int .i64 0) 25
    have HB := Lib.hid (bstep HB.out (below1 w4 (.cells #[.int .i64 0, .int .i64 0, .int .i64 0, .int .i64 0] 25)))
    obtain ⟨A0, A1, A2, A3, -, -, -, -, -⟩ := id A
    obtain ⟨B0, B1, B2, B3, -, -, -, -, -⟩ := id B
    obtain ⟨Q0, Q1, -, -, -⟩ := id Q
    obtain ⟨S0, S1, S2, S3, -, -, -, -, -⟩ := id S
    obtain ⟨K0, K1, K2, K3, -, -, -, -, -⟩ := id K
    obtain ⟨M0, M1, M2, M3, -, -, -, -, -⟩ := id M
    go_wp2_with fail
    refine ((CN).out _ G.all).mono ?_
    rintro e w5 ⟨rfl, hb⟩
    clear A0 A1 A2 A3 B0 B1 B2 B3 Q0 Q1 S0 S1 S2 S3 K0 K1 K2 K3 M0 M1 M2 M3
    have A := A.keep hb
    have B := B.keep hb
    have Q := Q.keep hb
    have S := S.keep hb
    have K := K.keep hb
    have M := M.keep hb
    have G := G.below hb
    have HB := Lib.hid (bstep HB.out hb)
    clear hb
    obtain ⟨A0, A1, A2, A3, -, -, -, -, -⟩ := id A
    obtain ⟨B0, B1, B2, B3, -, -, -, -, -⟩ := id B
    obtain ⟨Q0, Q1, -, -, -⟩ := id Q
    obtain ⟨S0, S1, S2, S3, -, -, -, -, -⟩ := id S
    obtain ⟨K0, K1, K2, K3, -, -, -, -, -⟩ := id K
    obtain ⟨M0, M1, M2, M3, -, -, -, -, -⟩ := id M
    clear A0 A1 A2 A3 B0 B1 B2 B3 Q0 Q1 S0 S1 S2 S3 K0 K1 K2 K3 M0 M1 M2 M3
    have A := A.alloc (.cells #[.int .i64 0, .int .i64 0, .int .i64 0, .int .i64 0] 25)
    have B := B.alloc (.cells #[.int .i64 0, .int .i64 0, .int .i64 0, .int .i64 0] 25)
    have Q := Q.alloc (.cells #[.int .i64 0, .int .i64 0, .int .i64 0, .int .i64 0] 25)
    have S := S.alloc (.cells #[.int .i64 0, .int .i64 0, .int .i64 0, .int .i64 0] 25)
    have K := K.alloc (.cells #[.int .i64 0, .int .i64 0, .int .i64 0, .int .i64 0] 25)
    have M := M.alloc (.cells #[.int .i64 0, .int .i64 0, .int .i64 0, .int .i64 0] 25)
    have G := G.below (below1 w5 (.cells #[.int .i64 0, .int .i64 0, .int .i64 0, .int .i64 0] 25))
    have N := At4.new w5 (.int .i64 0) (.int .i64 0) (.int .i64 0) (.int .i64 0) 25
    have HB := Lib.hid (bstep HB.out (below1 w5 (.cells #[.int .i64 0, .int .i64 0, .int .i64 0, .int .i64 0] 25)))
    obtain ⟨A0, A1, A2, A3, -, -, -, -, -⟩ := id A
    obtain ⟨B0, B1, B2, B3, -, -, -, -, -⟩ := id B
    obtain ⟨Q0, Q1, -, -, -⟩ := id Q
    obtain ⟨S0, S1, S2, S3, -, -, -, -, -⟩ := id S
    obtain ⟨K0, K1, K2, K3, -, -, -, -, -⟩ := id K
    obtain ⟨M0, M1, M2, M3, -, -, -, -, -⟩ := id M
    obtain ⟨N0, N1, N2, N3, -, -, -, -, -⟩ := id N
    go_wp2_with fail
    refine ((V1).out _ G.all).mono ?_
    rintro e w6 ⟨rfl, hb⟩
    clear A0 A1 A2 A3 B0 B1 B2 B3 Q0 Q1 S0 S1 S2 S3 K0 K1 K2 K3 M0 M1 M2 M3 N0 N1 N2 N3
    have A := A.keep hb
    have B := B.keep hb
    have Q := Q.keep hb
    have S := S.keep hb
    have K := K.keep hb
    have M := M.keep hb
    have N := N.keep hb
    have G := G.below hb
    have HB := Lib.hid (bstep HB.out hb)
    clear hb
    obtain ⟨A0, A1, A2, A3, -, -, -, -, -⟩ := id A
    obtain ⟨B0, B1, B2, B3, -, -, -, -, -⟩ := id B
    obtain ⟨Q0, Q1, -, -, -⟩ := id Q
    obtain ⟨S0, S1, S2, S3, -, -, -, -, -⟩ := id S
    obtain ⟨K0, K1, K2, K3, -, -, -, -, -⟩ := id K
    obtain ⟨M0, M1, M2, M3, -, -, -, -, -⟩ := id M
    obtain ⟨N0, N1, N2, N3, -, -, -, -, -⟩ := id N
    go_wp2_with fail
    refine ((V2).out _ G.all).mono ?_
    rintro e w7 ⟨rfl, hb⟩
    clear A0 A1 A2 A3 B0 B1 B2 B3 Q0 Q1 S0 S1 S2 S3 K0 K1 K2 K3 M0 M1 M2 M3 N0 N1 N2 N3
    have A := A.keep hb
    have B := B.keep hb
    have Q := Q.keep hb
    have S := S.keep hb
    have K := K.keep hb
    have M := M.keep hb
    have N := N.keep hb
    have G := G.below hb
    have HB := Lib.hid (bstep HB.out hb)
    clear hb
    obtain ⟨A0, A1, A2, A3, -, -, -, -, -⟩ := id A
    obtain ⟨B0, B1, B2, B3, -, -, -, -, -⟩ := id B
    obtain ⟨Q0, Q1, -, -, -⟩ := id Q
    obtain ⟨S0, S1, S2, S3, -, -, -, -, -⟩ := id S
    obtain ⟨K0, K1, K2, K3, -, -, -, -, -⟩ := id K
    obtain ⟨M0, M1, M2, M3, -, -, -, -, -⟩ := id M
    obtain ⟨N0, N1, N2, N3, -, -, -, -, -⟩ := id N
    go_wp2_with fail
    go_ret
    exact ⟨by first | rfl | exact ret_bool (by simp), HB.out⟩
set_option maxHeartbeats 4000000 in
theorem holds_off (a b c d e f g h x y s1 s2 s3 s4 m1 m2 m3 m4 me ce : Int) (cx cy cz : Bool) (w : World) (H : Pc8 w) (hce : ce = 1)
    (CW : Hid (∀ wx, Pc8 wx → Calls Tryd.prog 8 #[] wx fun e w' => e = .returned (.bool true) ∧ Below wx.heap.size wx w'))
    (CH : Hid (∀ wx, HasAll wx → Calls Tryd.prog 18 #[.agg #[.int .i64 a, .int .i64 b, .int .i64 c, .int .i64 d], .agg #[.int .i64 e, .int .i64 f, .int .i64 g, .int .i64 h]] wx fun e w' => e = .returned (.tuple #[.agg #[.int .i64 s1, .int .i64 s2, .int .i64 s3, .int .i64 s4], .int .i64 0]) ∧ Below wx.heap.size wx w'))
    (CK : Hid (∀ wx, HasAll wx → Calls Tryd.prog 18 #[.agg #[.int .i64 e, .int .i64 f, .int .i64 g, .int .i64 h], .agg #[.int .i64 a, .int .i64 b, .int .i64 c, .int .i64 d]] wx fun e w' => e = .returned (.tuple #[.agg #[.int .i64 s1, .int .i64 s2, .int .i64 s3, .int .i64 s4], .int .i64 0]) ∧ Below wx.heap.size wx w'))
    (CM : Hid (∀ wx, HasAll wx → Calls Tryd.prog 19 #[.agg #[.int .i64 a, .int .i64 b, .int .i64 c, .int .i64 d], .agg #[.int .i64 e, .int .i64 f, .int .i64 g, .int .i64 h]] wx fun e w' => e = .returned (.tuple #[.agg #[.int .i64 m1, .int .i64 m2, .int .i64 m3, .int .i64 m4], .int .i64 me]) ∧ Below wx.heap.size wx w'))
    (CN : Hid (∀ wx, HasAll wx → Calls Tryd.prog 19 #[.agg #[.int .i64 e, .int .i64 f, .int .i64 g, .int .i64 h], .agg #[.int .i64 a, .int .i64 b, .int .i64 c, .int .i64 d]] wx fun e w' => e = .returned (.tuple #[.agg #[.int .i64 m1, .int .i64 m2, .int .i64 m3, .int .i64 m4], .int .i64 me]) ∧ Below wx.heap.size wx w'))
    (VS : Hid (∀ wx, HasAll wx → Calls Tryd.prog 11 #[.agg #[.int .i64 s1, .int .i64 s2, .int .i64 s3, .int .i64 s4]] wx fun e w' => e = .returned (.bool true) ∧ Below wx.heap.size wx w'))
    (I1 : Hid (∀ wx, HasAll wx → Calls Tryd.prog 15 #[.agg #[.int .i64 a, .int .i64 b, .int .i64 c, .int .i64 d], .agg #[.int .i64 s1, .int .i64 s2, .int .i64 s3, .int .i64 s4]] wx fun e w' => e = .returned (.bool true) ∧ Below wx.heap.size wx w'))
    (I2 : Hid (∀ wx, HasAll wx → Calls Tryd.prog 15 #[.agg #[.int .i64 e, .int .i64 f, .int .i64 g, .int .i64 h], .agg #[.int .i64 s1, .int .i64 s2, .int .i64 s3, .int .i64 s4]] wx fun e w' => e = .returned (.bool true) ∧ Below wx.heap.size wx w'))
    (C1 : Hid (∀ wx, HasAll wx → Calls Tryd.prog 10 #[.agg #[.int .i64 a, .int .i64 b, .int .i64 c, .int .i64 d], .agg #[.int .i64 x, .int .i64 y]] wx fun e w' => e = .returned (.tuple #[.bool cx, .int .i64 ce]) ∧ Below wx.heap.size wx w'))
    (C2 : Hid (∀ wx, HasAll wx → Calls Tryd.prog 10 #[.agg #[.int .i64 e, .int .i64 f, .int .i64 g, .int .i64 h], .agg #[.int .i64 x, .int .i64 y]] wx fun e w' => e = .returned (.tuple #[.bool cy, .int .i64 ce]) ∧ Below wx.heap.size wx w'))
    (C3 : Hid (∀ wx, HasAll wx → Calls Tryd.prog 10 #[.agg #[.int .i64 s1, .int .i64 s2, .int .i64 s3, .int .i64 s4], .agg #[.int .i64 x, .int .i64 y]] wx fun e w' => e = .returned (.tuple #[.bool cz, .int .i64 ce]) ∧ Below wx.heap.size wx w'))
    (CP : Hid (∀ wx, Calls Tryd.prog 13 #[.agg #[.int .i64 x, .int .i64 y]] wx fun e w' => e = .returned (.bool false) ∧ Below wx.heap.size wx w')) :
    Calls Tryd.prog 6 #[.agg #[.int .i64 a, .int .i64 b, .int .i64 c, .int .i64 d], .agg #[.int .i64 e, .int .i64 f, .int .i64 g, .int .i64 h], .agg #[.int .i64 x, .int .i64 y]] w fun r w' => r = .returned (.bool true) ∧ Below w.heap.size w w' := by
  subst hce
  have A := ((At4.new w (.int .i64 a) (.int .i64 b) (.int .i64 c) (.int .i64 d) 25).alloc (.cells #[.int .i64 e, .int .i64 f, .int .i64 g, .int .i64 h] 25)).alloc (.cells #[.int .i64 x, .int .i64 y] 27)
  have B := (At4.new (w.alloc (.cells #[.int .i64 a, .int .i64 b, .int .i64 c, .int .i64 d] 25)) (.int .i64 e) (.int .i64 f) (.int .i64 g) (.int .i64 h) 25).alloc (.cells #[.int .i64 x, .int .i64 y] 27)
  have Q := At2.new ((w.alloc (.cells #[.int .i64 a, .int .i64 b, .int .i64 c, .int .i64 d] 25)).alloc (.cells #[.int .i64 e, .int .i64 f, .int .i64 g, .int .i64 h] 25)) (.int .i64 x) (.int .i64 y) 27
  have HB := Lib.hid (below3 w (.cells #[.int .i64 a, .int .i64 b, .int .i64 c, .int .i64 d] 25) (.cells #[.int .i64 e, .int .i64 f, .int .i64 g, .int .i64 h] 25) (.cells #[.int .i64 x, .int .i64 y] 27))
  simp at B Q
  have G := H.below HB.out
  obtain ⟨A0, A1, A2, A3, -, -, -, -, -⟩ := id A
  obtain ⟨B0, B1, B2, B3, -, -, -, -, -⟩ := id B
  obtain ⟨Q0, Q1, -, -, -⟩ := id Q
  go_enter Tryd.func6, Tryd.ntmps6
  go_wp2_with fail
  refine ((CW).out _ G).mono ?_
  rintro e w1 ⟨rfl, hb⟩
  clear A0 A1 A2 A3 B0 B1 B2 B3 Q0 Q1
  have A := A.keep hb
  have B := B.keep hb
  have Q := Q.keep hb
  have G := G.below hb
  have HB := Lib.hid (bstep HB.out hb)
  clear hb
  obtain ⟨A0, A1, A2, A3, -, -, -, -, -⟩ := id A
  obtain ⟨B0, B1, B2, B3, -, -, -, -, -⟩ := id B
  obtain ⟨Q0, Q1, -, -, -⟩ := id Q
  go_wp2_with fail
  refine ((CH).out _ G.all).mono ?_
  rintro e w2 ⟨rfl, hb⟩
  clear A0 A1 A2 A3 B0 B1 B2 B3 Q0 Q1
  have A := A.keep hb
  have B := B.keep hb
  have Q := Q.keep hb
  have G := G.below hb
  have HB := Lib.hid (bstep HB.out hb)
  clear hb
  obtain ⟨A0, A1, A2, A3, -, -, -, -, -⟩ := id A
  obtain ⟨B0, B1, B2, B3, -, -, -, -, -⟩ := id B
  obtain ⟨Q0, Q1, -, -, -⟩ := id Q
  clear A0 A1 A2 A3 B0 B1 B2 B3 Q0 Q1
  have A := A.alloc (.cells #[.int .i64 s1, .int .i64 s2, .int .i64 s3, .int .i64 s4] 25)
  have B := B.alloc (.cells #[.int .i64 s1, .int .i64 s2, .int .i64 s3, .int .i64 s4] 25)
  have Q := Q.alloc (.cells #[.int .i64 s1, .int .i64 s2, .int .i64 s3, .int .i64 s4] 25)
  have G := G.below (below1 w2 (.cells #[.int .i64 s1, .int .i64 s2, .int .i64 s3, .int .i64 s4] 25))
  have S := At4.new w2 (.int .i64 s1) (.int .i64 s2) (.int .i64 s3) (.int .i64 s4) 25
  have HB := Lib.hid (bstep HB.out (below1 w2 (.cells #[.int .i64 s1, .int .i64 s2, .int .i64 s3, .int .i64 s4] 25)))
  obtain ⟨A0, A1, A2, A3, -, -, -, -, -⟩ := id A
  obtain ⟨B0, B1, B2, B3, -, -, -, -, -⟩ := id B
  obtain ⟨Q0, Q1, -, -, -⟩ := id Q
  obtain ⟨S0, S1, S2, S3, -, -, -, -, -⟩ := id S
  go_wp2_with fail
  refine ((CK).out _ G.all).mono ?_
  rintro e w3 ⟨rfl, hb⟩
  clear A0 A1 A2 A3 B0 B1 B2 B3 Q0 Q1 S0 S1 S2 S3
  have A := A.keep hb
  have B := B.keep hb
  have Q := Q.keep hb
  have S := S.keep hb
  have G := G.below hb
  have HB := Lib.hid (bstep HB.out hb)
  clear hb
  obtain ⟨A0, A1, A2, A3, -, -, -, -, -⟩ := id A
  obtain ⟨B0, B1, B2, B3, -, -, -, -, -⟩ := id B
  obtain ⟨Q0, Q1, -, -, -⟩ := id Q
  obtain ⟨S0, S1, S2, S3, -, -, -, -, -⟩ := id S
  clear A0 A1 A2 A3 B0 B1 B2 B3 Q0 Q1 S0 S1 S2 S3
  have A := A.alloc (.cells #[.int .i64 s1, .int .i64 s2, .int .i64 s3, .int .i64 s4] 25)
  have B := B.alloc (.cells #[.int .i64 s1, .int .i64 s2, .int .i64 s3, .int .i64 s4] 25)
  have Q := Q.alloc (.cells #[.int .i64 s1, .int .i64 s2, .int .i64 s3, .int .i64 s4] 25)
  have S := S.alloc (.cells #[.int .i64 s1, .int .i64 s2, .int .i64 s3, .int .i64 s4] 25)
  have G := G.below (below1 w3 (.cells #[.int .i64 s1, .int .i64 s2, .int .i64 s3, .int .i64 s4] 25))
  have K := At4.new w3 (.int .i64 s1) (.int .i64 s2) (.int .i64 s3) (.int .i64 s4) 25
  have HB := Lib.hid (bstep HB.out (below1 w3 (.cells #[.int .i64 s1, .int .i64 s2, .int .i64 s3, .int .i64 s4] 25)))
  obtain ⟨A0, A1, A2, A3, -, -, -, -, -⟩ := id A
  obtain ⟨B0, B1, B2, B3, -, -, -, -, -⟩ := id B
  obtain ⟨Q0, Q1, -, -, -⟩ := id Q
  obtain ⟨S0, S1, S2, S3, -, -, -, -, -⟩ := id S
  obtain ⟨K0, K1, K2, K3, -, -, -, -, -⟩ := id K
  go_wp2_with fail
  refine ((CM).out _ G.all).mono ?_
  rintro e w4 ⟨rfl, hb⟩
  clear A0 A1 A2 A3 B0 B1 B2 B3 Q0 Q1 S0 S1 S2 S3 K0 K1 K2 K3
  have A := A.keep hb
  have B := B.keep hb
  have Q := Q.keep hb
  have S := S.keep hb
  have K := K.keep hb
  have G := G.below hb
  have HB := Lib.hid (bstep HB.out hb)
  clear hb
  obtain ⟨A0, A1, A2, A3, -, -, -, -, -⟩ := id A
  obtain ⟨B0, B1, B2, B3, -, -, -, -, -⟩ := id B
  obtain ⟨Q0, Q1, -, -, -⟩ := id Q
  obtain ⟨S0, S1, S2, S3, -, -, -, -, -⟩ := id S
  obtain ⟨K0, K1, K2, K3, -, -, -, -, -⟩ := id K
  clear A0 A1 A2 A3 B0 B1 B2 B3 Q0 Q1 S0 S1 S2 S3 K0 K1 K2 K3
  have A := A.alloc (.cells #[.int .i64 m1, .int .i64 m2, .int .i64 m3, .int .i64 m4] 25)
  have B := B.alloc (.cells #[.int .i64 m1, .int .i64 m2, .int .i64 m3, .int .i64 m4] 25)
  have Q := Q.alloc (.cells #[.int .i64 m1, .int .i64 m2, .int .i64 m3, .int .i64 m4] 25)
  have S := S.alloc (.cells #[.int .i64 m1, .int .i64 m2, .int .i64 m3, .int .i64 m4] 25)
  have K := K.alloc (.cells #[.int .i64 m1, .int .i64 m2, .int .i64 m3, .int .i64 m4] 25)
  have G := G.below (below1 w4 (.cells #[.int .i64 m1, .int .i64 m2, .int .i64 m3, .int .i64 m4] 25))
  have M := At4.new w4 (.int .i64 m1) (.int .i64 m2) (.int .i64 m3) (.int .i64 m4) 25
  have HB := Lib.hid (bstep HB.out (below1 w4 (.cells #[.int .i64 m1, .int .i64 m2, .int .i64 m3, .int .i64 m4] 25)))
  obtain ⟨A0, A1, A2, A3, -, -, -, -, -⟩ := id A
  obtain ⟨B0, B1, B2, B3, -, -, -, -, -⟩ := id B
  obtain ⟨Q0, Q1, -, -, -⟩ := id Q
  obtain ⟨S0, S1, S2, S3, -, -, -, -, -⟩ := id S
  obtain ⟨K0, K1, K2, K3, -, -, -, -, -⟩ := id K
  obtain ⟨M0, M1, M2, M3, -, -, -, -, -⟩ := id M
  go_wp2_with fail
  refine ((CN).out _ G.all).mono ?_
  rintro e w5 ⟨rfl, hb⟩
  clear A0 A1 A2 A3 B0 B1 B2 B3 Q0 Q1 S0 S1 S2 S3 K0 K1 K2 K3 M0 M1 M2 M3
  have A := A.keep hb
  have B := B.keep hb
  have Q := Q.keep hb
  have S := S.keep hb
  have K := K.keep hb
  have M := M.keep hb
  have G := G.below hb
  have HB := Lib.hid (bstep HB.out hb)
  clear hb
  obtain ⟨A0, A1, A2, A3, -, -, -, -, -⟩ := id A
  obtain ⟨B0, B1, B2, B3, -, -, -, -, -⟩ := id B
  obtain ⟨Q0, Q1, -, -, -⟩ := id Q
  obtain ⟨S0, S1, S2, S3, -, -, -, -, -⟩ := id S
  obtain ⟨K0, K1, K2, K3, -, -, -, -, -⟩ := id K
  obtain ⟨M0, M1, M2, M3, -, -, -, -, -⟩ := id M
  clear A0 A1 A2 A3 B0 B1 B2 B3 Q0 Q1 S0 S1 S2 S3 K0 K1 K2 K3 M0 M1 M2 M3
  have A := A.alloc (.cells #[.int .i64 m1, .int .i64 m2, .int .i64 m3, .int .i64 m4] 25)
  have B := B.alloc (.cells #[.int .i64 m1, .int .i64 m2, .int .i64 m3, .int .i64 m4] 25)
  have Q := Q.alloc (.cells #[.int .i64 m1, .int .i64 m2, .int .i64 m3, .int .i64 m4] 25)
  have S := S.alloc (.cells #[.int .i64 m1, .int .i64 m2, .int .i64 m3, .int .i64 m4] 25)
  have K := K.alloc (.cells #[.int .i64 m1, .int .i64 m2, .int .i64 m3, .int .i64 m4] 25)
  have M := M.alloc (.cells #[.int .i64 m1, .int .i64 m2, .int .i64 m3, .int .i64 m4] 25)
  have G := G.below (below1 w5 (.cells #[.int .i64 m1, .int .i64 m2, .int .i64 m3, .int .i64 m4] 25))
  have N := At4.new w5 (.int .i64 m1) (.int .i64 m2) (.int .i64 m3) (.int .i64 m4) 25
  have HB := Lib.hid (bstep HB.out (below1 w5 (.cells #[.int .i64 m1, .int .i64 m2, .int .i64 m3, .int .i64 m4] 25)))
  obtain ⟨A0, A1, A2, A3, -, -, -, -, -⟩ := id A
  obtain ⟨B0, B1, B2, B3, -, -, -, -, -⟩ := id B
  obtain ⟨Q0, Q1, -, -, -⟩ := id Q
  obtain ⟨S0, S1, S2, S3, -, -, -, -, -⟩ := id S
  obtain ⟨K0, K1, K2, K3, -, -, -, -, -⟩ := id K
  obtain ⟨M0, M1, M2, M3, -, -, -, -, -⟩ := id M
  obtain ⟨N0, N1, N2, N3, -, -, -, -, -⟩ := id N
  go_wp2_with fail
  refine ((VS).out _ G.all).mono ?_
  rintro e w6 ⟨rfl, hb⟩
  clear A0 A1 A2 A3 B0 B1 B2 B3 Q0 Q1 S0 S1 S2 S3 K0 K1 K2 K3 M0 M1 M2 M3 N0 N1 N2 N3
  have A := A.keep hb
  have B := B.keep hb
  have Q := Q.keep hb
  have S := S.keep hb
  have K := K.keep hb
  have M := M.keep hb
  have N := N.keep hb
  have G := G.below hb
  have HB := Lib.hid (bstep HB.out hb)
  clear hb
  obtain ⟨A0, A1, A2, A3, -, -, -, -, -⟩ := id A
  obtain ⟨B0, B1, B2, B3, -, -, -, -, -⟩ := id B
  obtain ⟨Q0, Q1, -, -, -⟩ := id Q
  obtain ⟨S0, S1, S2, S3, -, -, -, -, -⟩ := id S
  obtain ⟨K0, K1, K2, K3, -, -, -, -, -⟩ := id K
  obtain ⟨M0, M1, M2, M3, -, -, -, -, -⟩ := id M
  obtain ⟨N0, N1, N2, N3, -, -, -, -, -⟩ := id N
  go_wp2_with fail
  refine ((I1).out _ G.all).mono ?_
  rintro e w7 ⟨rfl, hb⟩
  clear A0 A1 A2 A3 B0 B1 B2 B3 Q0 Q1 S0 S1 S2 S3 K0 K1 K2 K3 M0 M1 M2 M3 N0 N1 N2 N3
  have A := A.keep hb
  have B := B.keep hb
  have Q := Q.keep hb
  have S := S.keep hb
  have K := K.keep hb
  have M := M.keep hb
  have N := N.keep hb
  have G := G.below hb
  have HB := Lib.hid (bstep HB.out hb)
  clear hb
  obtain ⟨A0, A1, A2, A3, -, -, -, -, -⟩ := id A
  obtain ⟨B0, B1, B2, B3, -, -, -, -, -⟩ := id B
  obtain ⟨Q0, Q1, -, -, -⟩ := id Q
  obtain ⟨S0, S1, S2, S3, -, -, -, -, -⟩ := id S
  obtain ⟨K0, K1, K2, K3, -, -, -, -, -⟩ := id K
  obtain ⟨M0, M1, M2, M3, -, -, -, -, -⟩ := id M
  obtain ⟨N0, N1, N2, N3, -, -, -, -, -⟩ := id N
  go_wp2_with fail
  refine ((I2).out _ G.all).mono ?_
  rintro e w8 ⟨rfl, hb⟩
  clear A0 A1 A2 A3 B0 B1 B2 B3 Q0 Q1 S0 S1 S2 S3 K0 K1 K2 K3 M0 M1 M2 M3 N0 N1 N2 N3
  have A := A.keep hb
  have B := B.keep hb
  have Q := Q.keep hb
  have S := S.keep hb
  have K := K.keep hb
  have M := M.keep hb
  have N := N.keep hb
  have G := G.below hb
  have HB := Lib.hid (bstep HB.out hb)
  clear hb
  obtain ⟨A0, A1, A2, A3, -, -, -, -, -⟩ := id A
  obtain ⟨B0, B1, B2, B3, -, -, -, -, -⟩ := id B
  obtain ⟨Q0, Q1, -, -, -⟩ := id Q
  obtain ⟨S0, S1, S2, S3, -, -, -, -, -⟩ := id S
  obtain ⟨K0, K1, K2, K3, -, -, -, -, -⟩ := id K
  obtain ⟨M0, M1, M2, M3, -, -, -, -, -⟩ := id M
  obtain ⟨N0, N1, N2, N3, -, -, -, -, -⟩ := id N
  go_wp2_with fail
  refine ((C1).out _ G.all).mono ?_
  rintro e w9 ⟨rfl, hb⟩
  clear A0 A1 A2 A3 B0 B1 B2 B3 Q0 Q1 S0 S1 S2 S3 K0 K1 K2 K3 M0 M1 M2 M3 N0 N1 N2 N3
  have A := A.keep hb
  have B := B.keep hb
  have Q := Q.keep hb
  have S := S.keep hb
  have K := K.keep hb
  have M := M.keep hb
  have N := N.keep hb
  have G := G.below hb
  have HB := Lib.hid (bstep HB.out hb)
  clear hb
  obtain ⟨A0, A1, A2, A3, -, -, -, -, -⟩ := id A
  obtain ⟨B0, B1, B2, B3, -, -, -, -, -⟩ := id B
  obtain ⟨Q0, Q1, -, -, -⟩ := id Q
  obtain ⟨S0, S1, S2, S3, -, -, -, -, -⟩ := id S
  obtain ⟨K0, K1, K2, K3, -, -, -, -, -⟩ := id K
  obtain ⟨M0, M1, M2, M3, -, -, -, -, -⟩ := id M
  obtain ⟨N0, N1, N2, N3, -, -, -, -, -⟩ := id N
  go_wp2_with fail
  refine ((C2).out _ G.all).mono ?_
  rintro e w10 ⟨rfl, hb⟩
  clear A0 A1 A2 A3 B0 B1 B2 B3 Q0 Q1 S0 S1 S2 S3 K0 K1 K2 K3 M0 M1 M2 M3 N0 N1 N2 N3
  have A := A.keep hb
  have B := B.keep hb
  have Q := Q.keep hb
  have S := S.keep hb
  have K := K.keep hb
  have M := M.keep hb
  have N := N.keep hb
  have G := G.below hb
  have HB := Lib.hid (bstep HB.out hb)
  clear hb
  obtain ⟨A0, A1, A2, A3, -, -, -, -, -⟩ := id A
  obtain ⟨B0, B1, B2, B3, -, -, -, -, -⟩ := id B
  obtain ⟨Q0, Q1, -, -, -⟩ := id Q
  obtain ⟨S0, S1, S2, S3, -, -, -, -, -⟩ := id S
  obtain ⟨K0, K1, K2, K3, -, -, -, -, -⟩ := id K
  obtain ⟨M0, M1, M2, M3, -, -, -, -, -⟩ := id M
  obtain ⟨N0, N1, N2, N3, -, -, -, -, -⟩ := id N
  go_wp2_with fail
  refine ((C3).out _ G.all).mono ?_
  rintro e w11 ⟨rfl, hb⟩
  clear A0 A1 A2 A3 B0 B1 B2 B3 Q0 Q1 S0 S1 S2 S3 K0 K1 K2 K3 M0 M1 M2 M3 N0 N1 N2 N3
  have A := A.keep hb
  have B := B.keep hb
  have Q := Q.keep hb
  have S := S.keep hb
  have K := K.keep hb
  have M := M.keep hb
  have N := N.keep hb
  have G := G.below hb
  have HB := Lib.hid (bstep HB.out hb)
  clear hb
  obtain ⟨A0, A1, A2, A3, -, -, -, -, -⟩ := id A
  obtain ⟨B0, B1, B2, B3, -, -, -, -, -⟩ := id B
  obtain ⟨Q0, Q1, -, -, -⟩ := id Q
  obtain ⟨S0, S1, S2, S3, -, -, -, -, -⟩ := id S
  obtain ⟨K0, K1, K2, K3, -, -, -, -, -⟩ := id K
  obtain ⟨M0, M1, M2, M3, -, -, -, -, -⟩ := id M
  obtain ⟨N0, N1, N2, N3, -, -, -, -, -⟩ := id N
  go_wp2_with fail
  refine ((CP).out _).mono ?_
  rintro e w12 ⟨rfl, hb⟩
  clear A0 A1 A2 A3 B0 B1 B2 B3 Q0 Q1 S0 S1 S2 S3 K0 K1 K2 K3 M0 M1 M2 M3 N0 N1 N2 N3
  have A := A.keep hb
  have B := B.keep hb
  have Q := Q.keep hb
  have S := S.keep hb
  have K := K.keep hb
  have M := M.keep hb
  have N := N.keep hb
  have G := G.below hb
  have HB := Lib.hid (bstep HB.out hb)
  clear hb
  obtain ⟨A0, A1, A2, A3, -, -, -, -, -⟩ := id A
  obtain ⟨B0, B1, B2, B3, -, -, -, -, -⟩ := id B
  obtain ⟨Q0, Q1, -, -, -⟩ := id Q
  obtain ⟨S0, S1, S2, S3, -, -, -, -, -⟩ := id S
  obtain ⟨K0, K1, K2, K3, -, -, -, -, -⟩ := id K
  obtain ⟨M0, M1, M2, M3, -, -, -, -, -⟩ := id M
  obtain ⟨N0, N1, N2, N3, -, -, -, -, -⟩ := id N
  go_wp2_with fail
  go_ret
  exact ⟨by first | rfl | exact ret_bool (by simp), HB.out⟩
set_option maxHeartbeats 16000000 in
theorem holds_on (a b c d e f g h x y s1 s2 s3 s4 m1 m2 m3 m4 me ce : Int) (cx cy cz : Bool) (w : World) (H : Pc8 w) (cw pl : Bool) (hce : ce = 0)
    (CW : Hid (∀ wx, Pc8 wx → Calls Tryd.prog 8 #[] wx fun e w' => e = .returned (.bool true) ∧ Below wx.heap.size wx w'))
    (CH : Hid (∀ wx, HasAll wx → Calls Tryd.prog 18 #[.agg #[.int .i64 a, .int .i64 b, .int .i64 c, .int .i64 d], .agg #[.int .i64 e, .int .i64 f, .int .i64 g, .int .i64 h]] wx fun e w' => e = .returned (.tuple #[.agg #[.int .i64 s1, .int .i64 s2, .int .i64 s3, .int .i64 s4], .int .i64 0]) ∧ Below wx.heap.size wx w'))
    (CK : Hid (∀ wx, HasAll wx → Calls Tryd.prog 18 #[.agg #[.int .i64 e, .int .i64 f, .int .i64 g, .int .i64 h], .agg #[.int .i64 a, .int .i64 b, .int .i64 c, .int .i64 d]] wx fun e w' => e = .returned (.tuple #[.agg #[.int .i64 s1, .int .i64 s2, .int .i64 s3, .int .i64 s4], .int .i64 0]) ∧ Below wx.heap.size wx w'))
    (CM : Hid (∀ wx, HasAll wx → Calls Tryd.prog 19 #[.agg #[.int .i64 a, .int .i64 b, .int .i64 c, .int .i64 d], .agg #[.int .i64 e, .int .i64 f, .int .i64 g, .int .i64 h]] wx fun e w' => e = .returned (.tuple #[.agg #[.int .i64 m1, .int .i64 m2, .int .i64 m3, .int .i64 m4], .int .i64 me]) ∧ Below wx.heap.size wx w'))
    (CN : Hid (∀ wx, HasAll wx → Calls Tryd.prog 19 #[.agg #[.int .i64 e, .int .i64 f, .int .i64 g, .int .i64 h], .agg #[.int .i64 a, .int .i64 b, .int .i64 c, .int .i64 d]] wx fun e w' => e = .returned (.tuple #[.agg #[.int .i64 m1, .int .i64 m2, .int .i64 m3, .int .i64 m4], .int .i64 me]) ∧ Below wx.heap.size wx w'))
    (VS : Hid (∀ wx, HasAll wx → Calls Tryd.prog 11 #[.agg #[.int .i64 s1, .int .i64 s2, .int .i64 s3, .int .i64 s4]] wx fun e w' => e = .returned (.bool true) ∧ Below wx.heap.size wx w'))
    (I1 : Hid (∀ wx, HasAll wx → Calls Tryd.prog 15 #[.agg #[.int .i64 a, .int .i64 b, .int .i64 c, .int .i64 d], .agg #[.int .i64 s1, .int .i64 s2, .int .i64 s3, .int .i64 s4]] wx fun e w' => e = .returned (.bool true) ∧ Below wx.heap.size wx w'))
    (I2 : Hid (∀ wx, HasAll wx → Calls Tryd.prog 15 #[.agg #[.int .i64 e, .int .i64 f, .int .i64 g, .int .i64 h], .agg #[.int .i64 s1, .int .i64 s2, .int .i64 s3, .int .i64 s4]] wx fun e w' => e = .returned (.bool true) ∧ Below wx.heap.size wx w'))
    (C1 : Hid (∀ wx, HasAll wx → Calls Tryd.prog 10 #[.agg #[.int .i64 a, .int .i64 b, .int .i64 c, .int .i64 d], .agg #[.int .i64 x, .int .i64 y]] wx fun e w' => e = .returned (.tuple #[.bool cx, .int .i64 ce]) ∧ Below wx.heap.size wx w'))
    (C2 : Hid (∀ wx, HasAll wx → Calls Tryd.prog 10 #[.agg #[.int .i64 e, .int .i64 f, .int .i64 g, .int .i64 h], .agg #[.int .i64 x, .int .i64 y]] wx fun e w' => e = .returned (.tuple #[.bool cy, .int .i64 ce]) ∧ Below wx.heap.size wx w'))
    (C3 : Hid (∀ wx, HasAll wx → Calls Tryd.prog 10 #[.agg #[.int .i64 s1, .int .i64 s2, .int .i64 s3, .int .i64 s4], .agg #[.int .i64 x, .int .i64 y]] wx fun e w' => e = .returned (.tuple #[.bool cz, .int .i64 ce]) ∧ Below wx.heap.size wx w'))
    (C4 : Hid (me = 0 → ∀ wx, HasAll wx → Calls Tryd.prog 10 #[.agg #[.int .i64 m1, .int .i64 m2, .int .i64 m3, .int .i64 m4], .agg #[.int .i64 x, .int .i64 y]] wx fun e w' => e = .returned (.tuple #[.bool cw, .int .i64 0]) ∧ Below wx.heap.size wx w'))
    (VM : Hid (me = 0 → ∀ wx, HasAll wx → Calls Tryd.prog 11 #[.agg #[.int .i64 m1, .int .i64 m2, .int .i64 m3, .int .i64 m4]] wx fun e w' => e = .returned (.bool true) ∧ Below wx.heap.size wx w'))
    (hpl : (x = 5400000 ∧ pl = true) ∨ (x = -5400000 ∧ pl = true) ∨ (x ≠ 5400000 ∧ x ≠ -5400000 ∧ pl = false))
    (F1 : Hid (cx = true ∨ cy = true → cz = true))
    (F2 : (me = 23 ∧ Hid (pl = true ∨ cx = false ∨ cy = false)) ∨ (me = 0 ∧ Hid (pl = true ∨ cx = false ∨ cy = false ∨ cw = true))) :
    Calls Tryd.prog 6 #[.agg #[.int .i64 a, .int .i64 b, .int .i64 c, .int .i64 d], .agg #[.int .i64 e, .int .i64 f, .int .i64 g, .int .i64 h], .agg #[.int .i64 x, .int .i64 y]] w fun r w' => r = .returned (.bool true) ∧ Below w.heap.size w w' := by
  subst hce
  have A := ((At4.new w (.int .i64 a) (.int .i64 b) (.int .i64 c) (.int .i64 d) 25).alloc (.cells #[.int .i64 e, .int .i64 f, .int .i64 g, .int .i64 h] 25)).alloc (.cells #[.int .i64 x, .int .i64 y] 27)
  have B := (At4.new (w.alloc (.cells #[.int .i64 a, .int .i64 b, .int .i64 c, .int .i64 d] 25)) (.int .i64 e) (.int .i64 f) (.int .i64 g) (.int .i64 h) 25).alloc (.cells #[.int .i64 x, .int .i64 y] 27)
  have Q := At2.new ((w.alloc (.cells #[.int .i64 a, .int .i64 b, .int .i64 c, .int .i64 d] 25)).alloc (.cells #[.int .i64 e, .int .i64 f, .int .i64 g, .int .i64 h] 25)) (.int .i64 x) (.int .i64 y) 27
  have HB := Lib.hid (below3 w (.cells #[.int .i64 a, .int .i64 b, .int .i64 c, .int .i64 d] 25) (.cells #[.int .i64 e, .int .i64 f, .int .i64 g, .int .i64 h] 25) (.cells #[.int .i64 x, .int .i64 y] 27))
  simp at B Q
  have G := H.below HB.out
  obtain ⟨A0, A1, A2, A3, -, -, -, -, -⟩ := id A
  obtain ⟨B0, B1, B2, B3, -, -, -, -, -⟩ := id B
  obtain ⟨Q0, Q1, -, -, -⟩ := id Q
  go_enter Tryd.func6, Tryd.ntmps6
  go_wp2_with fail
  refine ((CW).out _ G).mono ?_
  rintro e w1 ⟨rfl, hb⟩
  clear A0 A1 A2 A3 B0 B1 B2 B3 Q0 Q1
  have A := A.keep hb
  have B := B.keep hb
  have Q := Q.keep hb
  have G := G.below hb
  have HB := Lib.hid (bstep HB.out hb)
  clear hb
  obtain ⟨A0, A1, A2, A3, -, -, -, -, -⟩ := id A
  obtain ⟨B0, B1, B2, B3, -, -, -, -, -⟩ := id B
  obtain ⟨Q0, Q1, -, -, -⟩ := id Q
  go_wp2_with fail
  refine ((CH).out _ G.all).mono ?_
  rintro e w2 ⟨rfl, hb⟩
  clear A0 A1 A2 A3 B0 B1 B2 B3 Q0 Q1
  have A := A.keep hb
  have B := B.keep hb
  have Q := Q.keep hb
  have G := G.below hb
  have HB := Lib.hid (bstep HB.out hb)
  clear hb
  obtain ⟨A0, A1, A2, A3, -, -, -, -, -⟩ := id A
  obtain ⟨B0, B1, B2, B3, -, -, -, -, -⟩ := id B
  obtain ⟨Q0, Q1, -, -, -⟩ := id Q
  clear A0 A1 A2 A3 B0 B1 B2 B3 Q0 Q1
  have A := A.alloc (.cells #[.int .i64 s1, .int .i64 s2, .int .i64 s3, .int .i64 s4] 25)
  have B := B.alloc (.cells #[.int .i64 s1, .int .i64 s2, .int .i64 s3, .int .i64 s4] 25)
  have Q := Q.alloc (.cells #[.int .i64 s1, .int .i64 s2, .int .i64 s3, .int .i64 s4] 25)
  have G := G.below (below1 w2 (.cells #[.int .i64 s1, .int .i64 s2, .int .i64 s3, .int .i64 s4] 25))
  have S := At4.new w2 (.int .i64 s1) (.int .i64 s2) (.int .i64 s3) (.int .i64 s4) 25
  have HB := Lib.hid (bstep HB.out (below1 w2 (.cells #[.int .i64 s1, .int .i64 s2, .int .i64 s3, .int .i64 s4] 25)))
  obtain ⟨A0, A1, A2, A3, -, -, -, -, -⟩ := id A
  obtain ⟨B0, B1, B2, B3, -, -, -, -, -⟩ := id B
  obtain ⟨Q0, Q1, -, -, -⟩ := id Q
  obtain ⟨S0, S1, S2, S3, -, -, -, -, -⟩ := id S
  go_wp2_with fail
  refine ((CK).out _ G.all).mono ?_
  rintro e w3 ⟨rfl, hb⟩
  clear A0 A1 A2 A3 B0 B1 B2 B3 Q0 Q1 S0 S1 S2 S3
  have A := A.keep hb
  have B := B.keep hb
  have Q := Q.keep hb
  have S := S.keep hb
  have G := G.below hb
  have HB := Lib.hid (bstep HB.out hb)
  clear hb
  obtain ⟨A0, A1, A2, A3, -, -, -, -, -⟩ := id A
  obtain ⟨B0, B1, B2, B3, -, -, -, -, -⟩ := id B
  obtain ⟨Q0, Q1, -, -, -⟩ := id Q
  obtain ⟨S0, S1, S2, S3, -, -, -, -, -⟩ := id S
  clear A0 A1 A2 A3 B0 B1 B2 B3 Q0 Q1 S0 S1 S2 S3
  have A := A.alloc (.cells #[.int .i64 s1, .int .i64 s2, .int .i64 s3, .int .i64 s4] 25)
  have B := B.alloc (.cells #[.int .i64 s1, .int .i64 s2, .int .i64 s3, .int .i64 s4] 25)
  have Q := Q.alloc (.cells #[.int .i64 s1, .int .i64 s2, .int .i64 s3, .int .i64 s4] 25)
  have S := S.alloc (.cells #[.int .i64 s1, .int .i64 s2, .int .i64 s3, .int .i64 s4] 25)
  have G := G.below (below1 w3 (.cells #[.int .i64 s1, .int .i64 s2, .int .i64 s3, .int .i64 s4] 25))
  have K := At4.new w3 (.int .i64 s1) (.int .i64 s2) (.int .i64 s3) (.int .i64 s4) 25
  have HB := Lib.hid (bstep HB.out (below1 w3 (.cells #[.int .i64 s1, .int .i64 s2, .int .i64 s3, .int .i64 s4] 25)))
  obtain ⟨A0, A1, A2, A3, -, -, -, -, -⟩ := id A
  obtain ⟨B0, B1, B2, B3, -, -, -, -, -⟩ := id B
  obtain ⟨Q0, Q1, -, -, -⟩ := id Q
  obtain ⟨S0, S1, S2, S3, -, -, -, -, -⟩ := id S
  obtain ⟨K0, K1, K2, K3, -, -, -, -, -⟩ := id K
  go_wp2_with fail
  refine ((CM).out _ G.all).mono ?_
  rintro e w4 ⟨rfl, hb⟩
  clear A0 A1 A2 A3 B0 B1 B2 B3 Q0 Q1 S0 S1 S2 S3 K0 K1 K2 K3
  have A := A.keep hb
  have B := B.keep hb
  have Q := Q.keep hb
  have S := S.keep hb
  have K := K.keep hb
  have G := G.below hb
  have HB := Lib.hid (bstep HB.out hb)
  clear hb
  obtain ⟨A0, A1, A2, A3, -, -, -, -, -⟩ := id A
  obtain ⟨B0, B1, B2, B3, -, -, -, -, -⟩ := id B
  obtain ⟨Q0, Q1, -, -, -⟩ := id Q
  obtain ⟨S0, S1, S2, S3, -, -, -, -, -⟩ := id S
  obtain ⟨K0, K1, K2, K3, -, -, -, -, -⟩ := id K
  clear A0 A1 A2 A3 B0 B1 B2 B3 Q0 Q1 S0 S1 S2 S3 K0 K1 K2 K3
  have A := A.alloc (.cells #[.int .i64 m1, .int .i64 m2, .int .i64 m3, .int .i64 m4] 25)
  have B := B.alloc (.cells #[.int .i64 m1, .int .i64 m2, .int .i64 m3, .int .i64 m4] 25)
  have Q := Q.alloc (.cells #[.int .i64 m1, .int .i64 m2, .int .i64 m3, .int .i64 m4] 25)
  have S := S.alloc (.cells #[.int .i64 m1, .int .i64 m2, .int .i64 m3, .int .i64 m4] 25)
  have K := K.alloc (.cells #[.int .i64 m1, .int .i64 m2, .int .i64 m3, .int .i64 m4] 25)
  have G := G.below (below1 w4 (.cells #[.int .i64 m1, .int .i64 m2, .int .i64 m3, .int .i64 m4] 25))
  have M := At4.new w4 (.int .i64 m1) (.int .i64 m2) (.int .i64 m3) (.int .i64 m4) 25
  have HB := Lib.hid (bstep HB.out (below1 w4 (.cells #[.int .i64 m1, .int .i64 m2, .int .i64 m3, .int .i64 m4] 25)))
  obtain ⟨A0, A1, A2, A3, -, -, -, -, -⟩ := id A
  obtain ⟨B0, B1, B2, B3, -, -, -, -, -⟩ := id B
  obtain ⟨Q0, Q1, -, -, -⟩ := id Q
  obtain ⟨S0, S1, S2, S3, -, -, -, -, -⟩ := id S
  obtain ⟨K0, K1, K2, K3, -, -, -, -, -⟩ := id K
  obtain ⟨M0, M1, M2, M3, -, -, -, -, -⟩ := id M
  go_wp2_with fail
  refine ((CN).out _ G.all).mono ?_
  rintro e w5 ⟨rfl, hb⟩
  clear A0 A1 A2 A3 B0 B1 B2 B3 Q0 Q1 S0 S1 S2 S3 K0 K1 K2 K3 M0 M1 M2 M3
  have A := A.keep hb
  have B := B.keep hb
  have Q := Q.keep hb
  have S := S.keep hb
  have K := K.keep hb
  have M := M.keep hb
  have G := G.below hb
  have HB := Lib.hid (bstep HB.out hb)
  clear hb
  obtain ⟨A0, A1, A2, A3, -, -, -, -, -⟩ := id A
  obtain ⟨B0, B1, B2, B3, -, -, -, -, -⟩ := id B
  obtain ⟨Q0, Q1, -, -, -⟩ := id Q
  obtain ⟨S0, S1, S2, S3, -, -, -, -, -⟩ := id S
  obtain ⟨K0, K1, K2, K3, -, -, -, -, -⟩ := id K
  obtain ⟨M0, M1, M2, M3, -, -, -, -, -⟩ := id M
  clear A0 A1 A2 A3 B0 B1 B2 B3 Q0 Q1 S0 S1 S2 S3 K0 K1 K2 K3 M0 M1 M2 M3
  have A := A.alloc (.cells #[.int .i64 m1, .int .i64 m2, .int .i64 m3, .int .i64 m4] 25)
  have B := B.alloc (.cells #[.int .i64 m1, .int .i64 m2, .int .i64 m3, .int .i64 m4] 25)
  have Q := Q.alloc (.cells #[.int .i64 m1, .int .i64 m2, .int .i64 m3, .int .i64 m4] 25)
  have S := S.alloc (.cells #[.int .i64 m1, .int .i64 m2, .int .i64 m3, .int .i64 m4] 25)
  have K := K.alloc (.cells #[.int .i64 m1, .int .i64 m2, .int .i64 m3, .int .i64 m4] 25)
  have M := M.alloc (.cells #[.int .i64 m1, .int .i64 m2, .int .i64 m3, .int .i64 m4] 25)
  have G := G.below (below1 w5 (.cells #[.int .i64 m1, .int .i64 m2, .int .i64 m3, .int .i64 m4] 25))
  have N := At4.new w5 (.int .i64 m1) (.int .i64 m2) (.int .i64 m3) (.int .i64 m4) 25
  have HB := Lib.hid (bstep HB.out (below1 w5 (.cells #[.int .i64 m1, .int .i64 m2, .int .i64 m3, .int .i64 m4] 25)))
  obtain ⟨A0, A1, A2, A3, -, -, -, -, -⟩ := id A
  obtain ⟨B0, B1, B2, B3, -, -, -, -, -⟩ := id B
  obtain ⟨Q0, Q1, -, -, -⟩ := id Q
  obtain ⟨S0, S1, S2, S3, -, -, -, -, -⟩ := id S
  obtain ⟨K0, K1, K2, K3, -, -, -, -, -⟩ := id K
  obtain ⟨M0, M1, M2, M3, -, -, -, -, -⟩ := id M
  obtain ⟨N0, N1, N2, N3, -, -, -, -, -⟩ := id N
  go_wp2_with fail
  refine ((VS).out _ G.all).mono ?_
  rintro e w6 ⟨rfl, hb⟩
  clear A0 A1 A2 A3 B0 B1 B2 B3 Q0 Q1 S0 S1 S2 S3 K0 K1 K2 K3 M0 M1 M2 M3 N0 N1 N2 N3
  have A := A.keep hb
  have B := B.keep hb
  have Q := Q.keep hb
  have S := S.keep hb
  have K := K.keep hb
  have M := M.keep hb
  have N := N.keep hb
  have G := G.below hb
  have HB := Lib.hid (bstep HB.out hb)
  clear hb
  obtain ⟨A0, A1, A2, A3, -, -, -, -, -⟩ := id A
  obtain ⟨B0, B1, B2, B3, -, -, -, -, -⟩ := id B
  obtain ⟨Q0, Q1, -, -, -⟩ := id Q
  obtain ⟨S0, S1, S2, S3, -, -, -, -, -⟩ := id S
  obtain ⟨K0, K1, K2, K3, -, -, -, -, -⟩ := id K
  obtain ⟨M0, M1, M2, M3, -, -, -, -, -⟩ := id M
  obtain ⟨N0, N1, N2, N3, -, -, -, -, -⟩ := id N
  go_wp2_with fail
  refine ((I1).out _ G.all).mono ?_
  rintro e w7 ⟨rfl, hb⟩
  clear A0 A1 A2 A3 B0 B1 B2 B3 Q0 Q1 S0 S1 S2 S3 K0 K1 K2 K3 M0 M1 M2 M3 N0 N1 N2 N3
  have A := A.keep hb
  have B := B.keep hb
  have Q := Q.keep hb
  have S := S.keep hb
  have K := K.keep hb
  have M := M.keep hb
  have N := N.keep hb
  have G := G.below hb
  have HB := Lib.hid (bstep HB.out hb)
  clear hb
  obtain ⟨A0, A1, A2, A3, -, -, -, -, -⟩ := id A
  obtain ⟨B0, B1, B2, B3, -, -, -, -, -⟩ := id B
  obtain ⟨Q0, Q1, -, -, -⟩ := id Q
  obtain ⟨S0, S1, S2, S3, -, -, -, -, -⟩ := id S
  obtain ⟨K0, K1, K2, K3, -, -, -, -, -⟩ := id K
  obtain ⟨M0, M1, M2, M3, -, -, -, -, -⟩ := id M
  obtain ⟨N0, N1, N2, N3, -, -, -, -, -⟩ := id N
  go_wp2_with fail
  refine ((I2).out _ G.all).mono ?_
  rintro e w8 ⟨rfl, hb⟩
  clear A0 A1 A2 A3 B0 B1 B2 B3 Q0 Q1 S0 S1 S2 S3 K0 K1 K2 K3 M0 M1 M2 M3 N0 N1 N2 N3
  have A := A.keep hb
  have B := B.keep hb
  have Q := Q.keep hb
  have S := S.keep hb
  have K := K.keep hb
  have M := M.keep hb
  have N := N.keep hb
  have G := G.below hb
  have HB := Lib.hid (bstep HB.out hb)
  clear hb
  obtain ⟨A0, A1, A2, A3, -, -, -, -, -⟩ := id A
  obtain ⟨B0, B1, B2, B3, -, -, -, -, -⟩ := id B
  obtain ⟨Q0, Q1, -, -, -⟩ := id Q
  obtain ⟨S0, S1, S2, S3, -, -, -, -, -⟩ := id S
  obtain ⟨K0, K1, K2, K3, -, -, -, -, -⟩ := id K
  obtain ⟨M0, M1, M2, M3, -, -, -, -, -⟩ := id M
  obtain ⟨N0, N1, N2, N3, -, -, -, -, -⟩ := id N
  go_wp2_with fail
  refine ((C1).out _ G.all).mono ?_
  rintro e w9 ⟨rfl, hb⟩
  clear A0 A1 A2 A3 B0 B1 B2 B3 Q0 Q1 S0 S1 S2 S3 K0 K1 K2 K3 M0 M1 M2 M3 N0 N1 N2 N3
  have A := A.keep hb
  have B := B.keep hb
  have Q := Q.keep hb
  have S := S.keep hb
  have K := K.keep hb
  have M := M.keep hb
  have N := N.keep hb
  have G := G.below hb
  have HB := Lib.hid (bstep HB.out hb)
  clear hb
  obtain ⟨A0, A1, A2, A3, -, -, -, -, -⟩ := id A
  obtain ⟨B0, B1, B2, B3, -, -, -, -, -⟩ := id B
  obtain ⟨Q0, Q1, -, -, -⟩ := id Q
  obtain ⟨S0, S1, S2, S3, -, -, -, -, -⟩ := id S
  obtain ⟨K0, K1, K2, K3, -, -, -, -, -⟩ := id K
  obtain ⟨M0, M1, M2, M3, -, -, -, -, -⟩ := id M
  obtain ⟨N0, N1, N2, N3, -, -, -, -, -⟩ := id N
  go_wp2_with fail
  refine ((C2).out _ G.all).mono ?_
  rintro e w10 ⟨rfl, hb⟩
  clear A0 A1 A2 A3 B0 B1 B2 B3 Q0 Q1 S0 S1 S2 S3 K0 K1 K2 K3 M0 M1 M2 M3 N0 N1 N2 N3
  have A := A.keep hb
  have B := B.keep hb
  have Q := Q.keep hb
  have S := S.keep hb
  have K := K.keep hb
  have M := M.keep hb
  have N := N.keep hb
  have G := G.below hb
  have HB := Lib.hid (bstep HB.out hb)
  clear hb
  obtain ⟨A0, A1, A2, A3, -, -, -, -, -⟩ := id A
  obtain ⟨B0, B1, B2, B3, -, -, -, -, -⟩ := id B
  obtain ⟨Q0, Q1, -, -, -⟩ := id Q
  obtain ⟨S0, S1, S2, S3, -, -, -, -, -⟩ := id S
  obtain ⟨K0, K1, K2, K3, -, -, -, -, -⟩ := id K
  obtain ⟨M0, M1, M2, M3, -, -, -, -, -⟩ := id M
  obtain ⟨N0, N1, N2, N3, -, -, -, -, -⟩ := id N
  go_wp2_with fail
  refine ((C3).out _ G.all).mono ?_
  rintro e w11 ⟨rfl, hb⟩
  clear A0 A1 A2 A3 B0 B1 B2 B3 Q0 Q1 S0 S1 S2 S3 K0 K1 K2 K3 M0 M1 M2 M3 N0 N1 N2 N3
  have A := A.keep hb
  have B := B.keep hb
  have Q := Q.keep hb
  have S := S.keep hb
  have K := K.keep hb
  have M := M.keep hb
  have N := N.keep hb
  have G := G.below hb
  have HB := Lib.hid (bstep HB.out hb)
  clear hb
  obtain ⟨A0, A1, A2, A3, -, -, -, -, -⟩ := id A
  obtain ⟨B0, B1, B2, B3, -, -, -, -, -⟩ := id B
  obtain ⟨Q0, Q1, -, -, -⟩ := id Q
  obtain ⟨S0, S1, S2, S3, -, -, -, -, -⟩ := id S
  obtain ⟨K0, K1, K2, K3, -, -, -, -, -⟩ := id K
  obtain ⟨M0, M1, M2, M3, -, -, -, -, -⟩ := id M
  obtain ⟨N0, N1, N2, N3, -, -, -, -, -⟩ := id N
  rcases hpl with ⟨hx, rfl⟩ | ⟨hx, rfl⟩ | ⟨hx, hx2, rfl⟩
  · have c1b : (x == 5400000) = true := beq_iff_eq.2 hx
    clear hx
    rcases F2 with ⟨hme, F2⟩ | ⟨hme, F2⟩
    · have hmb : (me == 0) = false := by rw [hme]; rfl
      subst hme
      cases cx <;> cases cy <;> cases cz
      all_goals (first | (exfalso; have q := F1.out; simp at q; done) | skip)
      all_goals (first | (exfalso; have q := F2.out; simp at q; done) | skip)
      all_goals
        clear F1 F2 C4 VM
        go_wp2_with fail
        go_ret
        exact ⟨by first | rfl | exact ret_bool (by simp), HB.out⟩
    · have C5 := Lib.hid (C4.out hme)
      have VN := Lib.hid (VM.out hme)
      subst hme
      clear C4 VM
      cases cx <;> cases cy <;> cases cz
      all_goals (first | (exfalso; have q := F1.out; simp at q; done) | skip)
      all_goals
        clear F1
        go_wp2_with fail
        refine ((C5).out _ G.all).mono ?_
        rintro e w12 ⟨rfl, hb⟩
        clear A0 A1 A2 A3 B0 B1 B2 B3 Q0 Q1 S0 S1 S2 S3 K0 K1 K2 K3 M0 M1 M2 M3 N0 N1 N2 N3
        have A := A.keep hb
        have B := B.keep hb
        have Q := Q.keep hb
        have S := S.keep hb
        have K := K.keep hb
        have M := M.keep hb
        have N := N.keep hb
        have G := G.below hb
        have HB := Lib.hid (bstep HB.out hb)
        clear hb
        obtain ⟨A0, A1, A2, A3, -, -, -, -, -⟩ := id A
        obtain ⟨B0, B1, B2, B3, -, -, -, -, -⟩ := id B
        obtain ⟨Q0, Q1, -, -, -⟩ := id Q
        obtain ⟨S0, S1, S2, S3, -, -, -, -, -⟩ := id S
        obtain ⟨K0, K1, K2, K3, -, -, -, -, -⟩ := id K
        obtain ⟨M0, M1, M2, M3, -, -, -, -, -⟩ := id M
        obtain ⟨N0, N1, N2, N3, -, -, -, -, -⟩ := id N
        go_wp2_with fail
        refine ((VN).out _ G.all).mono ?_
        rintro e w13 ⟨rfl, hb⟩
        clear A0 A1 A2 A3 B0 B1 B2 B3 Q0 Q1 S0 S1 S2 S3 K0 K1 K2 K3 M0 M1 M2 M3 N0 N1 N2 N3
        have A := A.keep hb
        have B := B.keep hb
        have Q := Q.keep hb
        have S := S.keep hb
        have K := K.keep hb
        have M := M.keep hb
        have N := N.keep hb
        have G := G.below hb
        have HB := Lib.hid (bstep HB.out hb)
        clear hb
        obtain ⟨A0, A1, A2, A3, -, -, -, -, -⟩ := id A
        obtain ⟨B0, B1, B2, B3, -, -, -, -, -⟩ := id B
        obtain ⟨Q0, Q1, -, -, -⟩ := id Q
        obtain ⟨S0, S1, S2, S3, -, -, -, -, -⟩ := id S
        obtain ⟨K0, K1, K2, K3, -, -, -, -, -⟩ := id K
        obtain ⟨M0, M1, M2, M3, -, -, -, -, -⟩ := id M
        obtain ⟨N0, N1, N2, N3, -, -, -, -, -⟩ := id N
        cases cw
        all_goals (first | (exfalso; have q := F2.out; simp at q; done) | skip)
        all_goals
          clear F2
          go_wp2_with fail
          go_ret
          exact ⟨by first | rfl | exact ret_bool (by simp), HB.out⟩
  · have c1b : (x == 5400000) = false := beq_eq_false_iff_ne.2 (by omega)
    have c2b : (x == -5400000) = true := beq_iff_eq.2 hx
    clear hx
    rcases F2 with ⟨hme, F2⟩ | ⟨hme, F2⟩
    · have hmb : (me == 0) = false := by rw [hme]; rfl
      subst hme
      cases cx <;> cases cy <;> cases cz
      all_goals (first | (exfalso; have q := F1.out; simp at q; done) | skip)
      all_goals (first | (exfalso; have q := F2.out; simp at q; done) | skip)
      all_goals
        clear F1 F2 C4 VM
        go_wp2_with fail
        go_ret
        exact ⟨by first | rfl | exact ret_bool (by simp), HB.out⟩
    · have C5 := Lib.hid (C4.out hme)
      have VN := Lib.hid (VM.out hme)
      subst hme
      clear C4 VM
      cases cx <;> cases cy <;> cases cz
      all_goals (first | (exfalso; have q := F1.out; simp at q; done) | skip)
      all_goals
        clear F1
        go_wp2_with fail
        refine ((C5).out _ G.all).mono ?_
        rintro e w12 ⟨rfl, hb⟩
        clear A0 A1 A2 A3 B0 B1 B2 B3 Q0 Q1 S0 S1 S2 S3 K0 K1 K2 K3 M0 M1 M2 M3 N0 N1 N2 N3
        have A := A.keep hb
        have B := B.keep hb
        have Q := Q.keep hb
        have S := S.keep hb
        have K := K.keep hb
        have M := M.keep hb
        have N := N.keep hb
        have G := G.below hb
        have HB := Lib.hid (bstep HB.out hb)
        clear hb
        obtain ⟨A0, A1, A2, A3, -, -, -, -, -⟩ := id A
        obtain ⟨B0, B1, B2, B3, -, -, -, -, -⟩ := id B
        obtain ⟨Q0, Q1, -, -, -⟩ := id Q
        obtain ⟨S0, S1, S2, S3, -, -, -, -, -⟩ := id S
        obtain ⟨K0, K1, K2, K3, -, -, -, -, -⟩ := id K
        obtain ⟨M0, M1, M2, M3, -, -, -, -, -⟩ := id M
        obtain ⟨N0, N1, N2, N3, -, -, -, -, -⟩ := id N
        go_wp2_with fail
        refine ((VN).out _ G.all).mono ?_
        rintro e w13 ⟨rfl, hb⟩
        clear A0 A1 A2 A3 B0 B1 B2 B3 Q0 Q1 S0 S1 S2 S3 K0 K1 K2 K3 M0 M1 M2 M3 N0 N1 N2 N3
        have A := A.keep hb
        have B := B.keep hb
        have Q := Q.keep hb
        have S := S.keep hb
        have K := K.keep hb
        have M := M.keep hb
        have N := N.keep hb
        have G := G.below hb
        have HB := Lib.hid (bstep HB.out hb)
        clear hb
        obtain ⟨A0, A1, A2, A3, -, -, -, -, -⟩ := id A
        obtain ⟨B0, B1, B2, B3, -, -, -, -, -⟩ := id B
        obtain ⟨Q0, Q1, -, -, -⟩ := id Q
        obtain ⟨S0, S1, S2, S3, -, -, -, -, -⟩ := id S
        obtain ⟨K0, K1, K2, K3, -, -, -, -, -⟩ := id K
        obtain ⟨M0, M1, M2, M3, -, -, -, -, -⟩ := id M
        obtain ⟨N0, N1, N2, N3, -, -, -, -, -⟩ := id N
        cases cw
        all_goals (first | (exfalso; have q := F2.out; simp at q; done) | skip)
        all_goals
          clear F2
          go_wp2_with fail
          go_ret
          exact ⟨by first | rfl | exact ret_bool (by simp), HB.out⟩
  · have c1b : (x == 5400000) = false := beq_eq_false_iff_ne.2 hx
    have c2b : (x == -5400000) = false := beq_eq_false_iff_ne.2 hx2
    clear hx hx2
    rcases F2 with ⟨hme, F2⟩ | ⟨hme, F2⟩
    · have hmb : (me == 0) = false := by rw [hme]; rfl
      subst hme
      cases cx <;> cases cy <;> cases cz
      all_goals (first | (exfalso; have q := F1.out; simp at q; done) | skip)
      all_goals (first | (exfalso; have q := F2.out; simp at q; done) | skip)
      all_goals
        clear F1 F2 C4 VM
        go_wp2_with fail
        go_ret
        exact ⟨by first | rfl | exact ret_bool (by simp), HB.out⟩
    · have C5 := Lib.hid (C4.out hme)
      have VN := Lib.hid (VM.out hme)
      subst hme
      clear C4 VM
      cases cx <;> cases cy <;> cases cz
      all_goals (first | (exfalso; have q := F1.out; simp at q; done) | skip)
      all_goals
        clear F1
        go_wp2_with fail
        refine ((C5).out _ G.all).mono ?_
        rintro e w12 ⟨rfl, hb⟩
        clear A0 A1 A2 A3 B0 B1 B2 B3 Q0 Q1 S0 S1 S2 S3 K0 K1 K2 K3 M0 M1 M2 M3 N0 N1 N2 N3
        have A := A.keep hb
        have B := B.keep hb
        have Q := Q.keep hb
        have S := S.keep hb
        have K := K.keep hb
        have M := M.keep hb
        have N := N.keep hb
        have G := G.below hb
        have HB := Lib.hid (bstep HB.out hb)
        clear hb
        obtain ⟨A0, A1, A2, A3, -, -, -, -, -⟩ := id A
        obtain ⟨B0, B1, B2, B3, -, -, -, -, -⟩ := id B
        obtain ⟨Q0, Q1, -, -, -⟩ := id Q
        obtain ⟨S0, S1, S2, S3, -, -, -, -, -⟩ := id S
        obtain ⟨K0, K1, K2, K3, -, -, -, -, -⟩ := id K
        obtain ⟨M0, M1, M2, M3, -, -, -, -, -⟩ := id M
        obtain ⟨N0, N1, N2, N3, -, -, -, -, -⟩ := id N
        go_wp2_with fail
        refine ((VN).out _ G.all).mono ?_
        rintro e w13 ⟨rfl, hb⟩
        clear A0 A1 A2 A3 B0 B1 B2 B3 Q0 Q1 S0 S1 S2 S3 K0 K1 K2 K3 M0 M1 M2 M3 N0 N1 N2 N3
        have A := A.keep hb
        have B := B.keep hb
        have Q := Q.keep hb
        have S := S.keep hb
        have K := K.keep hb
        have M := M.keep hb
        have N := N.keep hb
        have G := G.below hb
        have HB := Lib.hid (bstep HB.out hb)
        clear hb
        obtain ⟨A0, A1, A2, A3, -, -, -, -, -⟩ := id A
        obtain ⟨B0, B1, B2, B3, -, -, -, -, -⟩ := id B
        obtain ⟨Q0, Q1, -, -, -⟩ := id Q
        obtain ⟨S0, S1, S2, S3, -, -, -, -, -⟩ := id S
        obtain ⟨K0, K1, K2, K3, -, -, -, -, -⟩ := id K
        obtain ⟨M0, M1, M2, M3, -, -, -, -, -⟩ := id M
        obtain ⟨N0, N1, N2, N3, -, -, -, -, -⟩ := id N
        cases cw
        all_goals (first | (exfalso; have q := F2.out; simp at q; done) | skip)
        all_goals
          clear F2
          go_wp2_with fail
          go_ret
          exact ⟨by first | rfl | exact ret_bool (by simp), HB.out⟩
theorem holds8 (a b c d e f g h x y : Int) (w : World) (H : Pc8 w) :
    Calls Tryd.prog 6 #[.agg #[.int .i64 a, .int .i64 b, .int .i64 c, .int .i64 d], .agg #[.int .i64 e, .int .i64 f, .int .i64 g, .int .i64 h], .agg #[.int .i64 x, .int .i64 y]] w fun r w' => r = .returned (.bool true) ∧ Below w.heap.size w w' := by
  cases hv : (plOk a b c d && plOk e f g h)
  · exact holds_bad a b c d e f g h x y w H hv
  · obtain ⟨h1, h2⟩ := Bool.and_eq_true_iff.1 hv
    obtain ⟨o1, o2, o3⟩ := hull_ok8 h1 h2
    obtain ⟨m1, m2, m3, m4, me, hm⟩ := mt_form a b c d e f g h
    have CH := Lib.hid (fun wx (Hx : HasAll wx) => pPlHull a b c d e f g h wx Hx)
    have CK := Lib.hid (fun wx (Hx : HasAll wx) => toldV (hull_swap a b c d e f g h) (pPlHull e f g h a b c d wx Hx))
    rw [hv, if_pos rfl] at CH CK
    unfold vPE at CH CK
    have CM := Lib.hid (fun wx (Hx : HasAll wx) => toldV hm (pPlMeet a b c d e f g h wx Hx))
    have CN := Lib.hid (fun wx (Hx : HasAll wx) => toldV ((mt_swap a b c d e f g h).trans hm) (pPlMeet e f g h a b c d wx Hx))
    have VS := Lib.hid (fun wx (Hx : HasAll wx) => told1 true o1 (pPlValid _ _ _ _ wx Hx))
    have I1 := Lib.hid (fun wx (Hx : HasAll wx) => told1 true o2 (pPlInside _ _ _ _ _ _ _ _ wx Hx))
    have I2 := Lib.hid (fun wx (Hx : HasAll wx) => told1 true o3 (pPlInside _ _ _ _ _ _ _ _ wx Hx))
    have ce : ∀ a b c d, plOk a b c d = true → conE a b c d x y = if ptOk x y = true then 0 else 1 := by
      intro a b c d q
      unfold conE
      rw [q]; simp
    have cv : ∀ a b c d, plOk a b c d = true → conV a b c d x y = (ptOk x y && conB a b c d x y) := by
      intro a b c d q
      unfold conV
      rw [q]; cases ptOk x y <;> simp
    have C1 := Lib.hid (fun wx (Hx : HasAll wx) => toldA (cv a b c d h1) (ce a b c d h1) (pContains a b c d x y wx Hx))
    have C2 := Lib.hid (fun wx (Hx : HasAll wx) => toldA (cv e f g h h2) (ce e f g h h2) (pContains e f g h x y wx Hx))
    have C3 := Lib.hid (fun wx (Hx : HasAll wx) => toldA (cv _ _ _ _ o1) (ce _ _ _ _ o1) (pContains _ _ _ _ x y wx Hx))
    cases hp : ptOk x y
    · exact holds_off a b c d e f g h x y _ _ _ _ m1 m2 m3 m4 me _ _ _ _ w H (by rw [hp]; rfl) (Lib.hid fun wx Hx => awake8 wx Hx) CH CK CM CN VS I1 I2 C1 C2 C3 (Lib.hid fun wx => told1 false hp (pPtValid x y wx))
    · rw [hp] at C1 C2 C3
      rw [if_pos rfl] at C1 C2 C3
      simp only [Bool.true_and] at C1 C2 C3
      have F := hold2 h1 h2 hp m1 m2 m3 m4 me hm
      refine holds_on a b c d e f g h x y _ _ _ _ m1 m2 m3 m4 me 0 _ _ _ w H (conV m1 m2 m3 m4 x y) (poleB x) rfl (Lib.hid fun wx Hx => awake8 wx Hx) CH CK CM CN VS I1 I2 C1 C2 C3 (Lib.hid fun q wx Hx => ?_) (Lib.hid fun q wx Hx => ?_) ?_ (Lib.hid (hold1 h1 h2)) ?_
      · rcases F with ⟨F, -⟩ | ⟨-, -, F, -⟩
        · omega
        · exact toldA rfl F (pContains m1 m2 m3 m4 x y wx Hx)
      · rcases F with ⟨F, -⟩ | ⟨-, F, -, -⟩
        · omega
        · exact told1 true F (pPlValid m1 m2 m3 m4 wx Hx)
      · by_cases q1 : x = 5400000
        · exact .inl ⟨q1, decide_eq_true (.inr q1)⟩
        · by_cases q2 : x = -5400000
          · exact .inr (.inl ⟨q2, decide_eq_true (.inl q2)⟩)
          · exact .inr (.inr ⟨q1, q2, decide_eq_false (by omega)⟩)
      · rcases F with ⟨F, F'⟩ | ⟨F, -, -, F'⟩
        · exact .inl ⟨F, F'⟩
        · exact .inr ⟨F, F'⟩
end Go.Proofs.YtgcoddjjkcdfmaaDoor
