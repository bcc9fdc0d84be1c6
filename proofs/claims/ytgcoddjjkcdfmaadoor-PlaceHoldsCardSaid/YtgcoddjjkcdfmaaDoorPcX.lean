/- Place: PlaceBoxes and PlaceHolds: the walks. -/
import Derived.Test.YtgcoddjjkcdfmaaDoorPcW
namespace Go.Proofs.YtgcoddjjkcdfmaaDoor
open Go.RowKit
set_option linter.unusedVariables false
set_option maxRecDepth 100000

/-- the meet's answer, written out -/
theorem mt_form (a b c d e f g h : Int) : ∃ m1 m2 m3 m4 me : Int, mtV a b c d e f g h = .tuple #[.agg #[.int .i64 m1, .int .i64 m2, .int .i64 m3, .int .i64 m4], .int .i64 me] := by
  unfold mtV vPE
  split
  · exact ⟨_, _, _, _, _, rfl⟩
  · exact ⟨_, _, _, _, _, rfl⟩
theorem mt_bad {a b c d e f g h : Int} (hv : (plOk a b c d && plOk e f g h) = false) : mtV a b c d e f g h = .tuple #[.agg #[.int .i64 0, .int .i64 0, .int .i64 0, .int .i64 0], .int .i64 1] := by
  have e1 : mtE a b c d e f g h = 1 := by unfold mtE; rw [hv]; simp
  unfold mtV
  rw [e1, if_neg (by decide)]; rfl
set_option maxHeartbeats 4000000 in
theorem boxes8 (a b c d e f g h : Int) (w : World) (H : Pc8 w) :
    Calls Tryd.prog 4 #[.agg #[.int .i64 a, .int .i64 b, .int .i64 c, .int .i64 d], .agg #[.int .i64 e, .int .i64 f, .int .i64 g, .int .i64 h]] w fun r w' => r = .returned (.bool true) ∧ Below w.heap.size w w' := by
  have CW := Lib.hid (fun wx (Hx : Pc8 wx) => awake8 wx Hx)
  have CH := Lib.hid (fun wx (Hx : HasAll wx) => pPlHull a b c d e f g h wx Hx)
  have CM := Lib.hid (fun wx (Hx : HasAll wx) => pPlMeet a b c d e f g h wx Hx)
  have V1 := Lib.hid (fun wx => rpValid a b c d wx)
  have V2 := Lib.hid (fun wx => rpValid e f g h wx)
  have A := (At4.new w (.int .i64 a) (.int .i64 b) (.int .i64 c) (.int .i64 d) 25).alloc (.cells #[.int .i64 e, .int .i64 f, .int .i64 g, .int .i64 h] 25)
  have B := At4.new (w.alloc (.cells #[.int .i64 a, .int .i64 b, .int .i64 c, .int .i64 d] 25)) (.int .i64 e) (.int .i64 f) (.int .i64 g) (.int .i64 h) 25
  have HB := Lib.hid (below2 w (.cells #[.int .i64 a, .int .i64 b, .int .i64 c, .int .i64 d] 25) (.cells #[.int .i64 e, .int .i64 f, .int .i64 g, .int .i64 h] 25))
  simp at B
  have G := H.below HB.out
  obtain ⟨A0, A1, A2, A3, -, -, -, -, -⟩ := id A
  obtain ⟨B0, B1, B2, B3, -, -, -, -, -⟩ := id B
  cases h1 : plOk a b c d
  · have hv : (plOk a b c d && plOk e f g h) = false := by rw [h1]; rfl
    rw [h1] at V1
    rw [hv, if_neg (by decide)] at CH
    unfold vPE at CH
    rw [mt_bad hv] at CM
    clear hv
    go_enter Tryd.func4, Tryd.ntmps4
    go_wp2_with fail
    refine ((CW).out _ G).mono ?_
    rintro e w1 ⟨rfl, hb⟩
    clear A0 A1 A2 A3 B0 B1 B2 B3
    have A := A.keep hb
    have B := B.keep hb
    have G := G.below hb
    have HB := Lib.hid (bstep HB.out hb)
    clear hb
    obtain ⟨A0, A1, A2, A3, -, -, -, -, -⟩ := id A
    obtain ⟨B0, B1, B2, B3, -, -, -, -, -⟩ := id B
    go_wp2_with fail
    refine ((CH).out _ G.all).mono ?_
    rintro e w2 ⟨rfl, hb⟩
    clear A0 A1 A2 A3 B0 B1 B2 B3
    have A := A.keep hb
    have B := B.keep hb
    have G := G.below hb
    have HB := Lib.hid (bstep HB.out hb)
    clear hb
    obtain ⟨A0, A1, A2, A3, -, -, -, -, -⟩ := id A
    obtain ⟨B0, B1, B2, B3, -, -, -, -, -⟩ := id B
    clear A0 A1 A2 A3 B0 B1 B2 B3
    have A := A.alloc (.cells #[.int .i64 0, .int .i64 0, .int .i64 0, .int .i64 0] 25)
    have B := B.alloc (.cells #[.int .i64 0, .int .i64 0, .int .i64 0, .int .i64 0] 25)
    have G := G.below (below1 w2 (.cells #[.int .i64 0, .int .i64 0, .int .i64 0, .int .i64 0] 25))
    have S := At4.new w2 (.int .i64 0) (.int .i64 0) (.int .i64 0) (.int .i64 0) 25
    have HB := Lib.hid (bstep HB.out (below1 w2 (.cells #[.int .i64 0, .int .i64 0, .int .i64 0, .int .i64 0] 25)))
    obtain ⟨A0, A1, A2, A3, -, -, -, -, -⟩ := id A
    obtain ⟨B0, B1, B2, B3, -, -, -, -, -⟩ := id B
    obtain ⟨S0, S1, S2, S3, -, -, -, -, -⟩ := id S
    go_wp2_with fail
    refine ((CM).out _ G.all).mono ?_
    rintro e w3 ⟨rfl, hb⟩
    clear A0 A1 A2 A3 B0 B1 B2 B3 S0 S1 S2 S3
    have A := A.keep hb
    have B := B.keep hb
    have S := S.keep hb
    have G := G.below hb
    have HB := Lib.hid (bstep HB.out hb)
    clear hb
    obtain ⟨A0, A1, A2, A3, -, -, -, -, -⟩ := id A
    obtain ⟨B0, B1, B2, B3, -, -, -, -, -⟩ := id B
    obtain ⟨S0, S1, S2, S3, -, -, -, -, -⟩ := id S
    clear A0 A1 A2 A3 B0 B1 B2 B3 S0 S1 S2 S3
    have A := A.alloc (.cells #[.int .i64 0, .int .i64 0, .int .i64 0, .int .i64 0] 25)
    have B := B.alloc (.cells #[.int .i64 0, .int .i64 0, .int .i64 0, .int .i64 0] 25)
    have S := S.alloc (.cells #[.int .i64 0, .int .i64 0, .int .i64 0, .int .i64 0] 25)
    have G := G.below (below1 w3 (.cells #[.int .i64 0, .int .i64 0, .int .i64 0, .int .i64 0] 25))
    have M := At4.new w3 (.int .i64 0) (.int .i64 0) (.int .i64 0) (.int .i64 0) 25
    have HB := Lib.hid (bstep HB.out (below1 w3 (.cells #[.int .i64 0, .int .i64 0, .int .i64 0, .int .i64 0] 25)))
    obtain ⟨A0, A1, A2, A3, -, -, -, -, -⟩ := id A
    obtain ⟨B0, B1, B2, B3, -, -, -, -, -⟩ := id B
    obtain ⟨S0, S1, S2, S3, -, -, -, -, -⟩ := id S
    obtain ⟨M0, M1, M2, M3, -, -, -, -, -⟩ := id M
    go_wp2_with fail
    refine ((V1).out _).mono ?_
    rintro e w4 ⟨rfl, hb⟩
    clear A0 A1 A2 A3 B0 B1 B2 B3 S0 S1 S2 S3 M0 M1 M2 M3
    have A := A.keep hb
    have B := B.keep hb
    have S := S.keep hb
    have M := M.keep hb
    have G := G.below hb
    have HB := Lib.hid (bstep HB.out hb)
    clear hb
    obtain ⟨A0, A1, A2, A3, -, -, -, -, -⟩ := id A
    obtain ⟨B0, B1, B2, B3, -, -, -, -, -⟩ := id B
    obtain ⟨S0, S1, S2, S3, -, -, -, -, -⟩ := id S
    obtain ⟨M0, M1, M2, M3, -, -, -, -, -⟩ := id M
    go_wp2_with fail
    go_ret
    exact ⟨by first | rfl | exact ret_bool (by simp), HB.out⟩
  · cases h2 : plOk e f g h
    · have hv : (plOk a b c d && plOk e f g h) = false := by rw [h1, h2]; rfl
      rw [h1] at V1
      rw [h2] at V2
      rw [hv, if_neg (by decide)] at CH
      unfold vPE at CH
      rw [mt_bad hv] at CM
      clear hv
      go_enter Tryd.func4, Tryd.ntmps4
      go_wp2_with fail
      refine ((CW).out _ G).mono ?_
      rintro e w1 ⟨rfl, hb⟩
      clear A0 A1 A2 A3 B0 B1 B2 B3
      have A := A.keep hb
      have B := B.keep hb
      have G := G.below hb
      have HB := Lib.hid (bstep HB.out hb)
      clear hb
      obtain ⟨A0, A1, A2, A3, -, -, -, -, -⟩ := id A
      obtain ⟨B0, B1, B2, B3, -, -, -, -, -⟩ := id B
      go_wp2_with fail
      refine ((CH).out _ G.all).mono ?_
      rintro e w2 ⟨rfl, hb⟩
      clear A0 A1 A2 A3 B0 B1 B2 B3
      have A := A.keep hb
      have B := B.keep hb
      have G := G.below hb
      have HB := Lib.hid (bstep HB.out hb)
      clear hb
      obtain ⟨A0, A1, A2, A3, -, -, -, -, -⟩ := id A
      obtain ⟨B0, B1, B2, B3, -, -, -, -, -⟩ := id B
      clear A0 A1 A2 A3 B0 B1 B2 B3
      have A := A.alloc (.cells #[.int .i64 0, .int .i64 0, .int .i64 0, .int .i64 0] 25)
      have B := B.alloc (.cells #[.int .i64 0, .int .i64 0, .int .i64 0, .int .i64 0] 25)
      have G := G.below (below1 w2 (.cells #[.int .i64 0, .int .i64 0, .int .i64 0, .int .i64 0] 25))
      have S := At4.new w2 (.int .i64 0) (.int .i64 0) (.int .i64 0) (.int .i64 0) 25
      have HB := Lib.hid (bstep HB.out (below1 w2 (.cells #[.int .i64 0, .int .i64 0, .int .i64 0, .int .i64 0] 25)))
      obtain ⟨A0, A1, A2, A3, -, -, -, -, -⟩ := id A
      obtain ⟨B0, B1, B2, B3, -, -, -, -, -⟩ := id B
      obtain ⟨S0, S1, S2, S3, -, -, -, -, -⟩ := id S
      go_wp2_with fail
      refine ((CM).out _ G.all).mono ?_
      rintro e w3 ⟨rfl, hb⟩
      clear A0 A1 A2 A3 B0 B1 B2 B3 S0 S1 S2 S3
      have A := A.keep hb
      have B := B.keep hb
      have S := S.keep hb
      have G := G.below hb
      have HB := Lib.hid (bstep HB.out hb)
      clear hb
      obtain ⟨A0, A1, A2, A3, -, -, -, -, -⟩ := id A
      obtain ⟨B0, B1, B2, B3, -, -, -, -, -⟩ := id B
      obtain ⟨S0, S1, S2, S3, -, -, -, -, -⟩ := id S
      clear A0 A1 A2 A3 B0 B1 B2 B3 S0 S1 S2 S3
      have A := A.alloc (.cells #[.int .i64 0, .int .i64 0, .int .i64 0, .int .i64 0] 25)
      have B := B.alloc (.cells #[.int .i64 0, .int .i64 0, .int .i64 0, .int .i64 0] 25)
      have S := S.alloc (.cells #[.int .i64 0, .int .i64 0, .int .i64 0, .int .i64 0] 25)
      have G := G.below (below1 w3 (.cells #[.int .i64 0, .int .i64 0, .int .i64 0, .int .i64 0] 25))
      have M := At4.new w3 (.int .i64 0) (.int .i64 0) (.int .i64 0) (.int .i64 0) 25
      have HB := Lib.hid (bstep HB.out (below1 w3 (.cells #[.int .i64 0, .int .i64 0, .int .i64 0, .int .i64 0] 25)))
      obtain ⟨A0, A1, A2, A3, -, -, -, -, -⟩ := id A
      obtain ⟨B0, B1, B2, B3, -, -, -, -, -⟩ := id B
      obtain ⟨S0, S1, S2, S3, -, -, -, -, -⟩ := id S
      obtain ⟨M0, M1, M2, M3, -, -, -, -, -⟩ := id M
      go_wp2_with fail
      refine ((V1).out _).mono ?_
      rintro e w4 ⟨rfl, hb⟩
      clear A0 A1 A2 A3 B0 B1 B2 B3 S0 S1 S2 S3 M0 M1 M2 M3
      have A := A.keep hb
      have B := B.keep hb
      have S := S.keep hb
      have M := M.keep hb
      have G := G.below hb
      have HB := Lib.hid (bstep HB.out hb)
      clear hb
      obtain ⟨A0, A1, A2, A3, -, -, -, -, -⟩ := id A
      obtain ⟨B0, B1, B2, B3, -, -, -, -, -⟩ := id B
      obtain ⟨S0, S1, S2, S3, -, -, -, -, -⟩ := id S
      obtain ⟨M0, M1, M2, M3, -, -, -, -, -⟩ := id M
      go_wp2_with fail
      refine ((V2).out _).mono ?_
      rintro e w5 ⟨rfl, hb⟩
      clear A0 A1 A2 A3 B0 B1 B2 B3 S0 S1 S2 S3 M0 M1 M2 M3
      have A := A.keep hb
      have B := B.keep hb
      have S := S.keep hb
      have M := M.keep hb
      have G := G.below hb
      have HB := Lib.hid (bstep HB.out hb)
      clear hb
      obtain ⟨A0, A1, A2, A3, -, -, -, -, -⟩ := id A
      obtain ⟨B0, B1, B2, B3, -, -, -, -, -⟩ := id B
      obtain ⟨S0, S1, S2, S3, -, -, -, -, -⟩ := id S
      obtain ⟨M0, M1, M2, M3, -, -, -, -, -⟩ := id M
      go_wp2_with fail
      go_ret
      exact ⟨by first | rfl | exact ret_bool (by simp), HB.out⟩
    · have hv : (plOk a b c d && plOk e f g h) = true := by rw [h1, h2]; rfl
      rw [h1] at V1
      rw [h2] at V2
      rw [hv, if_pos rfl] at CH
      unfold vPE at CH
      have RM := Lib.hid (fun wx => rpMeet a b c d e f g h wx h1 h2)
      have RH := Lib.hid (fun wx => rpHull a b c d e f g h wx ((plOk_iff _ _ _ _).1 h1).2 ((plOk_iff _ _ _ _).1 h2).2)
      obtain ⟨m1, m2, m3, m4, me, hm⟩ := mt_form a b c d e f g h
      rw [hm] at CM RM
      clear hm hv h1 h2
      generalize min a e = s1 at *
      generalize max b f = s2 at *
      obtain ⟨s3, hs3⟩ : ∃ s, (arnd [(c, d), (g, h)]).1 = s := ⟨_, rfl⟩
      obtain ⟨s4, hs4⟩ : ∃ s, (arnd [(c, d), (g, h)]).2 = s := ⟨_, rfl⟩
      rw [hs3, hs4] at CH RH
      clear hs3 hs4
      go_enter Tryd.func4, Tryd.ntmps4
      go_wp2_with fail
      refine ((CW).out _ G).mono ?_
      rintro e w1 ⟨rfl, hb⟩
      clear A0 A1 A2 A3 B0 B1 B2 B3
      have A := A.keep hb
      have B := B.keep hb
      have G := G.below hb
      have HB := Lib.hid (bstep HB.out hb)
      clear hb
      obtain ⟨A0, A1, A2, A3, -, -, -, -, -⟩ := id A
      obtain ⟨B0, B1, B2, B3, -, -, -, -, -⟩ := id B
      go_wp2_with fail
      refine ((CH).out _ G.all).mono ?_
      rintro e w2 ⟨rfl, hb⟩
      clear A0 A1 A2 A3 B0 B1 B2 B3
      have A := A.keep hb
      have B := B.keep hb
      have G := G.below hb
      have HB := Lib.hid (bstep HB.out hb)
      clear hb
      obtain ⟨A0, A1, A2, A3, -, -, -, -, -⟩ := id A
      obtain ⟨B0, B1, B2, B3, -, -, -, -, -⟩ := id B
      clear A0 A1 A2 A3 B0 B1 B2 B3
      have A := A.alloc (.cells #[.int .i64 s1, .int .i64 s2, .int .i64 s3, .int .i64 s4] 25)
      have B := B.alloc (.cells #[.int .i64 s1, .int .i64 s2, .int .i64 s3, .int .i64 s4] 25)
      have G := G.below (below1 w2 (.cells #[.int .i64 s1, .int .i64 s2, .int .i64 s3, .int .i64 s4] 25))
      have S := At4.new w2 (.int .i64 s1) (.int .i64 s2) (.int .i64 s3) (.int .i64 s4) 25
      have HB := Lib.hid (bstep HB.out (below1 w2 (.cells #[.int .i64 s1, .int .i64 s2, .int .i64 s3, .int .i64 s4] 25)))
      obtain ⟨A0, A1, A2, A3, -, -, -, -, -⟩ := id A
      obtain ⟨B0, B1, B2, B3, -, -, -, -, -⟩ := id B
      obtain ⟨S0, S1, S2, S3, -, -, -, -, -⟩ := id S
      go_wp2_with fail
      refine ((CM).out _ G.all).mono ?_
      rintro e w3 ⟨rfl, hb⟩
      clear A0 A1 A2 A3 B0 B1 B2 B3 S0 S1 S2 S3
      have A := A.keep hb
      have B := B.keep hb
      have S := S.keep hb
      have G := G.below hb
      have HB := Lib.hid (bstep HB.out hb)
      clear hb
      obtain ⟨A0, A1, A2, A3, -, -, -, -, -⟩ := id A
      obtain ⟨B0, B1, B2, B3, -, -, -, -, -⟩ := id B
      obtain ⟨S0, S1, S2, S3, -, -, -, -, -⟩ := id S
      clear A0 A1 A2 A3 B0 B1 B2 B3 S0 S1 S2 S3
      have A := A.alloc (.cells #[.int .i64 m1, .int .i64 m2, .int .i64 m3, .int .i64 m4] 25)
      have B := B.alloc (.cells #[.int .i64 m1, .int .i64 m2, .int .i64 m3, .int .i64 m4] 25)
      have S := S.alloc (.cells #[.int .i64 m1, .int .i64 m2, .int .i64 m3, .int .i64 m4] 25)
      have G := G.below (below1 w3 (.cells #[.int .i64 m1, .int .i64 m2, .int .i64 m3, .int .i64 m4] 25))
      have M := At4.new w3 (.int .i64 m1) (.int .i64 m2) (.int .i64 m3) (.int .i64 m4) 25
      have HB := Lib.hid (bstep HB.out (below1 w3 (.cells #[.int .i64 m1, .int .i64 m2, .int .i64 m3, .int .i64 m4] 25)))
      obtain ⟨A0, A1, A2, A3, -, -, -, -, -⟩ := id A
      obtain ⟨B0, B1, B2, B3, -, -, -, -, -⟩ := id B
      obtain ⟨S0, S1, S2, S3, -, -, -, -, -⟩ := id S
      obtain ⟨M0, M1, M2, M3, -, -, -, -, -⟩ := id M
      go_wp2_with fail
      refine ((V1).out _).mono ?_
      rintro e w4 ⟨rfl, hb⟩
      clear A0 A1 A2 A3 B0 B1 B2 B3 S0 S1 S2 S3 M0 M1 M2 M3
      have A := A.keep hb
      have B := B.keep hb
      have S := S.keep hb
      have M := M.keep hb
      have G := G.below hb
      have HB := Lib.hid (bstep HB.out hb)
      clear hb
      obtain ⟨A0, A1, A2, A3, -, -, -, -, -⟩ := id A
      obtain ⟨B0, B1, B2, B3, -, -, -, -, -⟩ := id B
      obtain ⟨S0, S1, S2, S3, -, -, -, -, -⟩ := id S
      obtain ⟨M0, M1, M2, M3, -, -, -, -, -⟩ := id M
      go_wp2_with fail
      refine ((V2).out _).mono ?_
      rintro e w5 ⟨rfl, hb⟩
      clear A0 A1 A2 A3 B0 B1 B2 B3 S0 S1 S2 S3 M0 M1 M2 M3
      have A := A.keep hb
      have B := B.keep hb
      have S := S.keep hb
      have M := M.keep hb
      have G := G.below hb
      have HB := Lib.hid (bstep HB.out hb)
      clear hb
      obtain ⟨A0, A1, A2, A3, -, -, -, -, -⟩ := id A
      obtain ⟨B0, B1, B2, B3, -, -, -, -, -⟩ := id B
      obtain ⟨S0, S1, S2, S3, -, -, -, -, -⟩ := id S
      obtain ⟨M0, M1, M2, M3, -, -, -, -, -⟩ := id M
      go_wp2_with fail
      refine ((RM).out _).mono ?_
      rintro e w6 ⟨rfl, hb⟩
      clear A0 A1 A2 A3 B0 B1 B2 B3 S0 S1 S2 S3 M0 M1 M2 M3
      have A := A.keep hb
      have B := B.keep hb
      have S := S.keep hb
      have M := M.keep hb
      have G := G.below hb
      have HB := Lib.hid (bstep HB.out hb)
      clear hb
      obtain ⟨A0, A1, A2, A3, -, -, -, -, -⟩ := id A
      obtain ⟨B0, B1, B2, B3, -, -, -, -, -⟩ := id B
      obtain ⟨S0, S1, S2, S3, -, -, -, -, -⟩ := id S
      obtain ⟨M0, M1, M2, M3, -, -, -, -, -⟩ := id M
      clear A0 A1 A2 A3 B0 B1 B2 B3 S0 S1 S2 S3 M0 M1 M2 M3
      have A := A.alloc (.cells #[.int .i64 m1, .int .i64 m2, .int .i64 m3, .int .i64 m4] 25)
      have B := B.alloc (.cells #[.int .i64 m1, .int .i64 m2, .int .i64 m3, .int .i64 m4] 25)
      have S := S.alloc (.cells #[.int .i64 m1, .int .i64 m2, .int .i64 m3, .int .i64 m4] 25)
      have M := M.alloc (.cells #[.int .i64 m1, .int .i64 m2, .int .i64 m3, .int .i64 m4] 25)
      have G := G.below (below1 w6 (.cells #[.int .i64 m1, .int .i64 m2, .int .i64 m3, .int .i64 m4] 25))
      have N := At4.new w6 (.int .i64 m1) (.int .i64 m2) (.int .i64 m3) (.int .i64 m4) 25
      have HB := Lib.hid (bstep HB.out (below1 w6 (.cells #[.int .i64 m1, .int .i64 m2, .int .i64 m3, .int .i64 m4] 25)))
      obtain ⟨A0, A1, A2, A3, -, -, -, -, -⟩ := id A
      obtain ⟨B0, B1, B2, B3, -, -, -, -, -⟩ := id B
      obtain ⟨S0, S1, S2, S3, -, -, -, -, -⟩ := id S
      obtain ⟨M0, M1, M2, M3, -, -, -, -, -⟩ := id M
      obtain ⟨N0, N1, N2, N3, -, -, -, -, -⟩ := id N
      go_upto_region 8 with fail
      clear A0 A1 A2 A3 B0 B1 B2 B3 S0 S1 S2 S3 M0 M1 M2 M3 N0 N1 N2 N3
      obtain ⟨A0, A1, A2, A3⟩ := A.bel
      obtain ⟨B0, B1, B2, B3⟩ := B.bel
      obtain ⟨S0, S1, S2, S3⟩ := S.bel
      obtain ⟨M0, M1, M2, M3⟩ := M.bel
      obtain ⟨N0, N1, N2, N3⟩ := N.bel
      refine wp_region_bel (by kernel_rfl) (by kernel_rfl) ?_
      repeat (go_big_quiet_step (first | (go_at_call 21; with_reducible refine bel_of (RH.out _))))
      refine wpQuiet_nil ?_
      intro _ hw'
      obtain ⟨pq, hw''⟩ := hw'
      subst hw''
      have HB := Lib.hid (bstep HB.out pq.h)
      go_wp2_with fail
      go_ret
      exact ⟨by first | rfl | exact ret_bool (by simp), HB.out⟩
theorem bool_and4 {p q r s : Prop} : True := trivial
/-- the hull's answer does not depend on the order -/
theorem hull_swap (a b c d e f g h : Int) : (if (plOk e f g h && plOk a b c d) = true then vPE (min e a) (max f b) (arnd [(g, h), (c, d)]).1 (arnd [(g, h), (c, d)]).2 0 else vPE 0 0 0 0 1) = (if (plOk a b c d && plOk e f g h) = true then vPE (min a e) (max b f) (arnd [(c, d), (g, h)]).1 (arnd [(c, d), (g, h)]).2 0 else vPE 0 0 0 0 1) := by
  rw [Bool.and_comm, Int.min_comm, Int.max_comm, hull_comm]
theorem mt_swap (a b c d e f g h : Int) : mtV e f g h a b c d = mtV a b c d e f g h := by
  obtain ⟨m1, m2⟩ := meet_comm c d g h
  have am : ameets e f a b = ameets a b e f := by unfold ameets; rw [Bool.eq_iff_iff, decide_eq_true_iff, decide_eq_true_iff]; omega
  have ee : mtE e f g h a b c d = mtE a b c d e f g h := by
    unfold mtE
    rw [Bool.and_comm (plOk e f g h), am]
    have : decide (pieces g h c d = []) = decide (pieces c d g h = []) := by rw [Bool.eq_iff_iff, decide_eq_true_iff, decide_eq_true_iff]; exact m2.symm
    rw [this]
  unfold mtV
  rw [ee, Int.max_comm e, Int.min_comm f, ← m1]
theorem pole_lat {x a b : Int} (h : decide (a ≤ x ∧ x ≤ b) = true) : a ≤ x ∧ x ≤ b := of_decide_eq_true h
theorem con_iff (a b c d x y : Int) : conB a b c d x y = true ↔ (a ≤ x ∧ x ≤ b) ∧ (poleB x = true ∨ partB y y c d = true) := by
  unfold conB
  rw [Bool.and_eq_true, Bool.or_eq_true, decide_eq_true_iff]
/-- what is in one of two places is in the hull -/
theorem hold1 {a b c d e f g h x y : Int} (h1 : plOk a b c d = true) (h2 : plOk e f g h = true) (k : conB a b c d x y = true ∨ conB e f g h x y = true) :
    conB (min a e) (max b f) (arnd [(c, d), (g, h)]).1 (arnd [(c, d), (g, h)]).2 x y = true := by
  obtain ⟨l1, n1⟩ := (plOk_iff _ _ _ _).1 h1
  obtain ⟨l2, n2⟩ := (plOk_iff _ _ _ _).1 h2
  obtain ⟨i1, i2⟩ := hull_in8 n1 n2
  have o := arnd_ok [(c, d), (g, h)]
  rw [con_iff, con_iff] at k
  rw [con_iff]
  rcases k with ⟨k1, k2⟩ | ⟨k1, k2⟩
  · exact ⟨by omega, k2.elim .inl (fun q => .inr (part_trans n1 o q i1))⟩
  · exact ⟨by omega, k2.elim .inl (fun q => .inr (part_trans n2 o q i2))⟩
theorem hull_ok8 {a b c d e f g h : Int} (h1 : plOk a b c d = true) (h2 : plOk e f g h = true) :
    plOk (min a e) (max b f) (arnd [(c, d), (g, h)]).1 (arnd [(c, d), (g, h)]).2 = true ∧ insB a b c d (min a e) (max b f) (arnd [(c, d), (g, h)]).1 (arnd [(c, d), (g, h)]).2 = true ∧ insB e f g h (min a e) (max b f) (arnd [(c, d), (g, h)]).1 (arnd [(c, d), (g, h)]).2 = true := by
  obtain ⟨l1, n1⟩ := (plOk_iff _ _ _ _).1 h1
  obtain ⟨l2, n2⟩ := (plOk_iff _ _ _ _).1 h2
  obtain ⟨i1, i2⟩ := hull_in8 n1 n2
  have o := arnd_ok [(c, d), (g, h)]
  have q1 := (latOk_iff _ _).1 l1
  have q2 := (latOk_iff _ _).1 l2
  have p : plOk (min a e) (max b f) (arnd [(c, d), (g, h)]).1 (arnd [(c, d), (g, h)]).2 = true := (plOk_iff _ _ _ _).2 ⟨(latOk_iff _ _).2 (by omega), o⟩
  refine ⟨p, ?_, ?_⟩
  · unfold insB
    rw [h1, p, i1, decide_eq_true (show min a e ≤ a ∧ b ≤ max b f by omega)]; rfl
  · unfold insB
    rw [h2, p, i2, decide_eq_true (show min a e ≤ e ∧ f ≤ max b f by omega)]; rfl
/-- what both contain is in the meet, but for poles -/
theorem hold2 {a b c d e f g h x y : Int} (h1 : plOk a b c d = true) (h2 : plOk e f g h = true) (hp : ptOk x y = true) (m1 m2 m3 m4 me : Int) (hm : mtV a b c d e f g h = .tuple #[.agg #[.int .i64 m1, .int .i64 m2, .int .i64 m3, .int .i64 m4], .int .i64 me]) :
    (me = 23 ∧ (poleB x = true ∨ conB a b c d x y = false ∨ conB e f g h x y = false)) ∨ (me = 0 ∧ plOk m1 m2 m3 m4 = true ∧ conE m1 m2 m3 m4 x y = 0 ∧ (poleB x = true ∨ conB a b c d x y = false ∨ conB e f g h x y = false ∨ conV m1 m2 m3 m4 x y = true)) := by
  obtain ⟨l1, n1⟩ := (plOk_iff _ _ _ _).1 h1
  obtain ⟨l2, n2⟩ := (plOk_iff _ _ _ _).1 h2
  have q1 := (latOk_iff _ _).1 l1
  have q2 := (latOk_iff _ _).1 l2
  have kp := (ptOk_iff _ _).1 hp
  have both : conB a b c d x y = true → conB e f g h x y = true → poleB x = false → ameets a b e f = true ∧ pieces c d g h ≠ [] ∧ conB (max a e) (min b f) (arnd (pieces c d g h)).1 (arnd (pieces c d g h)).2 x y = true := by
    intro k1 k2 k3
    rw [con_iff] at k1 k2 ⊢
    rw [k3] at k1 k2
    have j1 := k1.2.resolve_left (by decide)
    have j2 := k2.2.resolve_left (by decide)
    obtain ⟨z1, z2⟩ := meet_has n1 n2 ⟨kp.2.2.1, kp.2.2.2⟩ j1 j2
    exact ⟨decide_eq_true (by omega), z1, by omega, .inr z2⟩
  have em : mtE a b c d e f g h = if (ameets a b e f && !(decide (pieces c d g h = []))) = true then 0 else 23 := by unfold mtE; rw [h1, h2]; rfl
  by_cases hz : (ameets a b e f && !(decide (pieces c d g h = []))) = true
  · rw [if_pos hz] at em
    have ev : mtV a b c d e f g h = vPE (max a e) (min b f) (arnd (pieces c d g h)).1 (arnd (pieces c d g h)).2 0 := by unfold mtV; rw [em, if_pos rfl]
    rw [ev] at hm
    unfold vPE at hm
    simp only [Value.tuple.injEq, Value.agg.injEq, Value.int.injEq, Array.mk.injEq, List.cons.injEq, and_true, true_and] at hm
    obtain ⟨⟨rfl, rfl, rfl, rfl⟩, rfl⟩ := hm
    have am : a ≤ f ∧ e ≤ b := of_decide_eq_true (Bool.and_eq_true_iff.1 hz).1
    have pm : plOk (max a e) (min b f) (arnd (pieces c d g h)).1 (arnd (pieces c d g h)).2 = true := (plOk_iff _ _ _ _).2 ⟨(latOk_iff _ _).2 (by omega), arnd_ok _⟩
    refine .inr ⟨rfl, pm, if_pos ⟨hp, pm⟩, ?_⟩
    have ec : conV (max a e) (min b f) (arnd (pieces c d g h)).1 (arnd (pieces c d g h)).2 x y = conB (max a e) (min b f) (arnd (pieces c d g h)).1 (arnd (pieces c d g h)).2 x y := by unfold conV; rw [hp, pm]; simp
    rw [ec]
    cases p1 : poleB x
    · cases p2 : conB a b c d x y
      · exact .inr (.inl rfl)
      · cases p3 : conB e f g h x y
        · exact .inr (.inr (.inl rfl))
        · exact .inr (.inr (.inr (both p2 p3 p1).2.2))
    · exact .inl rfl
  · rw [if_neg hz] at em
    have ev : mtV a b c d e f g h = vPE 0 0 0 0 23 := by unfold mtV; rw [em, if_neg (by decide)]
    rw [ev] at hm
    unfold vPE at hm
    simp only [Value.tuple.injEq, Value.agg.injEq, Value.int.injEq, Array.mk.injEq, List.cons.injEq, and_true, true_and] at hm
    obtain ⟨-, rfl⟩ := hm
    refine .inl ⟨rfl, ?_⟩
    cases p1 : poleB x
    · cases p2 : conB a b c d x y
      · exact .inr (.inl rfl)
      · cases p3 : conB e f g h x y
        · exact .inr (.inr rfl)
        · obtain ⟨z1, z2, -⟩ := both p2 p3 p1
          exact absurd (by rw [z1]; simp [z2]) hz
    · exact .inl rfl
end Go.Proofs.YtgcoddjjkcdfmaaDoor
