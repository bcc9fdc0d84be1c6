/- AngleTurns: the walk of the law. -/
import Derived.Test.YtedcpmiadonmeaaDoorAnK
namespace Go.Proofs.YtedcpmiadonmeaaDoor
open Go.RowKit
set_option linter.unusedVariables false

set_option maxHeartbeats 4000000 in
theorem tu_f (a b c d : Int) (w : World) (P : AnProg w) (ha : aok a b = false) :
    Calls Tryd.prog 6 #[.agg #[.int .i64 a, .int .i64 b], .agg #[.int .i64 c, .int .i64 d]] w fun e w' => e = .returned (.bool true) ∧ Below w.heap.size w w' := by
  have CA := Lib.hid (fun wx (hb : Below w.heap.size w wx) => awake_any w P.toAnAw wx hb)
  have V1 := Lib.hid (fun wx => rValid_is a b false ha wx)
  have C1 := Lib.hid (fun wx => told 0 0 1 (vA_no _ ha) (P.turn a b wx))
  have C2 := Lib.hid (fun wx => toldA (s := false) (y := 1) (by unfold agB; rw [ha]; rfl) (by unfold agE; rw [ha]; simp) (P.agree a b c d wx))
  clear ha
  have A := At2.new w (.int .i64 a) (.int .i64 b) 23
  have A := A.alloc (.cells #[.int .i64 c, .int .i64 d] 23)
  have B := At2.new (w.alloc (.cells #[.int .i64 a, .int .i64 b] 23)) (.int .i64 c) (.int .i64 d) 23
  simp at B
  have HB := Lib.hid (bstep (bstep (Below.refl w.heap.size w) (below1 w (.cells #[.int .i64 a, .int .i64 b] 23))) (below1 (w.alloc (.cells #[.int .i64 a, .int .i64 b] 23)) (.cells #[.int .i64 c, .int .i64 d] 23)))
  go_enter Tryd.func6, Tryd.ntmps6
  obtain ⟨A0, A1, -, -, -⟩ := id A
  obtain ⟨B0, B1, -, -, -⟩ := id B
  go_wp2_with fail
  refine (CA.out _ HB.out).mono ?_
  rintro e w1 ⟨rfl, hb⟩
  have A := (A.keep hb)
  have B := (B.keep hb)
  have HB := Lib.hid (bstep HB.out hb)
  clear hb
  clear A0 A1 B0 B1
  obtain ⟨A0, A1, -, -, -⟩ := id A
  obtain ⟨B0, B1, -, -, -⟩ := id B
  go_wp2_with fail
  refine (C1.out _).mono ?_
  rintro e w2 ⟨rfl, hb⟩
  have A := (A.keep hb).alloc (.cells #[.int .i64 0, .int .i64 0] 23)
  have B := (B.keep hb).alloc (.cells #[.int .i64 0, .int .i64 0] 23)
  have X := At2.new w2 (.int .i64 0) (.int .i64 0) 23
  have HB := Lib.hid (bstep (bstep HB.out hb) (below1 w2 (.cells #[.int .i64 0, .int .i64 0] 23)))
  clear hb
  clear A0 A1 B0 B1
  obtain ⟨A0, A1, -, -, -⟩ := id A
  obtain ⟨B0, B1, -, -, -⟩ := id B
  obtain ⟨X0, X1, -, -, -⟩ := id X
  go_wp2_with fail
  refine (C2.out _).mono ?_
  rintro e w3 ⟨rfl, hb⟩
  have A := (A.keep hb)
  have B := (B.keep hb)
  have X := (X.keep hb)
  have HB := Lib.hid (bstep HB.out hb)
  clear hb
  clear A0 A1 B0 B1 X0 X1
  obtain ⟨A0, A1, -, -, -⟩ := id A
  obtain ⟨B0, B1, -, -, -⟩ := id B
  obtain ⟨X0, X1, -, -, -⟩ := id X
  go_wp2_with fail
  refine (V1.out _).mono ?_
  rintro e w4 ⟨rfl, hb⟩
  have A := (A.keep hb)
  have B := (B.keep hb)
  have X := (X.keep hb)
  have HB := Lib.hid (bstep HB.out hb)
  clear hb
  clear A0 A1 B0 B1 X0 X1
  obtain ⟨A0, A1, -, -, -⟩ := id A
  obtain ⟨B0, B1, -, -, -⟩ := id B
  obtain ⟨X0, X1, -, -, -⟩ := id X
  go_wp2_with fail
  go_ret
  exact ⟨rfl, HB.out⟩

set_option maxHeartbeats 4000000 in
theorem tu_tf (a b c d : Int) (w : World) (P : AnProg w) (ha : aok a b = true) (hc : aok c d = false) :
    Calls Tryd.prog 6 #[.agg #[.int .i64 a, .int .i64 b], .agg #[.int .i64 c, .int .i64 d]] w fun e w' => e = .returned (.bool true) ∧ Below w.heap.size w w' := by
  have CA := Lib.hid (fun wx (hb : Below w.heap.size w wx) => awake_any w P.toAnAw wx hb)
  have V1 := Lib.hid (fun wx => rValid_is a b true ha wx)
  obtain ⟨x, hx⟩ : ∃ x, trL a b = x := ⟨_, rfl⟩
  obtain ⟨y, hy⟩ : ∃ y, trH a b = y := ⟨_, rfl⟩
  have C1 := Lib.hid (fun wx => told x y 0 ((vA_yes _ ha).trans (by unfold aturnR; rw [hx, hy])) (P.turn a b wx))
  have K1 := Lib.hid (fun wx => rTurn a b wx ha)
  unfold vI at K1
  rw [hx, hy] at K1
  have V2 := Lib.hid (fun wx => rValid_is c d false hc wx)
  have C2 := Lib.hid (fun wx => toldA (s := false) (y := 1) (by unfold agB; rw [ha, hc]; rfl) (by unfold agE; rw [ha, hc]; simp) (P.agree a b c d wx))
  clear ha hc hx hy
  have A := At2.new w (.int .i64 a) (.int .i64 b) 23
  have A := A.alloc (.cells #[.int .i64 c, .int .i64 d] 23)
  have B := At2.new (w.alloc (.cells #[.int .i64 a, .int .i64 b] 23)) (.int .i64 c) (.int .i64 d) 23
  simp at B
  have HB := Lib.hid (bstep (bstep (Below.refl w.heap.size w) (below1 w (.cells #[.int .i64 a, .int .i64 b] 23))) (below1 (w.alloc (.cells #[.int .i64 a, .int .i64 b] 23)) (.cells #[.int .i64 c, .int .i64 d] 23)))
  go_enter Tryd.func6, Tryd.ntmps6
  obtain ⟨A0, A1, -, -, -⟩ := id A
  obtain ⟨B0, B1, -, -, -⟩ := id B
  go_wp2_with fail
  refine (CA.out _ HB.out).mono ?_
  rintro e w1 ⟨rfl, hb⟩
  have A := (A.keep hb)
  have B := (B.keep hb)
  have HB := Lib.hid (bstep HB.out hb)
  clear hb
  clear A0 A1 B0 B1
  obtain ⟨A0, A1, -, -, -⟩ := id A
  obtain ⟨B0, B1, -, -, -⟩ := id B
  go_wp2_with fail
  refine (C1.out _).mono ?_
  rintro e w2 ⟨rfl, hb⟩
  have A := (A.keep hb).alloc (.cells #[.int .i64 x, .int .i64 y] 23)
  have B := (B.keep hb).alloc (.cells #[.int .i64 x, .int .i64 y] 23)
  have X := At2.new w2 (.int .i64 x) (.int .i64 y) 23
  have HB := Lib.hid (bstep (bstep HB.out hb) (below1 w2 (.cells #[.int .i64 x, .int .i64 y] 23)))
  clear hb
  clear A0 A1 B0 B1
  obtain ⟨A0, A1, -, -, -⟩ := id A
  obtain ⟨B0, B1, -, -, -⟩ := id B
  obtain ⟨X0, X1, -, -, -⟩ := id X
  go_wp2_with fail
  refine (C2.out _).mono ?_
  rintro e w3 ⟨rfl, hb⟩
  have A := (A.keep hb)
  have B := (B.keep hb)
  have X := (X.keep hb)
  have HB := Lib.hid (bstep HB.out hb)
  clear hb
  clear A0 A1 B0 B1 X0 X1
  obtain ⟨A0, A1, -, -, -⟩ := id A
  obtain ⟨B0, B1, -, -, -⟩ := id B
  obtain ⟨X0, X1, -, -, -⟩ := id X
  go_wp2_with fail
  refine (V1.out _).mono ?_
  rintro e w4 ⟨rfl, hb⟩
  have A := (A.keep hb)
  have B := (B.keep hb)
  have X := (X.keep hb)
  have HB := Lib.hid (bstep HB.out hb)
  clear hb
  clear A0 A1 B0 B1 X0 X1
  obtain ⟨A0, A1, -, -, -⟩ := id A
  obtain ⟨B0, B1, -, -, -⟩ := id B
  obtain ⟨X0, X1, -, -, -⟩ := id X
  go_wp2_with fail
  clear A0 A1 B0 B1 X0 X1
  obtain ⟨A0, A1⟩ := A.bel
  obtain ⟨B0, B1⟩ := B.bel
  obtain ⟨X0, X1⟩ := X.bel
  refine wp_region_bel (by kernel_rfl) (by kernel_rfl) ?_
  repeat (go_big_quiet_step (first | (go_at_call 36; first | (with_reducible refine bel_of (K1.out _)))))
  refine wpQuiet_nil ?_
  intro _ hw'
  obtain ⟨pq, hw''⟩ := hw'
  subst hw''
  have A := A.keep pq.h
  have B := B.keep pq.h
  have X := X.keep pq.h
  have HB := Lib.hid (bstep HB.out pq.h)
  clear A0 A1 B0 B1 X0 X1
  obtain ⟨A0, A1, -, -, -⟩ := id A
  obtain ⟨B0, B1, -, -, -⟩ := id B
  obtain ⟨X0, X1, -, -, -⟩ := id X
  go_wp2_with fail
  refine (V2.out _).mono ?_
  rintro e w5 ⟨rfl, hb⟩
  have A := (A.keep hb)
  have B := (B.keep hb)
  have X := (X.keep hb)
  have HB := Lib.hid (bstep HB.out hb)
  clear hb
  clear A0 A1 B0 B1 X0 X1
  obtain ⟨A0, A1, -, -, -⟩ := id A
  obtain ⟨B0, B1, -, -, -⟩ := id B
  obtain ⟨X0, X1, -, -, -⟩ := id X
  go_wp2_with fail
  go_ret
  exact ⟨rfl, HB.out⟩

set_option maxHeartbeats 4000000 in
theorem tu_ttf (a b c d : Int) (w : World) (P : AnProg w) (ha : aok a b = true) (hc : aok c d = true) (hr : agR a b c d = false) :
    Calls Tryd.prog 6 #[.agg #[.int .i64 a, .int .i64 b], .agg #[.int .i64 c, .int .i64 d]] w fun e w' => e = .returned (.bool true) ∧ Below w.heap.size w w' := by
  have CA := Lib.hid (fun wx (hb : Below w.heap.size w wx) => awake_any w P.toAnAw wx hb)
  have V1 := Lib.hid (fun wx => rValid_is a b true ha wx)
  obtain ⟨x, hx⟩ : ∃ x, trL a b = x := ⟨_, rfl⟩
  obtain ⟨y, hy⟩ : ∃ y, trH a b = y := ⟨_, rfl⟩
  have C1 := Lib.hid (fun wx => told x y 0 ((vA_yes _ ha).trans (by unfold aturnR; rw [hx, hy])) (P.turn a b wx))
  have K1 := Lib.hid (fun wx => rTurn a b wx ha)
  unfold vI at K1
  rw [hx, hy] at K1
  have V2 := Lib.hid (fun wx => rValid_is c d true hc wx)
  have C2 := Lib.hid (fun wx => toldA (s := false) (y := 0) (by unfold agB; rw [ha, hc, hr]; rfl) (by unfold agE; rw [ha, hc]; simp) (P.agree a b c d wx))
  have K2 := Lib.hid (fun wx => told1 false hr (rAgree a b c d wx ha hc))
  clear ha hc hr hx hy
  have A := At2.new w (.int .i64 a) (.int .i64 b) 23
  have A := A.alloc (.cells #[.int .i64 c, .int .i64 d] 23)
  have B := At2.new (w.alloc (.cells #[.int .i64 a, .int .i64 b] 23)) (.int .i64 c) (.int .i64 d) 23
  simp at B
  have HB := Lib.hid (bstep (bstep (Below.refl w.heap.size w) (below1 w (.cells #[.int .i64 a, .int .i64 b] 23))) (below1 (w.alloc (.cells #[.int .i64 a, .int .i64 b] 23)) (.cells #[.int .i64 c, .int .i64 d] 23)))
  go_enter Tryd.func6, Tryd.ntmps6
  obtain ⟨A0, A1, -, -, -⟩ := id A
  obtain ⟨B0, B1, -, -, -⟩ := id B
  go_wp2_with fail
  refine (CA.out _ HB.out).mono ?_
  rintro e w1 ⟨rfl, hb⟩
  have A := (A.keep hb)
  have B := (B.keep hb)
  have HB := Lib.hid (bstep HB.out hb)
  clear hb
  clear A0 A1 B0 B1
  obtain ⟨A0, A1, -, -, -⟩ := id A
  obtain ⟨B0, B1, -, -, -⟩ := id B
  go_wp2_with fail
  refine (C1.out _).mono ?_
  rintro e w2 ⟨rfl, hb⟩
  have A := (A.keep hb).alloc (.cells #[.int .i64 x, .int .i64 y] 23)
  have B := (B.keep hb).alloc (.cells #[.int .i64 x, .int .i64 y] 23)
  have X := At2.new w2 (.int .i64 x) (.int .i64 y) 23
  have HB := Lib.hid (bstep (bstep HB.out hb) (below1 w2 (.cells #[.int .i64 x, .int .i64 y] 23)))
  clear hb
  clear A0 A1 B0 B1
  obtain ⟨A0, A1, -, -, -⟩ := id A
  obtain ⟨B0, B1, -, -, -⟩ := id B
  obtain ⟨X0, X1, -, -, -⟩ := id X
  go_wp2_with fail
  refine (C2.out _).mono ?_
  rintro e w3 ⟨rfl, hb⟩
  have A := (A.keep hb)
  have B := (B.keep hb)
  have X := (X.keep hb)
  have HB := Lib.hid (bstep HB.out hb)
  clear hb
  clear A0 A1 B0 B1 X0 X1
  obtain ⟨A0, A1, -, -, -⟩ := id A
  obtain ⟨B0, B1, -, -, -⟩ := id B
  obtain ⟨X0, X1, -, -, -⟩ := id X
  go_wp2_with fail
  refine (V1.out _).mono ?_
  rintro e w4 ⟨rfl, hb⟩
  have A := (A.keep hb)
  have B := (B.keep hb)
  have X := (X.keep hb)
  have HB := Lib.hid (bstep HB.out hb)
  clear hb
  clear A0 A1 B0 B1 X0 X1
  obtain ⟨A0, A1, -, -, -⟩ := id A
  obtain ⟨B0, B1, -, -, -⟩ := id B
  obtain ⟨X0, X1, -, -, -⟩ := id X
  go_wp2_with fail
  clear A0 A1 B0 B1 X0 X1
  obtain ⟨A0, A1⟩ := A.bel
  obtain ⟨B0, B1⟩ := B.bel
  obtain ⟨X0, X1⟩ := X.bel
  refine wp_region_bel (by kernel_rfl) (by kernel_rfl) ?_
  repeat (go_big_quiet_step (first | (go_at_call 36; first | (with_reducible refine bel_of (K1.out _)))))
  refine wpQuiet_nil ?_
  intro _ hw'
  obtain ⟨pq, hw''⟩ := hw'
  subst hw''
  have A := A.keep pq.h
  have B := B.keep pq.h
  have X := X.keep pq.h
  have HB := Lib.hid (bstep HB.out pq.h)
  clear A0 A1 B0 B1 X0 X1
  obtain ⟨A0, A1, -, -, -⟩ := id A
  obtain ⟨B0, B1, -, -, -⟩ := id B
  obtain ⟨X0, X1, -, -, -⟩ := id X
  go_wp2_with fail
  refine (V2.out _).mono ?_
  rintro e w5 ⟨rfl, hb⟩
  have A := (A.keep hb)
  have B := (B.keep hb)
  have X := (X.keep hb)
  have HB := Lib.hid (bstep HB.out hb)
  clear hb
  clear A0 A1 B0 B1 X0 X1
  obtain ⟨A0, A1, -, -, -⟩ := id A
  obtain ⟨B0, B1, -, -, -⟩ := id B
  obtain ⟨X0, X1, -, -, -⟩ := id X
  go_wp2_with fail
  refine (K2.out _).mono ?_
  rintro e w6 ⟨rfl, hb⟩
  have A := (A.keep hb)
  have B := (B.keep hb)
  have X := (X.keep hb)
  have HB := Lib.hid (bstep HB.out hb)
  clear hb
  clear A0 A1 B0 B1 X0 X1
  obtain ⟨A0, A1, -, -, -⟩ := id A
  obtain ⟨B0, B1, -, -, -⟩ := id B
  obtain ⟨X0, X1, -, -, -⟩ := id X
  go_wp2_with fail
  go_ret
  exact ⟨rfl, HB.out⟩

set_option maxHeartbeats 4000000 in
theorem tu_ttt (a b c d : Int) (w : World) (P : AnProg w) (ha : aok a b = true) (hc : aok c d = true) (hr : agR a b c d = true) :
    Calls Tryd.prog 6 #[.agg #[.int .i64 a, .int .i64 b], .agg #[.int .i64 c, .int .i64 d]] w fun e w' => e = .returned (.bool true) ∧ Below w.heap.size w w' := by
  have CA := Lib.hid (fun wx (hb : Below w.heap.size w wx) => awake_any w P.toAnAw wx hb)
  have V1 := Lib.hid (fun wx => rValid_is a b true ha wx)
  obtain ⟨x, hx⟩ : ∃ x, trL a b = x := ⟨_, rfl⟩
  obtain ⟨y, hy⟩ : ∃ y, trH a b = y := ⟨_, rfl⟩
  have C1 := Lib.hid (fun wx => told x y 0 ((vA_yes _ ha).trans (by unfold aturnR; rw [hx, hy])) (P.turn a b wx))
  have K1 := Lib.hid (fun wx => rTurn a b wx ha)
  unfold vI at K1
  rw [hx, hy] at K1
  have V2 := Lib.hid (fun wx => rValid_is c d true hc wx)
  have C2 := Lib.hid (fun wx => toldA (s := true) (y := 0) (by unfold agB; rw [ha, hc, hr]; rfl) (by unfold agE; rw [ha, hc]; simp) (P.agree a b c d wx))
  have K2 := Lib.hid (fun wx => told1 true hr (rAgree a b c d wx ha hc))
  clear ha hc hr hx hy
  have A := At2.new w (.int .i64 a) (.int .i64 b) 23
  have A := A.alloc (.cells #[.int .i64 c, .int .i64 d] 23)
  have B := At2.new (w.alloc (.cells #[.int .i64 a, .int .i64 b] 23)) (.int .i64 c) (.int .i64 d) 23
  simp at B
  have HB := Lib.hid (bstep (bstep (Below.refl w.heap.size w) (below1 w (.cells #[.int .i64 a, .int .i64 b] 23))) (below1 (w.alloc (.cells #[.int .i64 a, .int .i64 b] 23)) (.cells #[.int .i64 c, .int .i64 d] 23)))
  go_enter Tryd.func6, Tryd.ntmps6
  obtain ⟨A0, A1, -, -, -⟩ := id A
  obtain ⟨B0, B1, -, -, -⟩ := id B
  go_wp2_with fail
  refine (CA.out _ HB.out).mono ?_
  rintro e w1 ⟨rfl, hb⟩
  have A := (A.keep hb)
  have B := (B.keep hb)
  have HB := Lib.hid (bstep HB.out hb)
  clear hb
  clear A0 A1 B0 B1
  obtain ⟨A0, A1, -, -, -⟩ := id A
  obtain ⟨B0, B1, -, -, -⟩ := id B
  go_wp2_with fail
  refine (C1.out _).mono ?_
  rintro e w2 ⟨rfl, hb⟩
  have A := (A.keep hb).alloc (.cells #[.int .i64 x, .int .i64 y] 23)
  have B := (B.keep hb).alloc (.cells #[.int .i64 x, .int .i64 y] 23)
  have X := At2.new w2 (.int .i64 x) (.int .i64 y) 23
  have HB := Lib.hid (bstep (bstep HB.out hb) (below1 w2 (.cells #[.int .i64 x, .int .i64 y] 23)))
  clear hb
  clear A0 A1 B0 B1
  obtain ⟨A0, A1, -, -, -⟩ := id A
  obtain ⟨B0, B1, -, -, -⟩ := id B
  obtain ⟨X0, X1, -, -, -⟩ := id X
  go_wp2_with fail
  refine (C2.out _).mono ?_
  rintro e w3 ⟨rfl, hb⟩
  have A := (A.keep hb)
  have B := (B.keep hb)
  have X := (X.keep hb)
  have HB := Lib.hid (bstep HB.out hb)
  clear hb
  clear A0 A1 B0 B1 X0 X1
  obtain ⟨A0, A1, -, -, -⟩ := id A
  obtain ⟨B0, B1, -, -, -⟩ := id B
  obtain ⟨X0, X1, -, -, -⟩ := id X
  go_wp2_with fail
  refine (V1.out _).mono ?_
  rintro e w4 ⟨rfl, hb⟩
  have A := (A.keep hb)
  have B := (B.keep hb)
  have X := (X.keep hb)
  have HB := Lib.hid (bstep HB.out hb)
  clear hb
  clear A0 A1 B0 B1 X0 X1
  obtain ⟨A0, A1, -, -, -⟩ := id A
  obtain ⟨B0, B1, -, -, -⟩ := id B
  obtain ⟨X0, X1, -, -, -⟩ := id X
  go_wp2_with fail
  clear A0 A1 B0 B1 X0 X1
  obtain ⟨A0, A1⟩ := A.bel
  obtain ⟨B0, B1⟩ := B.bel
  obtain ⟨X0, X1⟩ := X.bel
  refine wp_region_bel (by kernel_rfl) (by kernel_rfl) ?_
  repeat (go_big_quiet_step (first | (go_at_call 36; first | (with_reducible refine bel_of (K1.out _)))))
  refine wpQuiet_nil ?_
  intro _ hw'
  obtain ⟨pq, hw''⟩ := hw'
  subst hw''
  have A := A.keep pq.h
  have B := B.keep pq.h
  have X := X.keep pq.h
  have HB := Lib.hid (bstep HB.out pq.h)
  clear A0 A1 B0 B1 X0 X1
  obtain ⟨A0, A1, -, -, -⟩ := id A
  obtain ⟨B0, B1, -, -, -⟩ := id B
  obtain ⟨X0, X1, -, -, -⟩ := id X
  go_wp2_with fail
  refine (V2.out _).mono ?_
  rintro e w5 ⟨rfl, hb⟩
  have A := (A.keep hb)
  have B := (B.keep hb)
  have X := (X.keep hb)
  have HB := Lib.hid (bstep HB.out hb)
  clear hb
  clear A0 A1 B0 B1 X0 X1
  obtain ⟨A0, A1, -, -, -⟩ := id A
  obtain ⟨B0, B1, -, -, -⟩ := id B
  obtain ⟨X0, X1, -, -, -⟩ := id X
  go_wp2_with fail
  refine (K2.out _).mono ?_
  rintro e w6 ⟨rfl, hb⟩
  have A := (A.keep hb)
  have B := (B.keep hb)
  have X := (X.keep hb)
  have HB := Lib.hid (bstep HB.out hb)
  clear hb
  clear A0 A1 B0 B1 X0 X1
  obtain ⟨A0, A1, -, -, -⟩ := id A
  obtain ⟨B0, B1, -, -, -⟩ := id B
  obtain ⟨X0, X1, -, -, -⟩ := id X
  go_wp2_with fail
  go_ret
  exact ⟨rfl, HB.out⟩

theorem turns_walk (a b c d : Int) (w : World) (P : AnProg w) :
    Calls Tryd.prog 6 #[.agg #[.int .i64 a, .int .i64 b], .agg #[.int .i64 c, .int .i64 d]] w fun e w' => e = .returned (.bool true) ∧ Below w.heap.size w w' := by
  cases ha : aok a b
  · exact tu_f a b c d w P ha
  · cases hc : aok c d
    · exact tu_tf a b c d w P ha hc
    · cases hr : agR a b c d
      · exact tu_ttf a b c d w P ha hc hr
      · exact tu_ttt a b c d w P ha hc hr
end Go.Proofs.YtedcpmiadonmeaaDoor
