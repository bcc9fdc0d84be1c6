/- AngleSums: the walk of the law. -/
import Derived.Test.YtedcpmiadonmeaaDoorAnK
namespace Go.Proofs.YtedcpmiadonmeaaDoor
open Go.RowKit
set_option linter.unusedVariables false

theorem same_bad (l h : Int) (w : World) (k : aok l h = false) :
    Calls Tryd.prog 26 #[.agg #[.int .i64 0, .int .i64 0], .int .i64 5, .agg #[.int .i64 l, .int .i64 h]] w fun e w' => e = .returned (.bool true) ∧ Below w.heap.size w w' := by
  have V1 := Lib.hid (fun wx => rValid_is l h false k wx)
  clear k
  have A := At2.new w (.int .i64 0) (.int .i64 0) 23
  have A := A.alloc (.cells #[.int .i64 l, .int .i64 h] 23)
  have B := At2.new (w.alloc (.cells #[.int .i64 0, .int .i64 0] 23)) (.int .i64 l) (.int .i64 h) 23
  simp at B
  have HB := Lib.hid (bstep (bstep (Below.refl w.heap.size w) (below1 w (.cells #[.int .i64 0, .int .i64 0] 23))) (below1 (w.alloc (.cells #[.int .i64 0, .int .i64 0] 23)) (.cells #[.int .i64 l, .int .i64 h] 23)))
  go_enter Tryd.func26, Tryd.ntmps26
  obtain ⟨A0, A1, -, -, -⟩ := id A
  obtain ⟨B0, B1, -, -, -⟩ := id B
  go_wp2_with fail
  refine (V1.out _).mono ?_
  rintro e w1 ⟨rfl, hb⟩
  have A := (A.keep hb)
  have B := (B.keep hb)
  have HB := Lib.hid (bstep HB.out hb)
  clear hb
  clear A0 A1 B0 B1
  obtain ⟨A0, A1, -, -, -⟩ := id A
  obtain ⟨B0, B1, -, -, -⟩ := id B
  go_wp2_with fail
  go_ret
  exact ⟨rfl, HB.out⟩
theorem same_ok (l h : Int) (w : World) (k : aok l h = true) :
    Calls Tryd.prog 26 #[.agg #[.int .i64 l, .int .i64 h], .int .i64 0, .agg #[.int .i64 l, .int .i64 h]] w fun e w' => e = .returned (.bool true) ∧ Below w.heap.size w w' := by
  have V1 := Lib.hid (fun wx => rValid_is l h true k wx)
  clear k
  have A := At2.new w (.int .i64 l) (.int .i64 h) 23
  have A := A.alloc (.cells #[.int .i64 l, .int .i64 h] 23)
  have B := At2.new (w.alloc (.cells #[.int .i64 l, .int .i64 h] 23)) (.int .i64 l) (.int .i64 h) 23
  simp at B
  have HB := Lib.hid (bstep (bstep (Below.refl w.heap.size w) (below1 w (.cells #[.int .i64 l, .int .i64 h] 23))) (below1 (w.alloc (.cells #[.int .i64 l, .int .i64 h] 23)) (.cells #[.int .i64 l, .int .i64 h] 23)))
  go_enter Tryd.func26, Tryd.ntmps26
  obtain ⟨A0, A1, -, -, -⟩ := id A
  obtain ⟨B0, B1, -, -, -⟩ := id B
  go_wp2_with fail
  refine (V1.out _).mono ?_
  rintro e w1 ⟨rfl, hb⟩
  have A := (A.keep hb)
  have B := (B.keep hb)
  have HB := Lib.hid (bstep HB.out hb)
  clear hb
  clear A0 A1 B0 B1
  obtain ⟨A0, A1, -, -, -⟩ := id A
  obtain ⟨B0, B1, -, -, -⟩ := id B
  go_wp2_with fail
  go_ret
  exact ⟨rfl, HB.out⟩
theorem same_any (l h : Int) (w : World) :
    Calls Tryd.prog 26 #[.agg #[.int .i64 (afit l h).l, .int .i64 (afit l h).h], .int .i64 (afit l h).e, .agg #[.int .i64 l, .int .i64 h]] w fun e w' => e = .returned (.bool true) ∧ Below w.heap.size w w' := by
  cases k : aok l h
  · rw [afit_no k]; exact same_bad l h w k
  · rw [afit_yes k]; exact same_ok l h w k

set_option maxRecDepth 100000 in
set_option maxHeartbeats 8000000 in
theorem sm_f (a b c d n m : Int) (w : World) (P : AnProg w) (n1 : -9223372036854775808 ≤ n) (n2 : n ≤ 9223372036854775807) (m1 : -9223372036854775808 ≤ m) (m2 : m ≤ 9223372036854775807) (ha : aok a b = false) :
    Calls Tryd.prog 4 #[.agg #[.int .i64 a, .int .i64 b], .agg #[.int .i64 c, .int .i64 d], .int .i64 n, .int .i64 m] w fun e w' => e = .returned (.bool true) ∧ Below w.heap.size w w' := by
  have CA := Lib.hid (fun wx (hb : Below w.heap.size w wx) => awake_any w P.toAnAw wx hb)
  have V1 := Lib.hid (fun wx => rValid_is a b false ha wx)
  have C1 := Lib.hid (fun wx => told 0 0 1 (vA_no _ (by rw [ha]; rfl)) (P.add a b c d wx))
  have C2 := Lib.hid (fun wx => told 0 0 1 (vA_no _ (by rw [ha]; rfl)) (P.sub a b c d wx))
  have C3 := Lib.hid (fun wx => told 0 0 1 (vA_no _ ha) (P.neg a b wx))
  have C4 := Lib.hid (fun wx => told 0 0 1 (vA_no _ ha) (P.times a b n m wx n1 n2 m1 m2))
  clear ha n1 n2 m1 m2
  have A := At2.new w (.int .i64 a) (.int .i64 b) 23
  have A := A.alloc (.cells #[.int .i64 c, .int .i64 d] 23)
  have B := At2.new (w.alloc (.cells #[.int .i64 a, .int .i64 b] 23)) (.int .i64 c) (.int .i64 d) 23
  simp at B
  have HB := Lib.hid (bstep (bstep (Below.refl w.heap.size w) (below1 w (.cells #[.int .i64 a, .int .i64 b] 23))) (below1 (w.alloc (.cells #[.int .i64 a, .int .i64 b] 23)) (.cells #[.int .i64 c, .int .i64 d] 23)))
  go_enter Tryd.func4, Tryd.ntmps4
  obtain ⟨A0, A1, -, -, -⟩ := id A
  obtain ⟨B0, B1, -, -, -⟩ := id B
  go_wp2_with fail
  refine (CA.out _ HB.out).mono ?_
  rintro e w1 ⟨rfl, hb⟩
  have A := (A.keep hb)
  have B := (B.keep hb)
  have HB := Lib.hid (bstep HB.out hb)
  clear hb
  clear A0 A1 B0 B1
  obtain ⟨A0, A1, -, -, -⟩ := id A
  obtain ⟨B0, B1, -, -, -⟩ := id B
  go_wp2_with fail
  refine (C1.out _).mono ?_
  rintro e w2 ⟨rfl, hb⟩
  have A := (A.keep hb).alloc (.cells #[.int .i64 0, .int .i64 0] 23)
  have B := (B.keep hb).alloc (.cells #[.int .i64 0, .int .i64 0] 23)
  have X := At2.new w2 (.int .i64 0) (.int .i64 0) 23
  have HB := Lib.hid (bstep (bstep HB.out hb) (below1 w2 (.cells #[.int .i64 0, .int .i64 0] 23)))
  clear hb
  clear A0 A1 B0 B1
  obtain ⟨A0, A1, -, -, -⟩ := id A
  obtain ⟨B0, B1, -, -, -⟩ := id B
  obtain ⟨X0, X1, -, -, -⟩ := id X
  go_wp2_with fail
  refine (C2.out _).mono ?_
  rintro e w3 ⟨rfl, hb⟩
  have A := (A.keep hb).alloc (.cells #[.int .i64 0, .int .i64 0] 23)
  have B := (B.keep hb).alloc (.cells #[.int .i64 0, .int .i64 0] 23)
  have X := (X.keep hb).alloc (.cells #[.int .i64 0, .int .i64 0] 23)
  have Y := At2.new w3 (.int .i64 0) (.int .i64 0) 23
  have HB := Lib.hid (bstep (bstep HB.out hb) (below1 w3 (.cells #[.int .i64 0, .int .i64 0] 23)))
  clear hb
  clear A0 A1 B0 B1 X0 X1
  obtain ⟨A0, A1, -, -, -⟩ := id A
  obtain ⟨B0, B1, -, -, -⟩ := id B
  obtain ⟨X0, X1, -, -, -⟩ := id X
  obtain ⟨Y0, Y1, -, -, -⟩ := id Y
  go_wp2_with fail
  refine (C3.out _).mono ?_
  rintro e w4 ⟨rfl, hb⟩
  have A := (A.keep hb).alloc (.cells #[.int .i64 0, .int .i64 0] 23)
  have B := (B.keep hb).alloc (.cells #[.int .i64 0, .int .i64 0] 23)
  have X := (X.keep hb).alloc (.cells #[.int .i64 0, .int .i64 0] 23)
  have Y := (Y.keep hb).alloc (.cells #[.int .i64 0, .int .i64 0] 23)
  have Z := At2.new w4 (.int .i64 0) (.int .i64 0) 23
  have HB := Lib.hid (bstep (bstep HB.out hb) (below1 w4 (.cells #[.int .i64 0, .int .i64 0] 23)))
  clear hb
  clear A0 A1 B0 B1 X0 X1 Y0 Y1
  obtain ⟨A0, A1, -, -, -⟩ := id A
  obtain ⟨B0, B1, -, -, -⟩ := id B
  obtain ⟨X0, X1, -, -, -⟩ := id X
  obtain ⟨Y0, Y1, -, -, -⟩ := id Y
  obtain ⟨Z0, Z1, -, -, -⟩ := id Z
  go_wp2_with fail
  refine (C4.out _).mono ?_
  rintro e w5 ⟨rfl, hb⟩
  have A := (A.keep hb).alloc (.cells #[.int .i64 0, .int .i64 0] 23)
  have B := (B.keep hb).alloc (.cells #[.int .i64 0, .int .i64 0] 23)
  have X := (X.keep hb).alloc (.cells #[.int .i64 0, .int .i64 0] 23)
  have Y := (Y.keep hb).alloc (.cells #[.int .i64 0, .int .i64 0] 23)
  have Z := (Z.keep hb).alloc (.cells #[.int .i64 0, .int .i64 0] 23)
  have U := At2.new w5 (.int .i64 0) (.int .i64 0) 23
  have HB := Lib.hid (bstep (bstep HB.out hb) (below1 w5 (.cells #[.int .i64 0, .int .i64 0] 23)))
  clear hb
  clear A0 A1 B0 B1 X0 X1 Y0 Y1 Z0 Z1
  obtain ⟨A0, A1, -, -, -⟩ := id A
  obtain ⟨B0, B1, -, -, -⟩ := id B
  obtain ⟨X0, X1, -, -, -⟩ := id X
  obtain ⟨Y0, Y1, -, -, -⟩ := id Y
  obtain ⟨Z0, Z1, -, -, -⟩ := id Z
  obtain ⟨U0, U1, -, -, -⟩ := id U
  go_wp2_with fail
  refine (V1.out _).mono ?_
  rintro e w6 ⟨rfl, hb⟩
  have A := (A.keep hb)
  have B := (B.keep hb)
  have X := (X.keep hb)
  have Y := (Y.keep hb)
  have Z := (Z.keep hb)
  have U := (U.keep hb)
  have HB := Lib.hid (bstep HB.out hb)
  clear hb
  clear A0 A1 B0 B1 X0 X1 Y0 Y1 Z0 Z1 U0 U1
  obtain ⟨A0, A1, -, -, -⟩ := id A
  obtain ⟨B0, B1, -, -, -⟩ := id B
  obtain ⟨X0, X1, -, -, -⟩ := id X
  obtain ⟨Y0, Y1, -, -, -⟩ := id Y
  obtain ⟨Z0, Z1, -, -, -⟩ := id Z
  obtain ⟨U0, U1, -, -, -⟩ := id U
  go_wp2_with fail
  go_ret
  exact ⟨rfl, HB.out⟩

set_option maxRecDepth 100000 in
set_option maxHeartbeats 8000000 in
theorem sm_r1_f (a b c d n m : Int) (w : World) (P : AnProg w) (n1 : -9223372036854775808 ≤ n) (n2 : n ≤ 9223372036854775807) (m1 : -9223372036854775808 ≤ m) (m2 : m ≤ 9223372036854775807) (ha : aok a b = true) (hc : aok c d = false) (ht : n < -1048576) :
    Calls Tryd.prog 4 #[.agg #[.int .i64 a, .int .i64 b], .agg #[.int .i64 c, .int .i64 d], .int .i64 n, .int .i64 m] w fun e w' => e = .returned (.bool true) ∧ Below w.heap.size w w' := by
  have CA := Lib.hid (fun wx (hb : Below w.heap.size w wx) => awake_any w P.toAnAw wx hb)
  have V1 := Lib.hid (fun wx => rValid_is a b true ha wx)
  have V2 := Lib.hid (fun wx => rValid_is c d false hc wx)
  have p := (aok_iff _ _).1 ha
  have KN := Lib.hid (fun wx => rNeg a b wx ha)
  unfold vI at KN
  have ht' : tmOk n m = false := (tmOk_not _ _).2 (by omega)
  have C4 := Lib.hid (fun wx => told 0 0 2 ((vA_yes _ ha).trans (if_neg (by rw [ht']; simp))) (P.times a b n m wx n1 n2 m1 m2))
  have C3 := Lib.hid (fun wx => told (-b) (-a) 0 (vA_yes _ ha) (P.neg a b wx))
  have C1 := Lib.hid (fun wx => told 0 0 1 (vA_no _ (by rw [ha, hc]; rfl)) (P.add a b c d wx))
  have C2 := Lib.hid (fun wx => told 0 0 1 (vA_no _ (by rw [ha, hc]; rfl)) (P.sub a b c d wx))
  generalize -b = nb at *
  generalize -a = na at *
  clear ha hc p n1 n2 m1 m2 ht'
  have A := At2.new w (.int .i64 a) (.int .i64 b) 23
  have A := A.alloc (.cells #[.int .i64 c, .int .i64 d] 23)
  have B := At2.new (w.alloc (.cells #[.int .i64 a, .int .i64 b] 23)) (.int .i64 c) (.int .i64 d) 23
  simp at B
  have HB := Lib.hid (bstep (bstep (Below.refl w.heap.size w) (below1 w (.cells #[.int .i64 a, .int .i64 b] 23))) (below1 (w.alloc (.cells #[.int .i64 a, .int .i64 b] 23)) (.cells #[.int .i64 c, .int .i64 d] 23)))
  go_enter Tryd.func4, Tryd.ntmps4
  obtain ⟨A0, A1, -, -, -⟩ := id A
  obtain ⟨B0, B1, -, -, -⟩ := id B
  go_wp2_with fail
  refine (CA.out _ HB.out).mono ?_
  rintro e w1 ⟨rfl, hb⟩
  have A := (A.keep hb)
  have B := (B.keep hb)
  have HB := Lib.hid (bstep HB.out hb)
  clear hb
  clear A0 A1 B0 B1
  obtain ⟨A0, A1, -, -, -⟩ := id A
  obtain ⟨B0, B1, -, -, -⟩ := id B
  go_wp2_with fail
  refine (C1.out _).mono ?_
  rintro e w2 ⟨rfl, hb⟩
  have A := (A.keep hb).alloc (.cells #[.int .i64 0, .int .i64 0] 23)
  have B := (B.keep hb).alloc (.cells #[.int .i64 0, .int .i64 0] 23)
  have X := At2.new w2 (.int .i64 0) (.int .i64 0) 23
  have HB := Lib.hid (bstep (bstep HB.out hb) (below1 w2 (.cells #[.int .i64 0, .int .i64 0] 23)))
  clear hb
  clear A0 A1 B0 B1
  obtain ⟨A0, A1, -, -, -⟩ := id A
  obtain ⟨B0, B1, -, -, -⟩ := id B
  obtain ⟨X0, X1, -, -, -⟩ := id X
  go_wp2_with fail
  refine (C2.out _).mono ?_
  rintro e w3 ⟨rfl, hb⟩
  have A := (A.keep hb).alloc (.cells #[.int .i64 0, .int .i64 0] 23)
  have B := (B.keep hb).alloc (.cells #[.int .i64 0, .int .i64 0] 23)
  have X := (X.keep hb).alloc (.cells #[.int .i64 0, .int .i64 0] 23)
  have Y := At2.new w3 (.int .i64 0) (.int .i64 0) 23
  have HB := Lib.hid (bstep (bstep HB.out hb) (below1 w3 (.cells #[.int .i64 0, .int .i64 0] 23)))
  clear hb
  clear A0 A1 B0 B1 X0 X1
  obtain ⟨A0, A1, -, -, -⟩ := id A
  obtain ⟨B0, B1, -, -, -⟩ := id B
  obtain ⟨X0, X1, -, -, -⟩ := id X
  obtain ⟨Y0, Y1, -, -, -⟩ := id Y
  go_wp2_with fail
  refine (C3.out _).mono ?_
  rintro e w4 ⟨rfl, hb⟩
  have A := (A.keep hb).alloc (.cells #[.int .i64 nb, .int .i64 na] 23)
  have B := (B.keep hb).alloc (.cells #[.int .i64 nb, .int .i64 na] 23)
  have X := (X.keep hb).alloc (.cells #[.int .i64 nb, .int .i64 na] 23)
  have Y := (Y.keep hb).alloc (.cells #[.int .i64 nb, .int .i64 na] 23)
  have Z := At2.new w4 (.int .i64 nb) (.int .i64 na) 23
  have HB := Lib.hid (bstep (bstep HB.out hb) (below1 w4 (.cells #[.int .i64 nb, .int .i64 na] 23)))
  clear hb
  clear A0 A1 B0 B1 X0 X1 Y0 Y1
  obtain ⟨A0, A1, -, -, -⟩ := id A
  obtain ⟨B0, B1, -, -, -⟩ := id B
  obtain ⟨X0, X1, -, -, -⟩ := id X
  obtain ⟨Y0, Y1, -, -, -⟩ := id Y
  obtain ⟨Z0, Z1, -, -, -⟩ := id Z
  go_wp2_with fail
  refine (C4.out _).mono ?_
  rintro e w5 ⟨rfl, hb⟩
  have A := (A.keep hb).alloc (.cells #[.int .i64 0, .int .i64 0] 23)
  have B := (B.keep hb).alloc (.cells #[.int .i64 0, .int .i64 0] 23)
  have X := (X.keep hb).alloc (.cells #[.int .i64 0, .int .i64 0] 23)
  have Y := (Y.keep hb).alloc (.cells #[.int .i64 0, .int .i64 0] 23)
  have Z := (Z.keep hb).alloc (.cells #[.int .i64 0, .int .i64 0] 23)
  have U := At2.new w5 (.int .i64 0) (.int .i64 0) 23
  have HB := Lib.hid (bstep (bstep HB.out hb) (below1 w5 (.cells #[.int .i64 0, .int .i64 0] 23)))
  clear hb
  clear A0 A1 B0 B1 X0 X1 Y0 Y1 Z0 Z1
  obtain ⟨A0, A1, -, -, -⟩ := id A
  obtain ⟨B0, B1, -, -, -⟩ := id B
  obtain ⟨X0, X1, -, -, -⟩ := id X
  obtain ⟨Y0, Y1, -, -, -⟩ := id Y
  obtain ⟨Z0, Z1, -, -, -⟩ := id Z
  obtain ⟨U0, U1, -, -, -⟩ := id U
  go_wp2_with fail
  refine (V1.out _).mono ?_
  rintro e w6 ⟨rfl, hb⟩
  have A := (A.keep hb)
  have B := (B.keep hb)
  have X := (X.keep hb)
  have Y := (Y.keep hb)
  have Z := (Z.keep hb)
  have U := (U.keep hb)
  have HB := Lib.hid (bstep HB.out hb)
  clear hb
  clear A0 A1 B0 B1 X0 X1 Y0 Y1 Z0 Z1 U0 U1
  obtain ⟨A0, A1, -, -, -⟩ := id A
  obtain ⟨B0, B1, -, -, -⟩ := id B
  obtain ⟨X0, X1, -, -, -⟩ := id X
  obtain ⟨Y0, Y1, -, -, -⟩ := id Y
  obtain ⟨Z0, Z1, -, -, -⟩ := id Z
  obtain ⟨U0, U1, -, -, -⟩ := id U
  go_wp2_with fail
  clear A0 A1 B0 B1 X0 X1 Y0 Y1 Z0 Z1 U0 U1
  obtain ⟨A0, A1⟩ := A.bel
  obtain ⟨B0, B1⟩ := B.bel
  obtain ⟨X0, X1⟩ := X.bel
  obtain ⟨Y0, Y1⟩ := Y.bel
  obtain ⟨Z0, Z1⟩ := Z.bel
  obtain ⟨U0, U1⟩ := U.bel
  refine wp_region_bel (by kernel_rfl) (by kernel_rfl) ?_
  repeat (go_big_quiet_step (first | (go_at_call 24; first | (with_reducible refine bel_of (KN.out _)))))
  refine wpQuiet_nil ?_
  intro _ hw'
  obtain ⟨pq, hw''⟩ := hw'
  subst hw''
  have A := A.keep pq.h
  have B := B.keep pq.h
  have X := X.keep pq.h
  have Y := Y.keep pq.h
  have Z := Z.keep pq.h
  have U := U.keep pq.h
  have HB := Lib.hid (bstep HB.out pq.h)
  clear A0 A1 B0 B1 X0 X1 Y0 Y1 Z0 Z1 U0 U1
  obtain ⟨A0, A1, -, -, -⟩ := id A
  obtain ⟨B0, B1, -, -, -⟩ := id B
  obtain ⟨X0, X1, -, -, -⟩ := id X
  obtain ⟨Y0, Y1, -, -, -⟩ := id Y
  obtain ⟨Z0, Z1, -, -, -⟩ := id Z
  obtain ⟨U0, U1, -, -, -⟩ := id U
  go_wp2_with fail
  refine (V2.out _).mono ?_
  rintro e w7 ⟨rfl, hb⟩
  have A := (A.keep hb)
  have B := (B.keep hb)
  have X := (X.keep hb)
  have Y := (Y.keep hb)
  have Z := (Z.keep hb)
  have U := (U.keep hb)
  have HB := Lib.hid (bstep HB.out hb)
  clear hb
  clear A0 A1 B0 B1 X0 X1 Y0 Y1 Z0 Z1 U0 U1
  obtain ⟨A0, A1, -, -, -⟩ := id A
  obtain ⟨B0, B1, -, -, -⟩ := id B
  obtain ⟨X0, X1, -, -, -⟩ := id X
  obtain ⟨Y0, Y1, -, -, -⟩ := id Y
  obtain ⟨Z0, Z1, -, -, -⟩ := id Z
  obtain ⟨U0, U1, -, -, -⟩ := id U
  go_wp2_with fail
  go_ret
  exact ⟨rfl, HB.out⟩

set_option maxRecDepth 100000 in
set_option maxHeartbeats 8000000 in
theorem sm_r1_t (a b c d n m : Int) (w : World) (P : AnProg w) (n1 : -9223372036854775808 ≤ n) (n2 : n ≤ 9223372036854775807) (m1 : -9223372036854775808 ≤ m) (m2 : m ≤ 9223372036854775807) (ha : aok a b = true) (hc : aok c d = true) (ht : n < -1048576) :
    Calls Tryd.prog 4 #[.agg #[.int .i64 a, .int .i64 b], .agg #[.int .i64 c, .int .i64 d], .int .i64 n, .int .i64 m] w fun e w' => e = .returned (.bool true) ∧ Below w.heap.size w w' := by
  have CA := Lib.hid (fun wx (hb : Below w.heap.size w wx) => awake_any w P.toAnAw wx hb)
  have V1 := Lib.hid (fun wx => rValid_is a b true ha wx)
  have V2 := Lib.hid (fun wx => rValid_is c d true hc wx)
  have p := (aok_iff _ _).1 ha
  have KN := Lib.hid (fun wx => rNeg a b wx ha)
  unfold vI at KN
  have ht' : tmOk n m = false := (tmOk_not _ _).2 (by omega)
  have C4 := Lib.hid (fun wx => told 0 0 2 ((vA_yes _ ha).trans (if_neg (by rw [ht']; simp))) (P.times a b n m wx n1 n2 m1 m2))
  have C3 := Lib.hid (fun wx => told (-b) (-a) 0 (vA_yes _ ha) (P.neg a b wx))
  have q := (aok_iff _ _).1 hc
  have C1 := Lib.hid (fun wx => told (afit (a + c) (b + d)).l (afit (a + c) (b + d)).h (afit (a + c) (b + d)).e (vA_yes _ (by rw [ha, hc]; rfl)) (P.add a b c d wx))
  have C2 := Lib.hid (fun wx => told (afit (a - d) (b - c)).l (afit (a - d) (b - c)).h (afit (a - d) (b - c)).e (vA_yes _ (by rw [ha, hc]; rfl)) (P.sub a b c d wx))
  have KA := Lib.hid (fun wx => rAdd a b c d wx (by omega) (by omega) (by omega) (by omega))
  have KS := Lib.hid (fun wx => rSub a b c d wx (by omega) (by omega) (by omega) (by omega))
  have S1 := Lib.hid (fun wx => same_any (a + c) (b + d) wx)
  have S2 := Lib.hid (fun wx => same_any (a - d) (b - c) wx)
  unfold vI at KA KS
  generalize afit (a + c) (b + d) = FX at *
  generalize afit (a - d) (b - c) = FY at *
  generalize a + c = s1 at *
  generalize b + d = s2 at *
  generalize a - d = s3 at *
  generalize b - c = s4 at *
  clear q
  generalize -b = nb at *
  generalize -a = na at *
  clear ha hc p n1 n2 m1 m2 ht'
  have A := At2.new w (.int .i64 a) (.int .i64 b) 23
  have A := A.alloc (.cells #[.int .i64 c, .int .i64 d] 23)
  have B := At2.new (w.alloc (.cells #[.int .i64 a, .int .i64 b] 23)) (.int .i64 c) (.int .i64 d) 23
  simp at B
  have HB := Lib.hid (bstep (bstep (Below.refl w.heap.size w) (below1 w (.cells #[.int .i64 a, .int .i64 b] 23))) (below1 (w.alloc (.cells #[.int .i64 a, .int .i64 b] 23)) (.cells #[.int .i64 c, .int .i64 d] 23)))
  go_enter Tryd.func4, Tryd.ntmps4
  obtain ⟨A0, A1, -, -, -⟩ := id A
  obtain ⟨B0, B1, -, -, -⟩ := id B
  go_wp2_with fail
  refine (CA.out _ HB.out).mono ?_
  rintro e w1 ⟨rfl, hb⟩
  have A := (A.keep hb)
  have B := (B.keep hb)
  have HB := Lib.hid (bstep HB.out hb)
  clear hb
  clear A0 A1 B0 B1
  obtain ⟨A0, A1, -, -, -⟩ := id A
  obtain ⟨B0, B1, -, -, -⟩ := id B
  go_wp2_with fail
  refine (C1.out _).mono ?_
  rintro e w2 ⟨rfl, hb⟩
  have A := (A.keep hb).alloc (.cells #[.int .i64 FX.l, .int .i64 FX.h] 23)
  have B := (B.keep hb).alloc (.cells #[.int .i64 FX.l, .int .i64 FX.h] 23)
  have X := At2.new w2 (.int .i64 FX.l) (.int .i64 FX.h) 23
  have HB := Lib.hid (bstep (bstep HB.out hb) (below1 w2 (.cells #[.int .i64 FX.l, .int .i64 FX.h] 23)))
  clear hb
  clear A0 A1 B0 B1
  obtain ⟨A0, A1, -, -, -⟩ := id A
  obtain ⟨B0, B1, -, -, -⟩ := id B
  obtain ⟨X0, X1, -, -, -⟩ := id X
  go_wp2_with fail
  refine (C2.out _).mono ?_
  rintro e w3 ⟨rfl, hb⟩
  have A := (A.keep hb).alloc (.cells #[.int .i64 FY.l, .int .i64 FY.h] 23)
  have B := (B.keep hb).alloc (.cells #[.int .i64 FY.l, .int .i64 FY.h] 23)
  have X := (X.keep hb).alloc (.cells #[.int .i64 FY.l, .int .i64 FY.h] 23)
  have Y := At2.new w3 (.int .i64 FY.l) (.int .i64 FY.h) 23
  have HB := Lib.hid (bstep (bstep HB.out hb) (below1 w3 (.cells #[.int .i64 FY.l, .int .i64 FY.h] 23)))
  clear hb
  clear A0 A1 B0 B1 X0 X1
  obtain ⟨A0, A1, -, -, -⟩ := id A
  obtain ⟨B0, B1, -, -, -⟩ := id B
  obtain ⟨X0, X1, -, -, -⟩ := id X
  obtain ⟨Y0, Y1, -, -, -⟩ := id Y
  go_wp2_with fail
  refine (C3.out _).mono ?_
  rintro e w4 ⟨rfl, hb⟩
  have A := (A.keep hb).alloc (.cells #[.int .i64 nb, .int .i64 na] 23)
  have B := (B.keep hb).alloc (.cells #[.int .i64 nb, .int .i64 na] 23)
  have X := (X.keep hb).alloc (.cells #[.int .i64 nb, .int .i64 na] 23)
  have Y := (Y.keep hb).alloc (.cells #[.int .i64 nb, .int .i64 na] 23)
  have Z := At2.new w4 (.int .i64 nb) (.int .i64 na) 23
  have HB := Lib.hid (bstep (bstep HB.out hb) (below1 w4 (.cells #[.int .i64 nb, .int .i64 na] 23)))
  clear hb
  clear A0 A1 B0 B1 X0 X1 Y0 Y1
  obtain ⟨A0, A1, -, -, -⟩ := id A
  obtain ⟨B0, B1, -, -, -⟩ := id B
  obtain ⟨X0, X1, -, -, -⟩ := id X
  obtain ⟨Y0, Y1, -, -, -⟩ := id Y
  obtain ⟨Z0, Z1, -, -, -⟩ := id Z
  go_wp2_with fail
  refine (C4.out _).mono ?_
  rintro e w5 ⟨rfl, hb⟩
  have A := (A.keep hb).alloc (.cells #[.int .i64 0, .int .i64 0] 23)
  have B := (B.keep hb).alloc (.cells #[.int .i64 0, .int .i64 0] 23)
  have X := (X.keep hb).alloc (.cells #[.int .i64 0, .int .i64 0] 23)
  have Y := (Y.keep hb).alloc (.cells #[.int .i64 0, .int .i64 0] 23)
  have Z := (Z.keep hb).alloc (.cells #[.int .i64 0, .int .i64 0] 23)
  have U := At2.new w5 (.int .i64 0) (.int .i64 0) 23
  have HB := Lib.hid (bstep (bstep HB.out hb) (below1 w5 (.cells #[.int .i64 0, .int .i64 0] 23)))
  clear hb
  clear A0 A1 B0 B1 X0 X1 Y0 Y1 Z0 Z1
  obtain ⟨A0, A1, -, -, -⟩ := id A
  obtain ⟨B0, B1, -, -, -⟩ := id B
  obtain ⟨X0, X1, -, -, -⟩ := id X
  obtain ⟨Y0, Y1, -, -, -⟩ := id Y
  obtain ⟨Z0, Z1, -, -, -⟩ := id Z
  obtain ⟨U0, U1, -, -, -⟩ := id U
  go_wp2_with fail
  refine (V1.out _).mono ?_
  rintro e w6 ⟨rfl, hb⟩
  have A := (A.keep hb)
  have B := (B.keep hb)
  have X := (X.keep hb)
  have Y := (Y.keep hb)
  have Z := (Z.keep hb)
  have U := (U.keep hb)
  have HB := Lib.hid (bstep HB.out hb)
  clear hb
  clear A0 A1 B0 B1 X0 X1 Y0 Y1 Z0 Z1 U0 U1
  obtain ⟨A0, A1, -, -, -⟩ := id A
  obtain ⟨B0, B1, -, -, -⟩ := id B
  obtain ⟨X0, X1, -, -, -⟩ := id X
  obtain ⟨Y0, Y1, -, -, -⟩ := id Y
  obtain ⟨Z0, Z1, -, -, -⟩ := id Z
  obtain ⟨U0, U1, -, -, -⟩ := id U
  go_wp2_with fail
  clear A0 A1 B0 B1 X0 X1 Y0 Y1 Z0 Z1 U0 U1
  obtain ⟨A0, A1⟩ := A.bel
  obtain ⟨B0, B1⟩ := B.bel
  obtain ⟨X0, X1⟩ := X.bel
  obtain ⟨Y0, Y1⟩ := Y.bel
  obtain ⟨Z0, Z1⟩ := Z.bel
  obtain ⟨U0, U1⟩ := U.bel
  refine wp_region_bel (by kernel_rfl) (by kernel_rfl) ?_
  repeat (go_big_quiet_step (first | (go_at_call 24; first | (with_reducible refine bel_of (KN.out _)))))
  refine wpQuiet_nil ?_
  intro _ hw'
  obtain ⟨pq, hw''⟩ := hw'
  subst hw''
  have A := A.keep pq.h
  have B := B.keep pq.h
  have X := X.keep pq.h
  have Y := Y.keep pq.h
  have Z := Z.keep pq.h
  have U := U.keep pq.h
  have HB := Lib.hid (bstep HB.out pq.h)
  clear A0 A1 B0 B1 X0 X1 Y0 Y1 Z0 Z1 U0 U1
  obtain ⟨A0, A1, -, -, -⟩ := id A
  obtain ⟨B0, B1, -, -, -⟩ := id B
  obtain ⟨X0, X1, -, -, -⟩ := id X
  obtain ⟨Y0, Y1, -, -, -⟩ := id Y
  obtain ⟨Z0, Z1, -, -, -⟩ := id Z
  obtain ⟨U0, U1, -, -, -⟩ := id U
  go_wp2_with fail
  refine (V2.out _).mono ?_
  rintro e w7 ⟨rfl, hb⟩
  have A := (A.keep hb)
  have B := (B.keep hb)
  have X := (X.keep hb)
  have Y := (Y.keep hb)
  have Z := (Z.keep hb)
  have U := (U.keep hb)
  have HB := Lib.hid (bstep HB.out hb)
  clear hb
  clear A0 A1 B0 B1 X0 X1 Y0 Y1 Z0 Z1 U0 U1
  obtain ⟨A0, A1, -, -, -⟩ := id A
  obtain ⟨B0, B1, -, -, -⟩ := id B
  obtain ⟨X0, X1, -, -, -⟩ := id X
  obtain ⟨Y0, Y1, -, -, -⟩ := id Y
  obtain ⟨Z0, Z1, -, -, -⟩ := id Z
  obtain ⟨U0, U1, -, -, -⟩ := id U
  go_wp2_with fail
  clear A0 A1 B0 B1 X0 X1 Y0 Y1 Z0 Z1 U0 U1
  obtain ⟨A0, A1⟩ := A.bel
  obtain ⟨B0, B1⟩ := B.bel
  obtain ⟨X0, X1⟩ := X.bel
  obtain ⟨Y0, Y1⟩ := Y.bel
  obtain ⟨Z0, Z1⟩ := Z.bel
  obtain ⟨U0, U1⟩ := U.bel
  refine wp_region_bel (by kernel_rfl) (by kernel_rfl) ?_
  repeat (go_big_quiet_step (first | (go_at_call 27; first | (with_reducible refine bel_of (KA.out _))) | (go_at_call 28; first | (with_reducible refine bel_of (KS.out _))) | (go_at_call 26; first | (with_reducible refine bel_of (S1.out _)) | (with_reducible refine bel_of (S2.out _)))))
  refine wpQuiet_nil ?_
  intro _ hw'
  obtain ⟨pq, hw''⟩ := hw'
  subst hw''
  have A := A.keep pq.h
  have B := B.keep pq.h
  have X := X.keep pq.h
  have Y := Y.keep pq.h
  have Z := Z.keep pq.h
  have U := U.keep pq.h
  have HB := Lib.hid (bstep HB.out pq.h)
  clear A0 A1 B0 B1 X0 X1 Y0 Y1 Z0 Z1 U0 U1
  obtain ⟨A0, A1, -, -, -⟩ := id A
  obtain ⟨B0, B1, -, -, -⟩ := id B
  obtain ⟨X0, X1, -, -, -⟩ := id X
  obtain ⟨Y0, Y1, -, -, -⟩ := id Y
  obtain ⟨Z0, Z1, -, -, -⟩ := id Z
  obtain ⟨U0, U1, -, -, -⟩ := id U
  go_wp2_with fail
  go_ret
  exact ⟨rfl, HB.out⟩

set_option maxRecDepth 100000 in
set_option maxHeartbeats 8000000 in
theorem sm_r2_f (a b c d n m : Int) (w : World) (P : AnProg w) (n1 : -9223372036854775808 ≤ n) (n2 : n ≤ 9223372036854775807) (m1 : -9223372036854775808 ≤ m) (m2 : m ≤ 9223372036854775807) (ha : aok a b = true) (hc : aok c d = false) (ht0 : ¬ n < -1048576) (ht : n > 1048576) :
    Calls Tryd.prog 4 #[.agg #[.int .i64 a, .int .i64 b], .agg #[.int .i64 c, .int .i64 d], .int .i64 n, .int .i64 m] w fun e w' => e = .returned (.bool true) ∧ Below w.heap.size w w' := by
  have CA := Lib.hid (fun wx (hb : Below w.heap.size w wx) => awake_any w P.toAnAw wx hb)
  have V1 := Lib.hid (fun wx => rValid_is a b true ha wx)
  have V2 := Lib.hid (fun wx => rValid_is c d false hc wx)
  have p := (aok_iff _ _).1 ha
  have KN := Lib.hid (fun wx => rNeg a b wx ha)
  unfold vI at KN
  have ht' : tmOk n m = false := (tmOk_not _ _).2 (by omega)
  have C4 := Lib.hid (fun wx => told 0 0 2 ((vA_yes _ ha).trans (if_neg (by rw [ht']; simp))) (P.times a b n m wx n1 n2 m1 m2))
  have C3 := Lib.hid (fun wx => told (-b) (-a) 0 (vA_yes _ ha) (P.neg a b wx))
  have C1 := Lib.hid (fun wx => told 0 0 1 (vA_no _ (by rw [ha, hc]; rfl)) (P.add a b c d wx))
  have C2 := Lib.hid (fun wx => told 0 0 1 (vA_no _ (by rw [ha, hc]; rfl)) (P.sub a b c d wx))
  generalize -b = nb at *
  generalize -a = na at *
  clear ha hc p n1 n2 m1 m2 ht'
  have A := At2.new w (.int .i64 a) (.int .i64 b) 23
  have A := A.alloc (.cells #[.int .i64 c, .int .i64 d] 23)
  have B := At2.new (w.alloc (.cells #[.int .i64 a, .int .i64 b] 23)) (.int .i64 c) (.int .i64 d) 23
  simp at B
  have HB := Lib.hid (bstep (bstep (Below.refl w.heap.size w) (below1 w (.cells #[.int .i64 a, .int .i64 b] 23))) (below1 (w.alloc (.cells #[.int .i64 a, .int .i64 b] 23)) (.cells #[.int .i64 c, .int .i64 d] 23)))
  go_enter Tryd.func4, Tryd.ntmps4
  obtain ⟨A0, A1, -, -, -⟩ := id A
  obtain ⟨B0, B1, -, -, -⟩ := id B
  go_wp2_with fail
  refine (CA.out _ HB.out).mono ?_
  rintro e w1 ⟨rfl, hb⟩
  have A := (A.keep hb)
  have B := (B.keep hb)
  have HB := Lib.hid (bstep HB.out hb)
  clear hb
  clear A0 A1 B0 B1
  obtain ⟨A0, A1, -, -, -⟩ := id A
  obtain ⟨B0, B1, -, -, -⟩ := id B
  go_wp2_with fail
  refine (C1.out _).mono ?_
  rintro e w2 ⟨rfl, hb⟩
  have A := (A.keep hb).alloc (.cells #[.int .i64 0, .int .i64 0] 23)
  have B := (B.keep hb).alloc (.cells #[.int .i64 0, .int .i64 0] 23)
  have X := At2.new w2 (.int .i64 0) (.int .i64 0) 23
  have HB := Lib.hid (bstep (bstep HB.out hb) (below1 w2 (.cells #[.int .i64 0, .int .i64 0] 23)))
  clear hb
  clear A0 A1 B0 B1
  obtain ⟨A0, A1, -, -, -⟩ := id A
  obtain ⟨B0, B1, -, -, -⟩ := id B
  obtain ⟨X0, X1, -, -, -⟩ := id X
  go_wp2_with fail
  refine (C2.out _).mono ?_
  rintro e w3 ⟨rfl, hb⟩
  have A := (A.keep hb).alloc (.cells #[.int .i64 0, .int .i64 0] 23)
  have B := (B.keep hb).alloc (.cells #[.int .i64 0, .int .i64 0] 23)
  have X := (X.keep hb).alloc (.cells #[.int .i64 0, .int .i64 0] 23)
  have Y := At2.new w3 (.int .i64 0) (.int .i64 0) 23
  have HB := Lib.hid (bstep (bstep HB.out hb) (below1 w3 (.cells #[.int .i64 0, .int .i64 0] 23)))
  clear hb
  clear A0 A1 B0 B1 X0 X1
  obtain ⟨A0, A1, -, -, -⟩ := id A
  obtain ⟨B0, B1, -, -, -⟩ := id B
  obtain ⟨X0, X1, -, -, -⟩ := id X
  obtain ⟨Y0, Y1, -, -, -⟩ := id Y
  go_wp2_with fail
  refine (C3.out _).mono ?_
  rintro e w4 ⟨rfl, hb⟩
  have A := (A.keep hb).alloc (.cells #[.int .i64 nb, .int .i64 na] 23)
  have B := (B.keep hb).alloc (.cells #[.int .i64 nb, .int .i64 na] 23)
  have X := (X.keep hb).alloc (.cells #[.int .i64 nb, .int .i64 na] 23)
  have Y := (Y.keep hb).alloc (.cells #[.int .i64 nb, .int .i64 na] 23)
  have Z := At2.new w4 (.int .i64 nb) (.int .i64 na) 23
  have HB := Lib.hid (bstep (bstep HB.out hb) (below1 w4 (.cells #[.int .i64 nb, .int .i64 na] 23)))
  clear hb
  clear A0 A1 B0 B1 X0 X1 Y0 Y1
  obtain ⟨A0, A1, -, -, -⟩ := id A
  obtain ⟨B0, B1, -, -, -⟩ := id B
  obtain ⟨X0, X1, -, -, -⟩ := id X
  obtain ⟨Y0, Y1, -, -, -⟩ := id Y
  obtain ⟨Z0, Z1, -, -, -⟩ := id Z
  go_wp2_with fail
  refine (C4.out _).mono ?_
  rintro e w5 ⟨rfl, hb⟩
  have A := (A.keep hb).alloc (.cells #[.int .i64 0, .int .i64 0] 23)
  have B := (B.keep hb).alloc (.cells #[.int .i64 0, .int .i64 0] 23)
  have X := (X.keep hb).alloc (.cells #[.int .i64 0, .int .i64 0] 23)
  have Y := (Y.keep hb).alloc (.cells #[.int .i64 0, .int .i64 0] 23)
  have Z := (Z.keep hb).alloc (.cells #[.int .i64 0, .int .i64 0] 23)
  have U := At2.new w5 (.int .i64 0) (.int .i64 0) 23
  have HB := Lib.hid (bstep (bstep HB.out hb) (below1 w5 (.cells #[.int .i64 0, .int .i64 0] 23)))
  clear hb
  clear A0 A1 B0 B1 X0 X1 Y0 Y1 Z0 Z1
  obtain ⟨A0, A1, -, -, -⟩ := id A
  obtain ⟨B0, B1, -, -, -⟩ := id B
  obtain ⟨X0, X1, -, -, -⟩ := id X
  obtain ⟨Y0, Y1, -, -, -⟩ := id Y
  obtain ⟨Z0, Z1, -, -, -⟩ := id Z
  obtain ⟨U0, U1, -, -, -⟩ := id U
  go_wp2_with fail
  refine (V1.out _).mono ?_
  rintro e w6 ⟨rfl, hb⟩
  have A := (A.keep hb)
  have B := (B.keep hb)
  have X := (X.keep hb)
  have Y := (Y.keep hb)
  have Z := (Z.keep hb)
  have U := (U.keep hb)
  have HB := Lib.hid (bstep HB.out hb)
  clear hb
  clear A0 A1 B0 B1 X0 X1 Y0 Y1 Z0 Z1 U0 U1
  obtain ⟨A0, A1, -, -, -⟩ := id A
  obtain ⟨B0, B1, -, -, -⟩ := id B
  obtain ⟨X0, X1, -, -, -⟩ := id X
  obtain ⟨Y0, Y1, -, -, -⟩ := id Y
  obtain ⟨Z0, Z1, -, -, -⟩ := id Z
  obtain ⟨U0, U1, -, -, -⟩ := id U
  go_wp2_with fail
  clear A0 A1 B0 B1 X0 X1 Y0 Y1 Z0 Z1 U0 U1
  obtain ⟨A0, A1⟩ := A.bel
  obtain ⟨B0, B1⟩ := B.bel
  obtain ⟨X0, X1⟩ := X.bel
  obtain ⟨Y0, Y1⟩ := Y.bel
  obtain ⟨Z0, Z1⟩ := Z.bel
  obtain ⟨U0, U1⟩ := U.bel
  refine wp_region_bel (by kernel_rfl) (by kernel_rfl) ?_
  repeat (go_big_quiet_step (first | (go_at_call 24; first | (with_reducible refine bel_of (KN.out _)))))
  refine wpQuiet_nil ?_
  intro _ hw'
  obtain ⟨pq, hw''⟩ := hw'
  subst hw''
  have A := A.keep pq.h
  have B := B.keep pq.h
  have X := X.keep pq.h
  have Y := Y.keep pq.h
  have Z := Z.keep pq.h
  have U := U.keep pq.h
  have HB := Lib.hid (bstep HB.out pq.h)
  clear A0 A1 B0 B1 X0 X1 Y0 Y1 Z0 Z1 U0 U1
  obtain ⟨A0, A1, -, -, -⟩ := id A
  obtain ⟨B0, B1, -, -, -⟩ := id B
  obtain ⟨X0, X1, -, -, -⟩ := id X
  obtain ⟨Y0, Y1, -, -, -⟩ := id Y
  obtain ⟨Z0, Z1, -, -, -⟩ := id Z
  obtain ⟨U0, U1, -, -, -⟩ := id U
  go_wp2_with fail
  refine (V2.out _).mono ?_
  rintro e w7 ⟨rfl, hb⟩
  have A := (A.keep hb)
  have B := (B.keep hb)
  have X := (X.keep hb)
  have Y := (Y.keep hb)
  have Z := (Z.keep hb)
  have U := (U.keep hb)
  have HB := Lib.hid (bstep HB.out hb)
  clear hb
  clear A0 A1 B0 B1 X0 X1 Y0 Y1 Z0 Z1 U0 U1
  obtain ⟨A0, A1, -, -, -⟩ := id A
  obtain ⟨B0, B1, -, -, -⟩ := id B
  obtain ⟨X0, X1, -, -, -⟩ := id X
  obtain ⟨Y0, Y1, -, -, -⟩ := id Y
  obtain ⟨Z0, Z1, -, -, -⟩ := id Z
  obtain ⟨U0, U1, -, -, -⟩ := id U
  go_wp2_with fail
  go_ret
  exact ⟨rfl, HB.out⟩

set_option maxRecDepth 100000 in
set_option maxHeartbeats 8000000 in
theorem sm_r2_t (a b c d n m : Int) (w : World) (P : AnProg w) (n1 : -9223372036854775808 ≤ n) (n2 : n ≤ 9223372036854775807) (m1 : -9223372036854775808 ≤ m) (m2 : m ≤ 9223372036854775807) (ha : aok a b = true) (hc : aok c d = true) (ht0 : ¬ n < -1048576) (ht : n > 1048576) :
    Calls Tryd.prog 4 #[.agg #[.int .i64 a, .int .i64 b], .agg #[.int .i64 c, .int .i64 d], .int .i64 n, .int .i64 m] w fun e w' => e = .returned (.bool true) ∧ Below w.heap.size w w' := by
  have CA := Lib.hid (fun wx (hb : Below w.heap.size w wx) => awake_any w P.toAnAw wx hb)
  have V1 := Lib.hid (fun wx => rValid_is a b true ha wx)
  have V2 := Lib.hid (fun wx => rValid_is c d true hc wx)
  have p := (aok_iff _ _).1 ha
  have KN := Lib.hid (fun wx => rNeg a b wx ha)
  unfold vI at KN
  have ht' : tmOk n m = false := (tmOk_not _ _).2 (by omega)
  have C4 := Lib.hid (fun wx => told 0 0 2 ((vA_yes _ ha).trans (if_neg (by rw [ht']; simp))) (P.times a b n m wx n1 n2 m1 m2))
  have C3 := Lib.hid (fun wx => told (-b) (-a) 0 (vA_yes _ ha) (P.neg a b wx))
  have q := (aok_iff _ _).1 hc
  have C1 := Lib.hid (fun wx => told (afit (a + c) (b + d)).l (afit (a + c) (b + d)).h (afit (a + c) (b + d)).e (vA_yes _ (by rw [ha, hc]; rfl)) (P.add a b c d wx))
  have C2 := Lib.hid (fun wx => told (afit (a - d) (b - c)).l (afit (a - d) (b - c)).h (afit (a - d) (b - c)).e (vA_yes _ (by rw [ha, hc]; rfl)) (P.sub a b c d wx))
  have KA := Lib.hid (fun wx => rAdd a b c d wx (by omega) (by omega) (by omega) (by omega))
  have KS := Lib.hid (fun wx => rSub a b c d wx (by omega) (by omega) (by omega) (by omega))
  have S1 := Lib.hid (fun wx => same_any (a + c) (b + d) wx)
  have S2 := Lib.hid (fun wx => same_any (a - d) (b - c) wx)
  unfold vI at KA KS
  generalize afit (a + c) (b + d) = FX at *
  generalize afit (a - d) (b - c) = FY at *
  generalize a + c = s1 at *
  generalize b + d = s2 at *
  generalize a - d = s3 at *
  generalize b - c = s4 at *
  clear q
  generalize -b = nb at *
  generalize -a = na at *
  clear ha hc p n1 n2 m1 m2 ht'
  have A := At2.new w (.int .i64 a) (.int .i64 b) 23
  have A := A.alloc (.cells #[.int .i64 c, .int .i64 d] 23)
  have B := At2.new (w.alloc (.cells #[.int .i64 a, .int .i64 b] 23)) (.int .i64 c) (.int .i64 d) 23
  simp at B
  have HB := Lib.hid (bstep (bstep (Below.refl w.heap.size w) (below1 w (.cells #[.int .i64 a, .int .i64 b] 23))) (below1 (w.alloc (.cells #[.int .i64 a, .int .i64 b] 23)) (.cells #[.int .i64 c, .int .i64 d] 23)))
  go_enter Tryd.func4, Tryd.ntmps4
  obtain ⟨A0, A1, -, -, -⟩ := id A
  obtain ⟨B0, B1, -, -, -⟩ := id B
  go_wp2_with fail
  refine (CA.out _ HB.out).mono ?_
  rintro e w1 ⟨rfl, hb⟩
  have A := (A.keep hb)
  have B := (B.keep hb)
  have HB := Lib.hid (bstep HB.out hb)
  clear hb
  clear A0 A1 B0 B1
  obtain ⟨A0, A1, -, -, -⟩ := id A
  obtain ⟨B0, B1, -, -, -⟩ := id B
  go_wp2_with fail
  refine (C1.out _).mono ?_
  rintro e w2 ⟨rfl, hb⟩
  have A := (A.keep hb).alloc (.cells #[.int .i64 FX.l, .int .i64 FX.h] 23)
  have B := (B.keep hb).alloc (.cells #[.int .i64 FX.l, .int .i64 FX.h] 23)
  have X := At2.new w2 (.int .i64 FX.l) (.int .i64 FX.h) 23
  have HB := Lib.hid (bstep (bstep HB.out hb) (below1 w2 (.cells #[.int .i64 FX.l, .int .i64 FX.h] 23)))
  clear hb
  clear A0 A1 B0 B1
  obtain ⟨A0, A1, -, -, -⟩ := id A
  obtain ⟨B0, B1, -, -, -⟩ := id B
  obtain ⟨X0, X1, -, -, -⟩ := id X
  go_wp2_with fail
  refine (C2.out _).mono ?_
  rintro e w3 ⟨rfl, hb⟩
  have A := (A.keep hb).alloc (.cells #[.int .i64 FY.l, .int .i64 FY.h] 23)
  have B := (B.keep hb).alloc (.cells #[.int .i64 FY.l, .int .i64 FY.h] 23)
  have X := (X.keep hb).alloc (.cells #[.int .i64 FY.l, .int .i64 FY.h] 23)
  have Y := At2.new w3 (.int .i64 FY.l) (.int .i64 FY.h) 23
  have HB := Lib.hid (bstep (bstep HB.out hb) (below1 w3 (.cells #[.int .i64 FY.l, .int .i64 FY.h] 23)))
  clear hb
  clear A0 A1 B0 B1 X0 X1
  obtain ⟨A0, A1, -, -, -⟩ := id A
  obtain ⟨B0, B1, -, -, -⟩ := id B
  obtain ⟨X0, X1, -, -, -⟩ := id X
  obtain ⟨Y0, Y1, -, -, -⟩ := id Y
  go_wp2_with fail
  refine (C3.out _).mono ?_
  rintro e w4 ⟨rfl, hb⟩
  have A := (A.keep hb).alloc (.cells #[.int .i64 nb, .int .i64 na] 23)
  have B := (B.keep hb).alloc (.cells #[.int .i64 nb, .int .i64 na] 23)
  have X := (X.keep hb).alloc (.cells #[.int .i64 nb, .int .i64 na] 23)
  have Y := (Y.keep hb).alloc (.cells #[.int .i64 nb, .int .i64 na] 23)
  have Z := At2.new w4 (.int .i64 nb) (.int .i64 na) 23
  have HB := Lib.hid (bstep (bstep HB.out hb) (below1 w4 (.cells #[.int .i64 nb, .int .i64 na] 23)))
  clear hb
  clear A0 A1 B0 B1 X0 X1 Y0 Y1
  obtain ⟨A0, A1, -, -, -⟩ := id A
  obtain ⟨B0, B1, -, -, -⟩ := id B
  obtain ⟨X0, X1, -, -, -⟩ := id X
  obtain ⟨Y0, Y1, -, -, -⟩ := id Y
  obtain ⟨Z0, Z1, -, -, -⟩ := id Z
  go_wp2_with fail
  refine (C4.out _).mono ?_
  rintro e w5 ⟨rfl, hb⟩
  have A := (A.keep hb).alloc (.cells #[.int .i64 0, .int .i64 0] 23)
  have B := (B.keep hb).alloc (.cells #[.int .i64 0, .int .i64 0] 23)
  have X := (X.keep hb).alloc (.cells #[.int .i64 0, .int .i64 0] 23)
  have Y := (Y.keep hb).alloc (.cells #[.int .i64 0, .int .i64 0] 23)
  have Z := (Z.keep hb).alloc (.cells #[.int .i64 0, .int .i64 0] 23)
  have U := At2.new w5 (.int .i64 0) (.int .i64 0) 23
  have HB := Lib.hid (bstep (bstep HB.out hb) (below1 w5 (.cells #[.int .i64 0, .int .i64 0] 23)))
  clear hb
  clear A0 A1 B0 B1 X0 X1 Y0 Y1 Z0 Z1
  obtain ⟨A0, A1, -, -, -⟩ := id A
  obtain ⟨B0, B1, -, -, -⟩ := id B
  obtain ⟨X0, X1, -, -, -⟩ := id X
  obtain ⟨Y0, Y1, -, -, -⟩ := id Y
  obtain ⟨Z0, Z1, -, -, -⟩ := id Z
  obtain ⟨U0, U1, -, -, -⟩ := id U
  go_wp2_with fail
  refine (V1.out _).mono ?_
  rintro e w6 ⟨rfl, hb⟩
  have A := (A.keep hb)
  have B := (B.keep hb)
  have X := (X.keep hb)
  have Y := (Y.keep hb)
  have Z := (Z.keep hb)
  have U := (U.keep hb)
  have HB := Lib.hid (bstep HB.out hb)
  clear hb
  clear A0 A1 B0 B1 X0 X1 Y0 Y1 Z0 Z1 U0 U1
  obtain ⟨A0, A1, -, -, -⟩ := id A
  obtain ⟨B0, B1, -, -, -⟩ := id B
  obtain ⟨X0, X1, -, -, -⟩ := id X
  obtain ⟨Y0, Y1, -, -, -⟩ := id Y
  obtain ⟨Z0, Z1, -, -, -⟩ := id Z
  obtain ⟨U0, U1, -, -, -⟩ := id U
  go_wp2_with fail
  clear A0 A1 B0 B1 X0 X1 Y0 Y1 Z0 Z1 U0 U1
  obtain ⟨A0, A1⟩ := A.bel
  obtain ⟨B0, B1⟩ := B.bel
  obtain ⟨X0, X1⟩ := X.bel
  obtain ⟨Y0, Y1⟩ := Y.bel
  obtain ⟨Z0, Z1⟩ := Z.bel
  obtain ⟨U0, U1⟩ := U.bel
  refine wp_region_bel (by kernel_rfl) (by kernel_rfl) ?_
  repeat (go_big_quiet_step (first | (go_at_call 24; first | (with_reducible refine bel_of (KN.out _)))))
  refine wpQuiet_nil ?_
  intro _ hw'
  obtain ⟨pq, hw''⟩ := hw'
  subst hw''
  have A := A.keep pq.h
  have B := B.keep pq.h
  have X := X.keep pq.h
  have Y := Y.keep pq.h
  have Z := Z.keep pq.h
  have U := U.keep pq.h
  have HB := Lib.hid (bstep HB.out pq.h)
  clear A0 A1 B0 B1 X0 X1 Y0 Y1 Z0 Z1 U0 U1
  obtain ⟨A0, A1, -, -, -⟩ := id A
  obtain ⟨B0, B1, -, -, -⟩ := id B
  obtain ⟨X0, X1, -, -, -⟩ := id X
  obtain ⟨Y0, Y1, -, -, -⟩ := id Y
  obtain ⟨Z0, Z1, -, -, -⟩ := id Z
  obtain ⟨U0, U1, -, -, -⟩ := id U
  go_wp2_with fail
  refine (V2.out _).mono ?_
  rintro e w7 ⟨rfl, hb⟩
  have A := (A.keep hb)
  have B := (B.keep hb)
  have X := (X.keep hb)
  have Y := (Y.keep hb)
  have Z := (Z.keep hb)
  have U := (U.keep hb)
  have HB := Lib.hid (bstep HB.out hb)
  clear hb
  clear A0 A1 B0 B1 X0 X1 Y0 Y1 Z0 Z1 U0 U1
  obtain ⟨A0, A1, -, -, -⟩ := id A
  obtain ⟨B0, B1, -, -, -⟩ := id B
  obtain ⟨X0, X1, -, -, -⟩ := id X
  obtain ⟨Y0, Y1, -, -, -⟩ := id Y
  obtain ⟨Z0, Z1, -, -, -⟩ := id Z
  obtain ⟨U0, U1, -, -, -⟩ := id U
  go_wp2_with fail
  clear A0 A1 B0 B1 X0 X1 Y0 Y1 Z0 Z1 U0 U1
  obtain ⟨A0, A1⟩ := A.bel
  obtain ⟨B0, B1⟩ := B.bel
  obtain ⟨X0, X1⟩ := X.bel
  obtain ⟨Y0, Y1⟩ := Y.bel
  obtain ⟨Z0, Z1⟩ := Z.bel
  obtain ⟨U0, U1⟩ := U.bel
  refine wp_region_bel (by kernel_rfl) (by kernel_rfl) ?_
  repeat (go_big_quiet_step (first | (go_at_call 27; first | (with_reducible refine bel_of (KA.out _))) | (go_at_call 28; first | (with_reducible refine bel_of (KS.out _))) | (go_at_call 26; first | (with_reducible refine bel_of (S1.out _)) | (with_reducible refine bel_of (S2.out _)))))
  refine wpQuiet_nil ?_
  intro _ hw'
  obtain ⟨pq, hw''⟩ := hw'
  subst hw''
  have A := A.keep pq.h
  have B := B.keep pq.h
  have X := X.keep pq.h
  have Y := Y.keep pq.h
  have Z := Z.keep pq.h
  have U := U.keep pq.h
  have HB := Lib.hid (bstep HB.out pq.h)
  clear A0 A1 B0 B1 X0 X1 Y0 Y1 Z0 Z1 U0 U1
  obtain ⟨A0, A1, -, -, -⟩ := id A
  obtain ⟨B0, B1, -, -, -⟩ := id B
  obtain ⟨X0, X1, -, -, -⟩ := id X
  obtain ⟨Y0, Y1, -, -, -⟩ := id Y
  obtain ⟨Z0, Z1, -, -, -⟩ := id Z
  obtain ⟨U0, U1, -, -, -⟩ := id U
  go_wp2_with fail
  go_ret
  exact ⟨rfl, HB.out⟩

set_option maxRecDepth 100000 in
set_option maxHeartbeats 8000000 in
theorem sm_r3_f (a b c d n m : Int) (w : World) (P : AnProg w) (n1 : -9223372036854775808 ≤ n) (n2 : n ≤ 9223372036854775807) (m1 : -9223372036854775808 ≤ m) (m2 : m ≤ 9223372036854775807) (ha : aok a b = true) (hc : aok c d = false) (ht0 : ¬ n < -1048576) (ht1 : ¬ n > 1048576) (ht : m < 1) :
    Calls Tryd.prog 4 #[.agg #[.int .i64 a, .int .i64 b], .agg #[.int .i64 c, .int .i64 d], .int .i64 n, .int .i64 m] w fun e w' => e = .returned (.bool true) ∧ Below w.heap.size w w' := by
  have CA := Lib.hid (fun wx (hb : Below w.heap.size w wx) => awake_any w P.toAnAw wx hb)
  have V1 := Lib.hid (fun wx => rValid_is a b true ha wx)
  have V2 := Lib.hid (fun wx => rValid_is c d false hc wx)
  have p := (aok_iff _ _).1 ha
  have KN := Lib.hid (fun wx => rNeg a b wx ha)
  unfold vI at KN
  have ht' : tmOk n m = false := (tmOk_not _ _).2 (by omega)
  have C4 := Lib.hid (fun wx => told 0 0 2 ((vA_yes _ ha).trans (if_neg (by rw [ht']; simp))) (P.times a b n m wx n1 n2 m1 m2))
  have C3 := Lib.hid (fun wx => told (-b) (-a) 0 (vA_yes _ ha) (P.neg a b wx))
  have C1 := Lib.hid (fun wx => told 0 0 1 (vA_no _ (by rw [ha, hc]; rfl)) (P.add a b c d wx))
  have C2 := Lib.hid (fun wx => told 0 0 1 (vA_no _ (by rw [ha, hc]; rfl)) (P.sub a b c d wx))
  generalize -b = nb at *
  generalize -a = na at *
  clear ha hc p n1 n2 m1 m2 ht'
  have A := At2.new w (.int .i64 a) (.int .i64 b) 23
  have A := A.alloc (.cells #[.int .i64 c, .int .i64 d] 23)
  have B := At2.new (w.alloc (.cells #[.int .i64 a, .int .i64 b] 23)) (.int .i64 c) (.int .i64 d) 23
  simp at B
  have HB := Lib.hid (bstep (bstep (Below.refl w.heap.size w) (below1 w (.cells #[.int .i64 a, .int .i64 b] 23))) (below1 (w.alloc (.cells #[.int .i64 a, .int .i64 b] 23)) (.cells #[.int .i64 c, .int .i64 d] 23)))
  go_enter Tryd.func4, Tryd.ntmps4
  obtain ⟨A0, A1, -, -, -⟩ := id A
  obtain ⟨B0, B1, -, -, -⟩ := id B
  go_wp2_with fail
  refine (CA.out _ HB.out).mono ?_
  rintro e w1 ⟨rfl, hb⟩
  have A := (A.keep hb)
  have B := (B.keep hb)
  have HB := Lib.hid (bstep HB.out hb)
  clear hb
  clear A0 A1 B0 B1
  obtain ⟨A0, A1, -, -, -⟩ := id A
  obtain ⟨B0, B1, -, -, -⟩ := id B
  go_wp2_with fail
  refine (C1.out _).mono ?_
  rintro e w2 ⟨rfl, hb⟩
  have A := (A.keep hb).alloc (.cells #[.int .i64 0, .int .i64 0] 23)
  have B := (B.keep hb).alloc (.cells #[.int .i64 0, .int .i64 0] 23)
  have X := At2.new w2 (.int .i64 0) (.int .i64 0) 23
  have HB := Lib.hid (bstep (bstep HB.out hb) (below1 w2 (.cells #[.int .i64 0, .int .i64 0] 23)))
  clear hb
  clear A0 A1 B0 B1
  obtain ⟨A0, A1, -, -, -⟩ := id A
  obtain ⟨B0, B1, -, -, -⟩ := id B
  obtain ⟨X0, X1, -, -, -⟩ := id X
  go_wp2_with fail
  refine (C2.out _).mono ?_
  rintro e w3 ⟨rfl, hb⟩
  have A := (A.keep hb).alloc (.cells #[.int .i64 0, .int .i64 0] 23)
  have B := (B.keep hb).alloc (.cells #[.int .i64 0, .int .i64 0] 23)
  have X := (X.keep hb).alloc (.cells #[.int .i64 0, .int .i64 0] 23)
  have Y := At2.new w3 (.int .i64 0) (.int .i64 0) 23
  have HB := Lib.hid (bstep (bstep HB.out hb) (below1 w3 (.cells #[.int .i64 0, .int .i64 0] 23)))
  clear hb
  clear A0 A1 B0 B1 X0 X1
  obtain ⟨A0, A1, -, -, -⟩ := id A
  obtain ⟨B0, B1, -, -, -⟩ := id B
  obtain ⟨X0, X1, -, -, -⟩ := id X
  obtain ⟨Y0, Y1, -, -, -⟩ := id Y
  go_wp2_with fail
  refine (C3.out _).mono ?_
  rintro e w4 ⟨rfl, hb⟩
  have A := (A.keep hb).alloc (.cells #[.int .i64 nb, .int .i64 na] 23)
  have B := (B.keep hb).alloc (.cells #[.int .i64 nb, .int .i64 na] 23)
  have X := (X.keep hb).alloc (.cells #[.int .i64 nb, .int .i64 na] 23)
  have Y := (Y.keep hb).alloc (.cells #[.int .i64 nb, .int .i64 na] 23)
  have Z := At2.new w4 (.int .i64 nb) (.int .i64 na) 23
  have HB := Lib.hid (bstep (bstep HB.out hb) (below1 w4 (.cells #[.int .i64 nb, .int .i64 na] 23)))
  clear hb
  clear A0 A1 B0 B1 X0 X1 Y0 Y1
  obtain ⟨A0, A1, -, -, -⟩ := id A
  obtain ⟨B0, B1, -, -, -⟩ := id B
  obtain ⟨X0, X1, -, -, -⟩ := id X
  obtain ⟨Y0, Y1, -, -, -⟩ := id Y
  obtain ⟨Z0, Z1, -, -, -⟩ := id Z
  go_wp2_with fail
  refine (C4.out _).mono ?_
  rintro e w5 ⟨rfl, hb⟩
  have A := (A.keep hb).alloc (.cells #[.int .i64 0, .int .i64 0] 23)
  have B := (B.keep hb).alloc (.cells #[.int .i64 0, .int .i64 0] 23)
  have X := (X.keep hb).alloc (.cells #[.int .i64 0, .int .i64 0] 23)
  have Y := (Y.keep hb).alloc (.cells #[.int .i64 0, .int .i64 0] 23)
  have Z := (Z.keep hb).alloc (.cells #[.int .i64 0, .int .i64 0] 23)
  have U := At2.new w5 (.int .i64 0) (.int .i64 0) 23
  have HB := Lib.hid (bstep (bstep HB.out hb) (below1 w5 (.cells #[.int .i64 0, .int .i64 0] 23)))
  clear hb
  clear A0 A1 B0 B1 X0 X1 Y0 Y1 Z0 Z1
  obtain ⟨A0, A1, -, -, -⟩ := id A
  obtain ⟨B0, B1, -, -, -⟩ := id B
  obtain ⟨X0, X1, -, -, -⟩ := id X
  obtain ⟨Y0, Y1, -, -, -⟩ := id Y
  obtain ⟨Z0, Z1, -, -, -⟩ := id Z
  obtain ⟨U0, U1, -, -, -⟩ := id U
  go_wp2_with fail
  refine (V1.out _).mono ?_
  rintro e w6 ⟨rfl, hb⟩
  have A := (A.keep hb)
  have B := (B.keep hb)
  have X := (X.keep hb)
  have Y := (Y.keep hb)
  have Z := (Z.keep hb)
  have U := (U.keep hb)
  have HB := Lib.hid (bstep HB.out hb)
  clear hb
  clear A0 A1 B0 B1 X0 X1 Y0 Y1 Z0 Z1 U0 U1
  obtain ⟨A0, A1, -, -, -⟩ := id A
  obtain ⟨B0, B1, -, -, -⟩ := id B
  obtain ⟨X0, X1, -, -, -⟩ := id X
  obtain ⟨Y0, Y1, -, -, -⟩ := id Y
  obtain ⟨Z0, Z1, -, -, -⟩ := id Z
  obtain ⟨U0, U1, -, -, -⟩ := id U
  go_wp2_with fail
  clear A0 A1 B0 B1 X0 X1 Y0 Y1 Z0 Z1 U0 U1
  obtain ⟨A0, A1⟩ := A.bel
  obtain ⟨B0, B1⟩ := B.bel
  obtain ⟨X0, X1⟩ := X.bel
  obtain ⟨Y0, Y1⟩ := Y.bel
  obtain ⟨Z0, Z1⟩ := Z.bel
  obtain ⟨U0, U1⟩ := U.bel
  refine wp_region_bel (by kernel_rfl) (by kernel_rfl) ?_
  repeat (go_big_quiet_step (first | (go_at_call 24; first | (with_reducible refine bel_of (KN.out _)))))
  refine wpQuiet_nil ?_
  intro _ hw'
  obtain ⟨pq, hw''⟩ := hw'
  subst hw''
  have A := A.keep pq.h
  have B := B.keep pq.h
  have X := X.keep pq.h
  have Y := Y.keep pq.h
  have Z := Z.keep pq.h
  have U := U.keep pq.h
  have HB := Lib.hid (bstep HB.out pq.h)
  clear A0 A1 B0 B1 X0 X1 Y0 Y1 Z0 Z1 U0 U1
  obtain ⟨A0, A1, -, -, -⟩ := id A
  obtain ⟨B0, B1, -, -, -⟩ := id B
  obtain ⟨X0, X1, -, -, -⟩ := id X
  obtain ⟨Y0, Y1, -, -, -⟩ := id Y
  obtain ⟨Z0, Z1, -, -, -⟩ := id Z
  obtain ⟨U0, U1, -, -, -⟩ := id U
  go_wp2_with fail
  refine (V2.out _).mono ?_
  rintro e w7 ⟨rfl, hb⟩
  have A := (A.keep hb)
  have B := (B.keep hb)
  have X := (X.keep hb)
  have Y := (Y.keep hb)
  have Z := (Z.keep hb)
  have U := (U.keep hb)
  have HB := Lib.hid (bstep HB.out hb)
  clear hb
  clear A0 A1 B0 B1 X0 X1 Y0 Y1 Z0 Z1 U0 U1
  obtain ⟨A0, A1, -, -, -⟩ := id A
  obtain ⟨B0, B1, -, -, -⟩ := id B
  obtain ⟨X0, X1, -, -, -⟩ := id X
  obtain ⟨Y0, Y1, -, -, -⟩ := id Y
  obtain ⟨Z0, Z1, -, -, -⟩ := id Z
  obtain ⟨U0, U1, -, -, -⟩ := id U
  go_wp2_with fail
  go_ret
  exact ⟨rfl, HB.out⟩

set_option maxRecDepth 100000 in
set_option maxHeartbeats 8000000 in
theorem sm_r3_t (a b c d n m : Int) (w : World) (P : AnProg w) (n1 : -9223372036854775808 ≤ n) (n2 : n ≤ 9223372036854775807) (m1 : -9223372036854775808 ≤ m) (m2 : m ≤ 9223372036854775807) (ha : aok a b = true) (hc : aok c d = true) (ht0 : ¬ n < -1048576) (ht1 : ¬ n > 1048576) (ht : m < 1) :
    Calls Tryd.prog 4 #[.agg #[.int .i64 a, .int .i64 b], .agg #[.int .i64 c, .int .i64 d], .int .i64 n, .int .i64 m] w fun e w' => e = .returned (.bool true) ∧ Below w.heap.size w w' := by
  have CA := Lib.hid (fun wx (hb : Below w.heap.size w wx) => awake_any w P.toAnAw wx hb)
  have V1 := Lib.hid (fun wx => rValid_is a b true ha wx)
  have V2 := Lib.hid (fun wx => rValid_is c d true hc wx)
  have p := (aok_iff _ _).1 ha
  have KN := Lib.hid (fun wx => rNeg a b wx ha)
  unfold vI at KN
  have ht' : tmOk n m = false := (tmOk_not _ _).2 (by omega)
  have C4 := Lib.hid (fun wx => told 0 0 2 ((vA_yes _ ha).trans (if_neg (by rw [ht']; simp))) (P.times a b n m wx n1 n2 m1 m2))
  have C3 := Lib.hid (fun wx => told (-b) (-a) 0 (vA_yes _ ha) (P.neg a b wx))
  have q := (aok_iff _ _).1 hc
  have C1 := Lib.hid (fun wx => told (afit (a + c) (b + d)).l (afit (a + c) (b + d)).h (afit (a + c) (b + d)).e (vA_yes _ (by rw [ha, hc]; rfl)) (P.add a b c d wx))
  have C2 := Lib.hid (fun wx => told (afit (a - d) (b - c)).l (afit (a - d) (b - c)).h (afit (a - d) (b - c)).e (vA_yes _ (by rw [ha, hc]; rfl)) (P.sub a b c d wx))
  have KA := Lib.hid (fun wx => rAdd a b c d wx (by omega) (by omega) (by omega) (by omega))
  have KS := Lib.hid (fun wx => rSub a b c d wx (by omega) (by omega) (by omega) (by omega))
  have S1 := Lib.hid (fun wx => same_any (a + c) (b + d) wx)
  have S2 := Lib.hid (fun wx => same_any (a - d) (b - c) wx)
  unfold vI at KA KS
  generalize afit (a + c) (b + d) = FX at *
  generalize afit (a - d) (b - c) = FY at *
  generalize a + c = s1 at *
  generalize b + d = s2 at *
  generalize a - d = s3 at *
  generalize b - c = s4 at *
  clear q
  generalize -b = nb at *
  generalize -a = na at *
  clear ha hc p n1 n2 m1 m2 ht'
  have A := At2.new w (.int .i64 a) (.int .i64 b) 23
  have A := A.alloc (.cells #[.int .i64 c, .int .i64 d] 23)
  have B := At2.new (w.alloc (.cells #[.int .i64 a, .int .i64 b] 23)) (.int .i64 c) (.int .i64 d) 23
  simp at B
  have HB := Lib.hid (bstep (bstep (Below.refl w.heap.size w) (below1 w (.cells #[.int .i64 a, .int .i64 b] 23))) (below1 (w.alloc (.cells #[.int .i64 a, .int .i64 b] 23)) (.cells #[.int .i64 c, .int .i64 d] 23)))
  go_enter Tryd.func4, Tryd.ntmps4
  obtain ⟨A0, A1, -, -, -⟩ := id A
  obtain ⟨B0, B1, -, -, -⟩ := id B
  go_wp2_with fail
  refine (CA.out _ HB.out).mono ?_
  rintro e w1 ⟨rfl, hb⟩
  have A := (A.keep hb)
  have B := (B.keep hb)
  have HB := Lib.hid (bstep HB.out hb)
  clear hb
  clear A0 A1 B0 B1
  obtain ⟨A0, A1, -, -, -⟩ := id A
  obtain ⟨B0, B1, -, -, -⟩ := id B
  go_wp2_with fail
  refine (C1.out _).mono ?_
  rintro e w2 ⟨rfl, hb⟩
  have A := (A.keep hb).alloc (.cells #[.int .i64 FX.l, .int .i64 FX.h] 23)
  have B := (B.keep hb).alloc (.cells #[.int .i64 FX.l, .int .i64 FX.h] 23)
  have X := At2.new w2 (.int .i64 FX.l) (.int .i64 FX.h) 23
  have HB := Lib.hid (bstep (bstep HB.out hb) (below1 w2 (.cells #[.int .i64 FX.l, .int .i64 FX.h] 23)))
  clear hb
  clear A0 A1 B0 B1
  obtain ⟨A0, A1, -, -, -⟩ := id A
  obtain ⟨B0, B1, -, -, -⟩ := id B
  obtain ⟨X0, X1, -, -, -⟩ := id X
  go_wp2_with fail
  refine (C2.out _).mono ?_
  rintro e w3 ⟨rfl, hb⟩
  have A := (A.keep hb).alloc (.cells #[.int .i64 FY.l, .int .i64 FY.h] 23)
  have B := (B.keep hb).alloc (.cells #[.int .i64 FY.l, .int .i64 FY.h] 23)
  have X := (X.keep hb).alloc (.cells #[.int .i64 FY.l, .int .i64 FY.h] 23)
  have Y := At2.new w3 (.int .i64 FY.l) (.int .i64 FY.h) 23
  have HB := Lib.hid (bstep (bstep HB.out hb) (below1 w3 (.cells #[.int .i64 FY.l, .int .i64 FY.h] 23)))
  clear hb
  clear A0 A1 B0 B1 X0 X1
  obtain ⟨A0, A1, -, -, -⟩ := id A
  obtain ⟨B0, B1, -, -, -⟩ := id B
  obtain ⟨X0, X1, -, -, -⟩ := id X
  obtain ⟨Y0, Y1, -, -, -⟩ := id Y
  go_wp2_with fail
  refine (C3.out _).mono ?_
  rintro e w4 ⟨rfl, hb⟩
  have A := (A.keep hb).alloc (.cells #[.int .i64 nb, .int .i64 na] 23)
  have B := (B.keep hb).alloc (.cells #[.int .i64 nb, .int .i64 na] 23)
  have X := (X.keep hb).alloc (.cells #[.int .i64 nb, .int .i64 na] 23)
  have Y := (Y.keep hb).alloc (.cells #[.int .i64 nb, .int .i64 na] 23)
  have Z := At2.new w4 (.int .i64 nb) (.int .i64 na) 23
  have HB := Lib.hid (bstep (bstep HB.out hb) (below1 w4 (.cells #[.int .i64 nb, .int .i64 na] 23)))
  clear hb
  clear A0 A1 B0 B1 X0 X1 Y0 Y1
  obtain ⟨A0, A1, -, -, -⟩ := id A
  obtain ⟨B0, B1, -, -, -⟩ := id B
  obtain ⟨X0, X1, -, -, -⟩ := id X
  obtain ⟨Y0, Y1, -, -, -⟩ := id Y
  obtain ⟨Z0, Z1, -, -, -⟩ := id Z
  go_wp2_with fail
  refine (C4.out _).mono ?_
  rintro e w5 ⟨rfl, hb⟩
  have A := (A.keep hb).alloc (.cells #[.int .i64 0, .int .i64 0] 23)
  have B := (B.keep hb).alloc (.cells #[.int .i64 0, .int .i64 0] 23)
  have X := (X.keep hb).alloc (.cells #[.int .i64 0, .int .i64 0] 23)
  have Y := (Y.keep hb).alloc (.cells #[.int .i64 0, .int .i64 0] 23)
  have Z := (Z.keep hb).alloc (.cells #[.int .i64 0, .int .i64 0] 23)
  have U := At2.new w5 (.int .i64 0) (.int .i64 0) 23
  have HB := Lib.hid (bstep (bstep HB.out hb) (below1 w5 (.cells #[.int .i64 0, .int .i64 0] 23)))
  clear hb
  clear A0 A1 B0 B1 X0 X1 Y0 Y1 Z0 Z1
  obtain ⟨A0, A1, -, -, -⟩ := id A
  obtain ⟨B0, B1, -, -, -⟩ := id B
  obtain ⟨X0, X1, -, -, -⟩ := id X
  obtain ⟨Y0, Y1, -, -, -⟩ := id Y
  obtain ⟨Z0, Z1, -, -, -⟩ := id Z
  obtain ⟨U0, U1, -, -, -⟩ := id U
  go_wp2_with fail
  refine (V1.out _).mono ?_
  rintro e w6 ⟨rfl, hb⟩
  have A := (A.keep hb)
  have B := (B.keep hb)
  have X := (X.keep hb)
  have Y := (Y.keep hb)
  have Z := (Z.keep hb)
  have U := (U.keep hb)
  have HB := Lib.hid (bstep HB.out hb)
  clear hb
  clear A0 A1 B0 B1 X0 X1 Y0 Y1 Z0 Z1 U0 U1
  obtain ⟨A0, A1, -, -, -⟩ := id A
  obtain ⟨B0, B1, -, -, -⟩ := id B
  obtain ⟨X0, X1, -, -, -⟩ := id X
  obtain ⟨Y0, Y1, -, -, -⟩ := id Y
  obtain ⟨Z0, Z1, -, -, -⟩ := id Z
  obtain ⟨U0, U1, -, -, -⟩ := id U
  go_wp2_with fail
  clear A0 A1 B0 B1 X0 X1 Y0 Y1 Z0 Z1 U0 U1
  obtain ⟨A0, A1⟩ := A.bel
  obtain ⟨B0, B1⟩ := B.bel
  obtain ⟨X0, X1⟩ := X.bel
  obtain ⟨Y0, Y1⟩ := Y.bel
  obtain ⟨Z0, Z1⟩ := Z.bel
  obtain ⟨U0, U1⟩ := U.bel
  refine wp_region_bel (by kernel_rfl) (by kernel_rfl) ?_
  repeat (go_big_quiet_step (first | (go_at_call 24; first | (with_reducible refine bel_of (KN.out _)))))
  refine wpQuiet_nil ?_
  intro _ hw'
  obtain ⟨pq, hw''⟩ := hw'
  subst hw''
  have A := A.keep pq.h
  have B := B.keep pq.h
  have X := X.keep pq.h
  have Y := Y.keep pq.h
  have Z := Z.keep pq.h
  have U := U.keep pq.h
  have HB := Lib.hid (bstep HB.out pq.h)
  clear A0 A1 B0 B1 X0 X1 Y0 Y1 Z0 Z1 U0 U1
  obtain ⟨A0, A1, -, -, -⟩ := id A
  obtain ⟨B0, B1, -, -, -⟩ := id B
  obtain ⟨X0, X1, -, -, -⟩ := id X
  obtain ⟨Y0, Y1, -, -, -⟩ := id Y
  obtain ⟨Z0, Z1, -, -, -⟩ := id Z
  obtain ⟨U0, U1, -, -, -⟩ := id U
  go_wp2_with fail
  refine (V2.out _).mono ?_
  rintro e w7 ⟨rfl, hb⟩
  have A := (A.keep hb)
  have B := (B.keep hb)
  have X := (X.keep hb)
  have Y := (Y.keep hb)
  have Z := (Z.keep hb)
  have U := (U.keep hb)
  have HB := Lib.hid (bstep HB.out hb)
  clear hb
  clear A0 A1 B0 B1 X0 X1 Y0 Y1 Z0 Z1 U0 U1
  obtain ⟨A0, A1, -, -, -⟩ := id A
  obtain ⟨B0, B1, -, -, -⟩ := id B
  obtain ⟨X0, X1, -, -, -⟩ := id X
  obtain ⟨Y0, Y1, -, -, -⟩ := id Y
  obtain ⟨Z0, Z1, -, -, -⟩ := id Z
  obtain ⟨U0, U1, -, -, -⟩ := id U
  go_wp2_with fail
  clear A0 A1 B0 B1 X0 X1 Y0 Y1 Z0 Z1 U0 U1
  obtain ⟨A0, A1⟩ := A.bel
  obtain ⟨B0, B1⟩ := B.bel
  obtain ⟨X0, X1⟩ := X.bel
  obtain ⟨Y0, Y1⟩ := Y.bel
  obtain ⟨Z0, Z1⟩ := Z.bel
  obtain ⟨U0, U1⟩ := U.bel
  refine wp_region_bel (by kernel_rfl) (by kernel_rfl) ?_
  repeat (go_big_quiet_step (first | (go_at_call 27; first | (with_reducible refine bel_of (KA.out _))) | (go_at_call 28; first | (with_reducible refine bel_of (KS.out _))) | (go_at_call 26; first | (with_reducible refine bel_of (S1.out _)) | (with_reducible refine bel_of (S2.out _)))))
  refine wpQuiet_nil ?_
  intro _ hw'
  obtain ⟨pq, hw''⟩ := hw'
  subst hw''
  have A := A.keep pq.h
  have B := B.keep pq.h
  have X := X.keep pq.h
  have Y := Y.keep pq.h
  have Z := Z.keep pq.h
  have U := U.keep pq.h
  have HB := Lib.hid (bstep HB.out pq.h)
  clear A0 A1 B0 B1 X0 X1 Y0 Y1 Z0 Z1 U0 U1
  obtain ⟨A0, A1, -, -, -⟩ := id A
  obtain ⟨B0, B1, -, -, -⟩ := id B
  obtain ⟨X0, X1, -, -, -⟩ := id X
  obtain ⟨Y0, Y1, -, -, -⟩ := id Y
  obtain ⟨Z0, Z1, -, -, -⟩ := id Z
  obtain ⟨U0, U1, -, -, -⟩ := id U
  go_wp2_with fail
  go_ret
  exact ⟨rfl, HB.out⟩

set_option maxRecDepth 100000 in
set_option maxHeartbeats 8000000 in
theorem sm_r4_f (a b c d n m : Int) (w : World) (P : AnProg w) (n1 : -9223372036854775808 ≤ n) (n2 : n ≤ 9223372036854775807) (m1 : -9223372036854775808 ≤ m) (m2 : m ≤ 9223372036854775807) (ha : aok a b = true) (hc : aok c d = false) (ht0 : ¬ n < -1048576) (ht1 : ¬ n > 1048576) (ht2 : ¬ m < 1) (ht : m > 1048576) :
    Calls Tryd.prog 4 #[.agg #[.int .i64 a, .int .i64 b], .agg #[.int .i64 c, .int .i64 d], .int .i64 n, .int .i64 m] w fun e w' => e = .returned (.bool true) ∧ Below w.heap.size w w' := by
  have CA := Lib.hid (fun wx (hb : Below w.heap.size w wx) => awake_any w P.toAnAw wx hb)
  have V1 := Lib.hid (fun wx => rValid_is a b true ha wx)
  have V2 := Lib.hid (fun wx => rValid_is c d false hc wx)
  have p := (aok_iff _ _).1 ha
  have KN := Lib.hid (fun wx => rNeg a b wx ha)
  unfold vI at KN
  have ht' : tmOk n m = false := (tmOk_not _ _).2 (by omega)
  have C4 := Lib.hid (fun wx => told 0 0 2 ((vA_yes _ ha).trans (if_neg (by rw [ht']; simp))) (P.times a b n m wx n1 n2 m1 m2))
  have C3 := Lib.hid (fun wx => told (-b) (-a) 0 (vA_yes _ ha) (P.neg a b wx))
  have C1 := Lib.hid (fun wx => told 0 0 1 (vA_no _ (by rw [ha, hc]; rfl)) (P.add a b c d wx))
  have C2 := Lib.hid (fun wx => told 0 0 1 (vA_no _ (by rw [ha, hc]; rfl)) (P.sub a b c d wx))
  generalize -b = nb at *
  generalize -a = na at *
  clear ha hc p n1 n2 m1 m2 ht'
  have A := At2.new w (.int .i64 a) (.int .i64 b) 23
  have A := A.alloc (.cells #[.int .i64 c, .int .i64 d] 23)
  have B := At2.new (w.alloc (.cells #[.int .i64 a, .int .i64 b] 23)) (.int .i64 c) (.int .i64 d) 23
  simp at B
  have HB := Lib.hid (bstep (bstep (Below.refl w.heap.size w) (below1 w (.cells #[.int .i64 a, .int .i64 b] 23))) (below1 (w.alloc (.cells #[.int .i64 a, .int .i64 b] 23)) (.cells #[.int .i64 c, .int .i64 d] 23)))
  go_enter Tryd.func4, Tryd.ntmps4
  obtain ⟨A0, A1, -, -, -⟩ := id A
  obtain ⟨B0, B1, -, -, -⟩ := id B
  go_wp2_with fail
  refine (CA.out _ HB.out).mono ?_
  rintro e w1 ⟨rfl, hb⟩
  have A := (A.keep hb)
  have B := (B.keep hb)
  have HB := Lib.hid (bstep HB.out hb)
  clear hb
  clear A0 A1 B0 B1
  obtain ⟨A0, A1, -, -, -⟩ := id A
  obtain ⟨B0, B1, -, -, -⟩ := id B
  go_wp2_with fail
  refine (C1.out _).mono ?_
  rintro e w2 ⟨rfl, hb⟩
  have A := (A.keep hb).alloc (.cells #[.int .i64 0, .int .i64 0] 23)
  have B := (B.keep hb).alloc (.cells #[.int .i64 0, .int .i64 0] 23)
  have X := At2.new w2 (.int .i64 0) (.int .i64 0) 23
  have HB := Lib.hid (bstep (bstep HB.out hb) (below1 w2 (.cells #[.int .i64 0, .int .i64 0] 23)))
  clear hb
  clear A0 A1 B0 B1
  obtain ⟨A0, A1, -, -, -⟩ := id A
  obtain ⟨B0, B1, -, -, -⟩ := id B
  obtain ⟨X0, X1, -, -, -⟩ := id X
  go_wp2_with fail
  refine (C2.out _).mono ?_
  rintro e w3 ⟨rfl, hb⟩
  have A := (A.keep hb).alloc (.cells #[.int .i64 0, .int .i64 0] 23)
  have B := (B.keep hb).alloc (.cells #[.int .i64 0, .int .i64 0] 23)
  have X := (X.keep hb).alloc (.cells #[.int .i64 0, .int .i64 0] 23)
  have Y := At2.new w3 (.int .i64 0) (.int .i64 0) 23
  have HB := Lib.hid (bstep (bstep HB.out hb) (below1 w3 (.cells #[.int .i64 0, .int .i64 0] 23)))
  clear hb
  clear A0 A1 B0 B1 X0 X1
  obtain ⟨A0, A1, -, -, -⟩ := id A
  obtain ⟨B0, B1, -, -, -⟩ := id B
  obtain ⟨X0, X1, -, -, -⟩ := id X
  obtain ⟨Y0, Y1, -, -, -⟩ := id Y
  go_wp2_with fail
  refine (C3.out _).mono ?_
  rintro e w4 ⟨rfl, hb⟩
  have A := (A.keep hb).alloc (.cells #[.int .i64 nb, .int .i64 na] 23)
  have B := (B.keep hb).alloc (.cells #[.int .i64 nb, .int .i64 na] 23)
  have X := (X.keep hb).alloc (.cells #[.int .i64 nb, .int .i64 na] 23)
  have Y := (Y.keep hb).alloc (.cells #[.int .i64 nb, .int .i64 na] 23)
  have Z := At2.new w4 (.int .i64 nb) (.int .i64 na) 23
  have HB := Lib.hid (bstep (bstep HB.out hb) (below1 w4 (.cells #[.int .i64 nb, .int .i64 na] 23)))
  clear hb
  clear A0 A1 B0 B1 X0 X1 Y0 Y1
  obtain ⟨A0, A1, -, -, -⟩ := id A
  obtain ⟨B0, B1, -, -, -⟩ := id B
  obtain ⟨X0, X1, -, -, -⟩ := id X
  obtain ⟨Y0, Y1, -, -, -⟩ := id Y
  obtain ⟨Z0, Z1, -, -, -⟩ := id Z
  go_wp2_with fail
  refine (C4.out _).mono ?_
  rintro e w5 ⟨rfl, hb⟩
  have A := (A.keep hb).alloc (.cells #[.int .i64 0, .int .i64 0] 23)
  have B := (B.keep hb).alloc (.cells #[.int .i64 0, .int .i64 0] 23)
  have X := (X.keep hb).alloc (.cells #[.int .i64 0, .int .i64 0] 23)
  have Y := (Y.keep hb).alloc (.cells #[.int .i64 0, .int .i64 0] 23)
  have Z := (Z.keep hb).alloc (.cells #[.int .i64 0, .int .i64 0] 23)
  have U := At2.new w5 (.int .i64 0) (.int .i64 0) 23
  have HB := Lib.hid (bstep (bstep HB.out hb) (below1 w5 (.cells #[.int .i64 0, .int .i64 0] 23)))
  clear hb
  clear A0 A1 B0 B1 X0 X1 Y0 Y1 Z0 Z1
  obtain ⟨A0, A1, -, -, -⟩ := id A
  obtain ⟨B0, B1, -, -, -⟩ := id B
  obtain ⟨X0, X1, -, -, -⟩ := id X
  obtain ⟨Y0, Y1, -, -, -⟩ := id Y
  obtain ⟨Z0, Z1, -, -, -⟩ := id Z
  obtain ⟨U0, U1, -, -, -⟩ := id U
  go_wp2_with fail
  refine (V1.out _).mono ?_
  rintro e w6 ⟨rfl, hb⟩
  have A := (A.keep hb)
  have B := (B.keep hb)
  have X := (X.keep hb)
  have Y := (Y.keep hb)
  have Z := (Z.keep hb)
  have U := (U.keep hb)
  have HB := Lib.hid (bstep HB.out hb)
  clear hb
  clear A0 A1 B0 B1 X0 X1 Y0 Y1 Z0 Z1 U0 U1
  obtain ⟨A0, A1, -, -, -⟩ := id A
  obtain ⟨B0, B1, -, -, -⟩ := id B
  obtain ⟨X0, X1, -, -, -⟩ := id X
  obtain ⟨Y0, Y1, -, -, -⟩ := id Y
  obtain ⟨Z0, Z1, -, -, -⟩ := id Z
  obtain ⟨U0, U1, -, -, -⟩ := id U
  go_wp2_with fail
  clear A0 A1 B0 B1 X0 X1 Y0 Y1 Z0 Z1 U0 U1
  obtain ⟨A0, A1⟩ := A.bel
  obtain ⟨B0, B1⟩ := B.bel
  obtain ⟨X0, X1⟩ := X.bel
  obtain ⟨Y0, Y1⟩ := Y.bel
  obtain ⟨Z0, Z1⟩ := Z.bel
  obtain ⟨U0, U1⟩ := U.bel
  refine wp_region_bel (by kernel_rfl) (by kernel_rfl) ?_
  repeat (go_big_quiet_step (first | (go_at_call 24; first | (with_reducible refine bel_of (KN.out _)))))
  refine wpQuiet_nil ?_
  intro _ hw'
  obtain ⟨pq, hw''⟩ := hw'
  subst hw''
  have A := A.keep pq.h
  have B := B.keep pq.h
  have X := X.keep pq.h
  have Y := Y.keep pq.h
  have Z := Z.keep pq.h
  have U := U.keep pq.h
  have HB := Lib.hid (bstep HB.out pq.h)
  clear A0 A1 B0 B1 X0 X1 Y0 Y1 Z0 Z1 U0 U1
  obtain ⟨A0, A1, -, -, -⟩ := id A
  obtain ⟨B0, B1, -, -, -⟩ := id B
  obtain ⟨X0, X1, -, -, -⟩ := id X
  obtain ⟨Y0, Y1, -, -, -⟩ := id Y
  obtain ⟨Z0, Z1, -, -, -⟩ := id Z
  obtain ⟨U0, U1, -, -, -⟩ := id U
  go_wp2_with fail
  refine (V2.out _).mono ?_
  rintro e w7 ⟨rfl, hb⟩
  have A := (A.keep hb)
  have B := (B.keep hb)
  have X := (X.keep hb)
  have Y := (Y.keep hb)
  have Z := (Z.keep hb)
  have U := (U.keep hb)
  have HB := Lib.hid (bstep HB.out hb)
  clear hb
  clear A0 A1 B0 B1 X0 X1 Y0 Y1 Z0 Z1 U0 U1
  obtain ⟨A0, A1, -, -, -⟩ := id A
  obtain ⟨B0, B1, -, -, -⟩ := id B
  obtain ⟨X0, X1, -, -, -⟩ := id X
  obtain ⟨Y0, Y1, -, -, -⟩ := id Y
  obtain ⟨Z0, Z1, -, -, -⟩ := id Z
  obtain ⟨U0, U1, -, -, -⟩ := id U
  go_wp2_with fail
  go_ret
  exact ⟨rfl, HB.out⟩

set_option maxRecDepth 100000 in
set_option maxHeartbeats 8000000 in
theorem sm_r4_t (a b c d n m : Int) (w : World) (P : AnProg w) (n1 : -9223372036854775808 ≤ n) (n2 : n ≤ 9223372036854775807) (m1 : -9223372036854775808 ≤ m) (m2 : m ≤ 9223372036854775807) (ha : aok a b = true) (hc : aok c d = true) (ht0 : ¬ n < -1048576) (ht1 : ¬ n > 1048576) (ht2 : ¬ m < 1) (ht : m > 1048576) :
    Calls Tryd.prog 4 #[.agg #[.int .i64 a, .int .i64 b], .agg #[.int .i64 c, .int .i64 d], .int .i64 n, .int .i64 m] w fun e w' => e = .returned (.bool true) ∧ Below w.heap.size w w' := by
  have CA := Lib.hid (fun wx (hb : Below w.heap.size w wx) => awake_any w P.toAnAw wx hb)
  have V1 := Lib.hid (fun wx => rValid_is a b true ha wx)
  have V2 := Lib.hid (fun wx => rValid_is c d true hc wx)
  have p := (aok_iff _ _).1 ha
  have KN := Lib.hid (fun wx => rNeg a b wx ha)
  unfold vI at KN
  have ht' : tmOk n m = false := (tmOk_not _ _).2 (by omega)
  have C4 := Lib.hid (fun wx => told 0 0 2 ((vA_yes _ ha).trans (if_neg (by rw [ht']; simp))) (P.times a b n m wx n1 n2 m1 m2))
  have C3 := Lib.hid (fun wx => told (-b) (-a) 0 (vA_yes _ ha) (P.neg a b wx))
  have q := (aok_iff _ _).1 hc
  have C1 := Lib.hid (fun wx => told (afit (a + c) (b + d)).l (afit (a + c) (b + d)).h (afit (a + c) (b + d)).e (vA_yes _ (by rw [ha, hc]; rfl)) (P.add a b c d wx))
  have C2 := Lib.hid (fun wx => told (afit (a - d) (b - c)).l (afit (a - d) (b - c)).h (afit (a - d) (b - c)).e (vA_yes _ (by rw [ha, hc]; rfl)) (P.sub a b c d wx))
  have KA := Lib.hid (fun wx => rAdd a b c d wx (by omega) (by omega) (by omega) (by omega))
  have KS := Lib.hid (fun wx => rSub a b c d wx (by omega) (by omega) (by omega) (by omega))
  have S1 := Lib.hid (fun wx => same_any (a + c) (b + d) wx)
  have S2 := Lib.hid (fun wx => same_any (a - d) (b - c) wx)
  unfold vI at KA KS
  generalize afit (a + c) (b + d) = FX at *
  generalize afit (a - d) (b - c) = FY at *
  generalize a + c = s1 at *
  generalize b + d = s2 at *
  generalize a - d = s3 at *
  generalize b - c = s4 at *
  clear q
  generalize -b = nb at *
  generalize -a = na at *
  clear ha hc p n1 n2 m1 m2 ht'
  have A := At2.new w (.int .i64 a) (.int .i64 b) 23
  have A := A.alloc (.cells #[.int .i64 c, .int .i64 d] 23)
  have B := At2.new (w.alloc (.cells #[.int .i64 a, .int .i64 b] 23)) (.int .i64 c) (.int .i64 d) 23
  simp at B
  have HB := Lib.hid (bstep (bstep (Below.refl w.heap.size w) (below1 w (.cells #[.int .i64 a, .int .i64 b] 23))) (below1 (w.alloc (.cells #[.int .i64 a, .int .i64 b] 23)) (.cells #[.int .i64 c, .int .i64 d] 23)))
  go_enter Tryd.func4, Tryd.ntmps4
  obtain ⟨A0, A1, -, -, -⟩ := id A
  obtain ⟨B0, B1, -, -, -⟩ := id B
  go_wp2_with fail
  refine (CA.out _ HB.out).mono ?_
  rintro e w1 ⟨rfl, hb⟩
  have A := (A.keep hb)
  have B := (B.keep hb)
  have HB := Lib.hid (bstep HB.out hb)
  clear hb
  clear A0 A1 B0 B1
  obtain ⟨A0, A1, -, -, -⟩ := id A
  obtain ⟨B0, B1, -, -, -⟩ := id B
  go_wp2_with fail
  refine (C1.out _).mono ?_
  rintro e w2 ⟨rfl, hb⟩
  have A := (A.keep hb).alloc (.cells #[.int .i64 FX.l, .int .i64 FX.h] 23)
  have B := (B.keep hb).alloc (.cells #[.int .i64 FX.l, .int .i64 FX.h] 23)
  have X := At2.new w2 (.int .i64 FX.l) (.int .i64 FX.h) 23
  have HB := Lib.hid (bstep (bstep HB.out hb) (below1 w2 (.cells #[.int .i64 FX.l, .int .i64 FX.h] 23)))
  clear hb
  clear A0 A1 B0 B1
  obtain ⟨A0, A1, -, -, -⟩ := id A
  obtain ⟨B0, B1, -, -, -⟩ := id B
  obtain ⟨X0, X1, -, -, -⟩ := id X
  go_wp2_with fail
  refine (C2.out _).mono ?_
  rintro e w3 ⟨rfl, hb⟩
  have A := (A.keep hb).alloc (.cells #[.int .i64 FY.l, .int .i64 FY.h] 23)
  have B := (B.keep hb).alloc (.cells #[.int .i64 FY.l, .int .i64 FY.h] 23)
  have X := (X.keep hb).alloc (.cells #[.int .i64 FY.l, .int .i64 FY.h] 23)
  have Y := At2.new w3 (.int .i64 FY.l) (.int .i64 FY.h) 23
  have HB := Lib.hid (bstep (bstep HB.out hb) (below1 w3 (.cells #[.int .i64 FY.l, .int .i64 FY.h] 23)))
  clear hb
  clear A0 A1 B0 B1 X0 X1
  obtain ⟨A0, A1, -, -, -⟩ := id A
  obtain ⟨B0, B1, -, -, -⟩ := id B
  obtain ⟨X0, X1, -, -, -⟩ := id X
  obtain ⟨Y0, Y1, -, -, -⟩ := id Y
  go_wp2_with fail
  refine (C3.out _).mono ?_
  rintro e w4 ⟨rfl, hb⟩
  have A := (A.keep hb).alloc (.cells #[.int .i64 nb, .int .i64 na] 23)
  have B := (B.keep hb).alloc (.cells #[.int .i64 nb, .int .i64 na] 23)
  have X := (X.keep hb).alloc (.cells #[.int .i64 nb, .int .i64 na] 23)
  have Y := (Y.keep hb).alloc (.cells #[.int .i64 nb, .int .i64 na] 23)
  have Z := At2.new w4 (.int .i64 nb) (.int .i64 na) 23
  have HB := Lib.hid (bstep (bstep HB.out hb) (below1 w4 (.cells #[.int .i64 nb, .int .i64 na] 23)))
  clear hb
  clear A0 A1 B0 B1 X0 X1 Y0 Y1
  obtain ⟨A0, A1, -, -, -⟩ := id A
  obtain ⟨B0, B1, -, -, -⟩ := id B
  obtain ⟨X0, X1, -, -, -⟩ := id X
  obtain ⟨Y0, Y1, -, -, -⟩ := id Y
  obtain ⟨Z0, Z1, -, -, -⟩ := id Z
  go_wp2_with fail
  refine (C4.out _).mono ?_
  rintro e w5 ⟨rfl, hb⟩
  have A := (A.keep hb).alloc (.cells #[.int .i64 0, .int .i64 0] 23)
  have B := (B.keep hb).alloc (.cells #[.int .i64 0, .int .i64 0] 23)
  have X := (X.keep hb).alloc (.cells #[.int .i64 0, .int .i64 0] 23)
  have Y := (Y.keep hb).alloc (.cells #[.int .i64 0, .int .i64 0] 23)
  have Z := (Z.keep hb).alloc (.cells #[.int .i64 0, .int .i64 0] 23)
  have U := At2.new w5 (.int .i64 0) (.int .i64 0) 23
  have HB := Lib.hid (bstep (bstep HB.out hb) (below1 w5 (.cells #[.int .i64 0, .int .i64 0] 23)))
  clear hb
  clear A0 A1 B0 B1 X0 X1 Y0 Y1 Z0 Z1
  obtain ⟨A0, A1, -, -, -⟩ := id A
  obtain ⟨B0, B1, -, -, -⟩ := id B
  obtain ⟨X0, X1, -, -, -⟩ := id X
  obtain ⟨Y0, Y1, -, -, -⟩ := id Y
  obtain ⟨Z0, Z1, -, -, -⟩ := id Z
  obtain ⟨U0, U1, -, -, -⟩ := id U
  go_wp2_with fail
  refine (V1.out _).mono ?_
  rintro e w6 ⟨rfl, hb⟩
  have A := (A.keep hb)
  have B := (B.keep hb)
  have X := (X.keep hb)
  have Y := (Y.keep hb)
  have Z := (Z.keep hb)
  have U := (U.keep hb)
  have HB := Lib.hid (bstep HB.out hb)
  clear hb
  clear A0 A1 B0 B1 X0 X1 Y0 Y1 Z0 Z1 U0 U1
  obtain ⟨A0, A1, -, -, -⟩ := id A
  obtain ⟨B0, B1, -, -, -⟩ := id B
  obtain ⟨X0, X1, -, -, -⟩ := id X
  obtain ⟨Y0, Y1, -, -, -⟩ := id Y
  obtain ⟨Z0, Z1, -, -, -⟩ := id Z
  obtain ⟨U0, U1, -, -, -⟩ := id U
  go_wp2_with fail
  clear A0 A1 B0 B1 X0 X1 Y0 Y1 Z0 Z1 U0 U1
  obtain ⟨A0, A1⟩ := A.bel
  obtain ⟨B0, B1⟩ := B.bel
  obtain ⟨X0, X1⟩ := X.bel
  obtain ⟨Y0, Y1⟩ := Y.bel
  obtain ⟨Z0, Z1⟩ := Z.bel
  obtain ⟨U0, U1⟩ := U.bel
  refine wp_region_bel (by kernel_rfl) (by kernel_rfl) ?_
  repeat (go_big_quiet_step (first | (go_at_call 24; first | (with_reducible refine bel_of (KN.out _)))))
  refine wpQuiet_nil ?_
  intro _ hw'
  obtain ⟨pq, hw''⟩ := hw'
  subst hw''
  have A := A.keep pq.h
  have B := B.keep pq.h
  have X := X.keep pq.h
  have Y := Y.keep pq.h
  have Z := Z.keep pq.h
  have U := U.keep pq.h
  have HB := Lib.hid (bstep HB.out pq.h)
  clear A0 A1 B0 B1 X0 X1 Y0 Y1 Z0 Z1 U0 U1
  obtain ⟨A0, A1, -, -, -⟩ := id A
  obtain ⟨B0, B1, -, -, -⟩ := id B
  obtain ⟨X0, X1, -, -, -⟩ := id X
  obtain ⟨Y0, Y1, -, -, -⟩ := id Y
  obtain ⟨Z0, Z1, -, -, -⟩ := id Z
  obtain ⟨U0, U1, -, -, -⟩ := id U
  go_wp2_with fail
  refine (V2.out _).mono ?_
  rintro e w7 ⟨rfl, hb⟩
  have A := (A.keep hb)
  have B := (B.keep hb)
  have X := (X.keep hb)
  have Y := (Y.keep hb)
  have Z := (Z.keep hb)
  have U := (U.keep hb)
  have HB := Lib.hid (bstep HB.out hb)
  clear hb
  clear A0 A1 B0 B1 X0 X1 Y0 Y1 Z0 Z1 U0 U1
  obtain ⟨A0, A1, -, -, -⟩ := id A
  obtain ⟨B0, B1, -, -, -⟩ := id B
  obtain ⟨X0, X1, -, -, -⟩ := id X
  obtain ⟨Y0, Y1, -, -, -⟩ := id Y
  obtain ⟨Z0, Z1, -, -, -⟩ := id Z
  obtain ⟨U0, U1, -, -, -⟩ := id U
  go_wp2_with fail
  clear A0 A1 B0 B1 X0 X1 Y0 Y1 Z0 Z1 U0 U1
  obtain ⟨A0, A1⟩ := A.bel
  obtain ⟨B0, B1⟩ := B.bel
  obtain ⟨X0, X1⟩ := X.bel
  obtain ⟨Y0, Y1⟩ := Y.bel
  obtain ⟨Z0, Z1⟩ := Z.bel
  obtain ⟨U0, U1⟩ := U.bel
  refine wp_region_bel (by kernel_rfl) (by kernel_rfl) ?_
  repeat (go_big_quiet_step (first | (go_at_call 27; first | (with_reducible refine bel_of (KA.out _))) | (go_at_call 28; first | (with_reducible refine bel_of (KS.out _))) | (go_at_call 26; first | (with_reducible refine bel_of (S1.out _)) | (with_reducible refine bel_of (S2.out _)))))
  refine wpQuiet_nil ?_
  intro _ hw'
  obtain ⟨pq, hw''⟩ := hw'
  subst hw''
  have A := A.keep pq.h
  have B := B.keep pq.h
  have X := X.keep pq.h
  have Y := Y.keep pq.h
  have Z := Z.keep pq.h
  have U := U.keep pq.h
  have HB := Lib.hid (bstep HB.out pq.h)
  clear A0 A1 B0 B1 X0 X1 Y0 Y1 Z0 Z1 U0 U1
  obtain ⟨A0, A1, -, -, -⟩ := id A
  obtain ⟨B0, B1, -, -, -⟩ := id B
  obtain ⟨X0, X1, -, -, -⟩ := id X
  obtain ⟨Y0, Y1, -, -, -⟩ := id Y
  obtain ⟨Z0, Z1, -, -, -⟩ := id Z
  obtain ⟨U0, U1, -, -, -⟩ := id U
  go_wp2_with fail
  go_ret
  exact ⟨rfl, HB.out⟩

set_option maxRecDepth 100000 in
set_option maxHeartbeats 8000000 in
theorem sm_bad_f (a b c d n m : Int) (w : World) (P : AnProg w) (n1 : -9223372036854775808 ≤ n) (n2 : n ≤ 9223372036854775807) (m1 : -9223372036854775808 ≤ m) (m2 : m ≤ 9223372036854775807) (ha : aok a b = true) (hc : aok c d = false) (ht0 : ¬ n < -1048576) (ht1 : ¬ n > 1048576) (ht2 : ¬ m < 1) (ht : ¬ m > 1048576) (hv : aok (tmL a b n m) (tmH a b n m) = false) :
    Calls Tryd.prog 4 #[.agg #[.int .i64 a, .int .i64 b], .agg #[.int .i64 c, .int .i64 d], .int .i64 n, .int .i64 m] w fun e w' => e = .returned (.bool true) ∧ Below w.heap.size w w' := by
  have CA := Lib.hid (fun wx (hb : Below w.heap.size w wx) => awake_any w P.toAnAw wx hb)
  have V1 := Lib.hid (fun wx => rValid_is a b true ha wx)
  have V2 := Lib.hid (fun wx => rValid_is c d false hc wx)
  have p := (aok_iff _ _).1 ha
  have KN := Lib.hid (fun wx => rNeg a b wx ha)
  unfold vI at KN
  have ht' : tmOk n m = true := (tmOk_iff _ _).2 (by omega)
  have KT := Lib.hid (fun wx => rTimes a b n m wx ha ht')
  unfold vI at KT
  have C4 := Lib.hid (fun wx => told 0 0 5 ((vA_yes _ ha).trans ((if_pos ht').trans (afit_no hv))) (P.times a b n m wx n1 n2 m1 m2))
  have VV := Lib.hid (fun wx => rValid_is _ _ false hv wx)
  clear hv
  generalize tmL a b n m = l at *
  generalize tmH a b n m = h at *
  have C3 := Lib.hid (fun wx => told (-b) (-a) 0 (vA_yes _ ha) (P.neg a b wx))
  have C1 := Lib.hid (fun wx => told 0 0 1 (vA_no _ (by rw [ha, hc]; rfl)) (P.add a b c d wx))
  have C2 := Lib.hid (fun wx => told 0 0 1 (vA_no _ (by rw [ha, hc]; rfl)) (P.sub a b c d wx))
  generalize -b = nb at *
  generalize -a = na at *
  clear ha hc p n1 n2 m1 m2 ht'
  have A := At2.new w (.int .i64 a) (.int .i64 b) 23
  have A := A.alloc (.cells #[.int .i64 c, .int .i64 d] 23)
  have B := At2.new (w.alloc (.cells #[.int .i64 a, .int .i64 b] 23)) (.int .i64 c) (.int .i64 d) 23
  simp at B
  have HB := Lib.hid (bstep (bstep (Below.refl w.heap.size w) (below1 w (.cells #[.int .i64 a, .int .i64 b] 23))) (below1 (w.alloc (.cells #[.int .i64 a, .int .i64 b] 23)) (.cells #[.int .i64 c, .int .i64 d] 23)))
  go_enter Tryd.func4, Tryd.ntmps4
  obtain ⟨A0, A1, -, -, -⟩ := id A
  obtain ⟨B0, B1, -, -, -⟩ := id B
  go_wp2_with fail
  refine (CA.out _ HB.out).mono ?_
  rintro e w1 ⟨rfl, hb⟩
  have A := (A.keep hb)
  have B := (B.keep hb)
  have HB := Lib.hid (bstep HB.out hb)
  clear hb
  clear A0 A1 B0 B1
  obtain ⟨A0, A1, -, -, -⟩ := id A
  obtain ⟨B0, B1, -, -, -⟩ := id B
  go_wp2_with fail
  refine (C1.out _).mono ?_
  rintro e w2 ⟨rfl, hb⟩
  have A := (A.keep hb).alloc (.cells #[.int .i64 0, .int .i64 0] 23)
  have B := (B.keep hb).alloc (.cells #[.int .i64 0, .int .i64 0] 23)
  have X := At2.new w2 (.int .i64 0) (.int .i64 0) 23
  have HB := Lib.hid (bstep (bstep HB.out hb) (below1 w2 (.cells #[.int .i64 0, .int .i64 0] 23)))
  clear hb
  clear A0 A1 B0 B1
  obtain ⟨A0, A1, -, -, -⟩ := id A
  obtain ⟨B0, B1, -, -, -⟩ := id B
  obtain ⟨X0, X1, -, -, -⟩ := id X
  go_wp2_with fail
  refine (C2.out _).mono ?_
  rintro e w3 ⟨rfl, hb⟩
  have A := (A.keep hb).alloc (.cells #[.int .i64 0, .int .i64 0] 23)
  have B := (B.keep hb).alloc (.cells #[.int .i64 0, .int .i64 0] 23)
  have X := (X.keep hb).alloc (.cells #[.int .i64 0, .int .i64 0] 23)
  have Y := At2.new w3 (.int .i64 0) (.int .i64 0) 23
  have HB := Lib.hid (bstep (bstep HB.out hb) (below1 w3 (.cells #[.int .i64 0, .int .i64 0] 23)))
  clear hb
  clear A0 A1 B0 B1 X0 X1
  obtain ⟨A0, A1, -, -, -⟩ := id A
  obtain ⟨B0, B1, -, -, -⟩ := id B
  obtain ⟨X0, X1, -, -, -⟩ := id X
  obtain ⟨Y0, Y1, -, -, -⟩ := id Y
  go_wp2_with fail
  refine (C3.out _).mono ?_
  rintro e w4 ⟨rfl, hb⟩
  have A := (A.keep hb).alloc (.cells #[.int .i64 nb, .int .i64 na] 23)
  have B := (B.keep hb).alloc (.cells #[.int .i64 nb, .int .i64 na] 23)
  have X := (X.keep hb).alloc (.cells #[.int .i64 nb, .int .i64 na] 23)
  have Y := (Y.keep hb).alloc (.cells #[.int .i64 nb, .int .i64 na] 23)
  have Z := At2.new w4 (.int .i64 nb) (.int .i64 na) 23
  have HB := Lib.hid (bstep (bstep HB.out hb) (below1 w4 (.cells #[.int .i64 nb, .int .i64 na] 23)))
  clear hb
  clear A0 A1 B0 B1 X0 X1 Y0 Y1
  obtain ⟨A0, A1, -, -, -⟩ := id A
  obtain ⟨B0, B1, -, -, -⟩ := id B
  obtain ⟨X0, X1, -, -, -⟩ := id X
  obtain ⟨Y0, Y1, -, -, -⟩ := id Y
  obtain ⟨Z0, Z1, -, -, -⟩ := id Z
  go_wp2_with fail
  refine (C4.out _).mono ?_
  rintro e w5 ⟨rfl, hb⟩
  have A := (A.keep hb).alloc (.cells #[.int .i64 0, .int .i64 0] 23)
  have B := (B.keep hb).alloc (.cells #[.int .i64 0, .int .i64 0] 23)
  have X := (X.keep hb).alloc (.cells #[.int .i64 0, .int .i64 0] 23)
  have Y := (Y.keep hb).alloc (.cells #[.int .i64 0, .int .i64 0] 23)
  have Z := (Z.keep hb).alloc (.cells #[.int .i64 0, .int .i64 0] 23)
  have U := At2.new w5 (.int .i64 0) (.int .i64 0) 23
  have HB := Lib.hid (bstep (bstep HB.out hb) (below1 w5 (.cells #[.int .i64 0, .int .i64 0] 23)))
  clear hb
  clear A0 A1 B0 B1 X0 X1 Y0 Y1 Z0 Z1
  obtain ⟨A0, A1, -, -, -⟩ := id A
  obtain ⟨B0, B1, -, -, -⟩ := id B
  obtain ⟨X0, X1, -, -, -⟩ := id X
  obtain ⟨Y0, Y1, -, -, -⟩ := id Y
  obtain ⟨Z0, Z1, -, -, -⟩ := id Z
  obtain ⟨U0, U1, -, -, -⟩ := id U
  go_wp2_with fail
  refine (V1.out _).mono ?_
  rintro e w6 ⟨rfl, hb⟩
  have A := (A.keep hb)
  have B := (B.keep hb)
  have X := (X.keep hb)
  have Y := (Y.keep hb)
  have Z := (Z.keep hb)
  have U := (U.keep hb)
  have HB := Lib.hid (bstep HB.out hb)
  clear hb
  clear A0 A1 B0 B1 X0 X1 Y0 Y1 Z0 Z1 U0 U1
  obtain ⟨A0, A1, -, -, -⟩ := id A
  obtain ⟨B0, B1, -, -, -⟩ := id B
  obtain ⟨X0, X1, -, -, -⟩ := id X
  obtain ⟨Y0, Y1, -, -, -⟩ := id Y
  obtain ⟨Z0, Z1, -, -, -⟩ := id Z
  obtain ⟨U0, U1, -, -, -⟩ := id U
  go_wp2_with fail
  clear A0 A1 B0 B1 X0 X1 Y0 Y1 Z0 Z1 U0 U1
  obtain ⟨A0, A1⟩ := A.bel
  obtain ⟨B0, B1⟩ := B.bel
  obtain ⟨X0, X1⟩ := X.bel
  obtain ⟨Y0, Y1⟩ := Y.bel
  obtain ⟨Z0, Z1⟩ := Z.bel
  obtain ⟨U0, U1⟩ := U.bel
  refine wp_region_bel (by kernel_rfl) (by kernel_rfl) ?_
  repeat (go_big_quiet_step (first | (go_at_call 24; first | (with_reducible refine bel_of (KN.out _)))))
  refine wpQuiet_nil ?_
  intro _ hw'
  obtain ⟨pq, hw''⟩ := hw'
  subst hw''
  have A := A.keep pq.h
  have B := B.keep pq.h
  have X := X.keep pq.h
  have Y := Y.keep pq.h
  have Z := Z.keep pq.h
  have U := U.keep pq.h
  have HB := Lib.hid (bstep HB.out pq.h)
  clear A0 A1 B0 B1 X0 X1 Y0 Y1 Z0 Z1 U0 U1
  obtain ⟨A0, A1, -, -, -⟩ := id A
  obtain ⟨B0, B1, -, -, -⟩ := id B
  obtain ⟨X0, X1, -, -, -⟩ := id X
  obtain ⟨Y0, Y1, -, -, -⟩ := id Y
  obtain ⟨Z0, Z1, -, -, -⟩ := id Z
  obtain ⟨U0, U1, -, -, -⟩ := id U
  go_wp2_with fail
  refine (KT.out _).mono ?_
  rintro e w7 ⟨rfl, hb⟩
  have A := (A.keep hb).alloc (.cells #[.int .i64 l, .int .i64 h] 23)
  have B := (B.keep hb).alloc (.cells #[.int .i64 l, .int .i64 h] 23)
  have X := (X.keep hb).alloc (.cells #[.int .i64 l, .int .i64 h] 23)
  have Y := (Y.keep hb).alloc (.cells #[.int .i64 l, .int .i64 h] 23)
  have Z := (Z.keep hb).alloc (.cells #[.int .i64 l, .int .i64 h] 23)
  have U := (U.keep hb).alloc (.cells #[.int .i64 l, .int .i64 h] 23)
  have T := At2.new w7 (.int .i64 l) (.int .i64 h) 23
  have HB := Lib.hid (bstep (bstep HB.out hb) (below1 w7 (.cells #[.int .i64 l, .int .i64 h] 23)))
  clear hb
  clear A0 A1 B0 B1 X0 X1 Y0 Y1 Z0 Z1 U0 U1
  obtain ⟨A0, A1, -, -, -⟩ := id A
  obtain ⟨B0, B1, -, -, -⟩ := id B
  obtain ⟨X0, X1, -, -, -⟩ := id X
  obtain ⟨Y0, Y1, -, -, -⟩ := id Y
  obtain ⟨Z0, Z1, -, -, -⟩ := id Z
  obtain ⟨U0, U1, -, -, -⟩ := id U
  obtain ⟨T0, T1, -, -, -⟩ := id T
  go_wp2_with fail
  refine (VV.out _).mono ?_
  rintro e w8 ⟨rfl, hb⟩
  have A := (A.keep hb)
  have B := (B.keep hb)
  have X := (X.keep hb)
  have Y := (Y.keep hb)
  have Z := (Z.keep hb)
  have U := (U.keep hb)
  have T := (T.keep hb)
  have HB := Lib.hid (bstep HB.out hb)
  clear hb
  clear A0 A1 B0 B1 X0 X1 Y0 Y1 Z0 Z1 U0 U1 T0 T1
  obtain ⟨A0, A1, -, -, -⟩ := id A
  obtain ⟨B0, B1, -, -, -⟩ := id B
  obtain ⟨X0, X1, -, -, -⟩ := id X
  obtain ⟨Y0, Y1, -, -, -⟩ := id Y
  obtain ⟨Z0, Z1, -, -, -⟩ := id Z
  obtain ⟨U0, U1, -, -, -⟩ := id U
  obtain ⟨T0, T1, -, -, -⟩ := id T
  go_wp2_with fail
  refine (V2.out _).mono ?_
  rintro e w9 ⟨rfl, hb⟩
  have A := (A.keep hb)
  have B := (B.keep hb)
  have X := (X.keep hb)
  have Y := (Y.keep hb)
  have Z := (Z.keep hb)
  have U := (U.keep hb)
  have T := (T.keep hb)
  have HB := Lib.hid (bstep HB.out hb)
  clear hb
  clear A0 A1 B0 B1 X0 X1 Y0 Y1 Z0 Z1 U0 U1 T0 T1
  obtain ⟨A0, A1, -, -, -⟩ := id A
  obtain ⟨B0, B1, -, -, -⟩ := id B
  obtain ⟨X0, X1, -, -, -⟩ := id X
  obtain ⟨Y0, Y1, -, -, -⟩ := id Y
  obtain ⟨Z0, Z1, -, -, -⟩ := id Z
  obtain ⟨U0, U1, -, -, -⟩ := id U
  obtain ⟨T0, T1, -, -, -⟩ := id T
  go_wp2_with fail
  go_ret
  exact ⟨rfl, HB.out⟩

set_option maxRecDepth 100000 in
set_option maxHeartbeats 8000000 in
theorem sm_bad_t (a b c d n m : Int) (w : World) (P : AnProg w) (n1 : -9223372036854775808 ≤ n) (n2 : n ≤ 9223372036854775807) (m1 : -9223372036854775808 ≤ m) (m2 : m ≤ 9223372036854775807) (ha : aok a b = true) (hc : aok c d = true) (ht0 : ¬ n < -1048576) (ht1 : ¬ n > 1048576) (ht2 : ¬ m < 1) (ht : ¬ m > 1048576) (hv : aok (tmL a b n m) (tmH a b n m) = false) :
    Calls Tryd.prog 4 #[.agg #[.int .i64 a, .int .i64 b], .agg #[.int .i64 c, .int .i64 d], .int .i64 n, .int .i64 m] w fun e w' => e = .returned (.bool true) ∧ Below w.heap.size w w' := by
  have CA := Lib.hid (fun wx (hb : Below w.heap.size w wx) => awake_any w P.toAnAw wx hb)
  have V1 := Lib.hid (fun wx => rValid_is a b true ha wx)
  have V2 := Lib.hid (fun wx => rValid_is c d true hc wx)
  have p := (aok_iff _ _).1 ha
  have KN := Lib.hid (fun wx => rNeg a b wx ha)
  unfold vI at KN
  have ht' : tmOk n m = true := (tmOk_iff _ _).2 (by omega)
  have KT := Lib.hid (fun wx => rTimes a b n m wx ha ht')
  unfold vI at KT
  have C4 := Lib.hid (fun wx => told 0 0 5 ((vA_yes _ ha).trans ((if_pos ht').trans (afit_no hv))) (P.times a b n m wx n1 n2 m1 m2))
  have VV := Lib.hid (fun wx => rValid_is _ _ false hv wx)
  clear hv
  generalize tmL a b n m = l at *
  generalize tmH a b n m = h at *
  have C3 := Lib.hid (fun wx => told (-b) (-a) 0 (vA_yes _ ha) (P.neg a b wx))
  have q := (aok_iff _ _).1 hc
  have C1 := Lib.hid (fun wx => told (afit (a + c) (b + d)).l (afit (a + c) (b + d)).h (afit (a + c) (b + d)).e (vA_yes _ (by rw [ha, hc]; rfl)) (P.add a b c d wx))
  have C2 := Lib.hid (fun wx => told (afit (a - d) (b - c)).l (afit (a - d) (b - c)).h (afit (a - d) (b - c)).e (vA_yes _ (by rw [ha, hc]; rfl)) (P.sub a b c d wx))
  have KA := Lib.hid (fun wx => rAdd a b c d wx (by omega) (by omega) (by omega) (by omega))
  have KS := Lib.hid (fun wx => rSub a b c d wx (by omega) (by omega) (by omega) (by omega))
  have S1 := Lib.hid (fun wx => same_any (a + c) (b + d) wx)
  have S2 := Lib.hid (fun wx => same_any (a - d) (b - c) wx)
  unfold vI at KA KS
  generalize afit (a + c) (b + d) = FX at *
  generalize afit (a - d) (b - c) = FY at *
  generalize a + c = s1 at *
  generalize b + d = s2 at *
  generalize a - d = s3 at *
  generalize b - c = s4 at *
  clear q
  generalize -b = nb at *
  generalize -a = na at *
  clear ha hc p n1 n2 m1 m2 ht'
  have A := At2.new w (.int .i64 a) (.int .i64 b) 23
  have A := A.alloc (.cells #[.int .i64 c, .int .i64 d] 23)
  have B := At2.new (w.alloc (.cells #[.int .i64 a, .int .i64 b] 23)) (.int .i64 c) (.int .i64 d) 23
  simp at B
  have HB := Lib.hid (bstep (bstep (Below.refl w.heap.size w) (below1 w (.cells #[.int .i64 a, .int .i64 b] 23))) (below1 (w.alloc (.cells #[.int .i64 a, .int .i64 b] 23)) (.cells #[.int .i64 c, .int .i64 d] 23)))
  go_enter Tryd.func4, Tryd.ntmps4
  obtain ⟨A0, A1, -, -, -⟩ := id A
  obtain ⟨B0, B1, -, -, -⟩ := id B
  go_wp2_with fail
  refine (CA.out _ HB.out).mono ?_
  rintro e w1 ⟨rfl, hb⟩
  have A := (A.keep hb)
  have B := (B.keep hb)
  have HB := Lib.hid (bstep HB.out hb)
  clear hb
  clear A0 A1 B0 B1
  obtain ⟨A0, A1, -, -, -⟩ := id A
  obtain ⟨B0, B1, -, -, -⟩ := id B
  go_wp2_with fail
  refine (C1.out _).mono ?_
  rintro e w2 ⟨rfl, hb⟩
  have A := (A.keep hb).alloc (.cells #[.int .i64 FX.l, .int .i64 FX.h] 23)
  have B := (B.keep hb).alloc (.cells #[.int .i64 FX.l, .int .i64 FX.h] 23)
  have X := At2.new w2 (.int .i64 FX.l) (.int .i64 FX.h) 23
  have HB := Lib.hid (bstep (bstep HB.out hb) (below1 w2 (.cells #[.int .i64 FX.l, .int .i64 FX.h] 23)))
  clear hb
  clear A0 A1 B0 B1
  obtain ⟨A0, A1, -, -, -⟩ := id A
  obtain ⟨B0, B1, -, -, -⟩ := id B
  obtain ⟨X0, X1, -, -, -⟩ := id X
  go_wp2_with fail
  refine (C2.out _).mono ?_
  rintro e w3 ⟨rfl, hb⟩
  have A := (A.keep hb).alloc (.cells #[.int .i64 FY.l, .int .i64 FY.h] 23)
  have B := (B.keep hb).alloc (.cells #[.int .i64 FY.l, .int .i64 FY.h] 23)
  have X := (X.keep hb).alloc (.cells #[.int .i64 FY.l, .int .i64 FY.h] 23)
  have Y := At2.new w3 (.int .i64 FY.l) (.int .i64 FY.h) 23
  have HB := Lib.hid (bstep (bstep HB.out hb) (below1 w3 (.cells #[.int .i64 FY.l, .int .i64 FY.h] 23)))
  clear hb
  clear A0 A1 B0 B1 X0 X1
  obtain ⟨A0, A1, -, -, -⟩ := id A
  obtain ⟨B0, B1, -, -, -⟩ := id B
  obtain ⟨X0, X1, -, -, -⟩ := id X
  obtain ⟨Y0, Y1, -, -, -⟩ := id Y
  go_wp2_with fail
  refine (C3.out _).mono ?_
  rintro e w4 ⟨rfl, hb⟩
  have A := (A.keep hb).alloc (.cells #[.int .i64 nb, .int .i64 na] 23)
  have B := (B.keep hb).alloc (.cells #[.int .i64 nb, .int .i64 na] 23)
  have X := (X.keep hb).alloc (.cells #[.int .i64 nb, .int .i64 na] 23)
  have Y := (Y.keep hb).alloc (.cells #[.int .i64 nb, .int .i64 na] 23)
  have Z := At2.new w4 (.int .i64 nb) (.int .i64 na) 23
  have HB := Lib.hid (bstep (bstep HB.out hb) (below1 w4 (.cells #[.int .i64 nb, .int .i64 na] 23)))
  clear hb
  clear A0 A1 B0 B1 X0 X1 Y0 Y1
  obtain ⟨A0, A1, -, -, -⟩ := id A
  obtain ⟨B0, B1, -, -, -⟩ := id B
  obtain ⟨X0, X1, -, -, -⟩ := id X
  obtain ⟨Y0, Y1, -, -, -⟩ := id Y
  obtain ⟨Z0, Z1, -, -, -⟩ := id Z
  go_wp2_with fail
  refine (C4.out _).mono ?_
  rintro e w5 ⟨rfl, hb⟩
  have A := (A.keep hb).alloc (.cells #[.int .i64 0, .int .i64 0] 23)
  have B := (B.keep hb).alloc (.cells #[.int .i64 0, .int .i64 0] 23)
  have X := (X.keep hb).alloc (.cells #[.int .i64 0, .int .i64 0] 23)
  have Y := (Y.keep hb).alloc (.cells #[.int .i64 0, .int .i64 0] 23)
  have Z := (Z.keep hb).alloc (.cells #[.int .i64 0, .int .i64 0] 23)
  have U := At2.new w5 (.int .i64 0) (.int .i64 0) 23
  have HB := Lib.hid (bstep (bstep HB.out hb) (below1 w5 (.cells #[.int .i64 0, .int .i64 0] 23)))
  clear hb
  clear A0 A1 B0 B1 X0 X1 Y0 Y1 Z0 Z1
  obtain ⟨A0, A1, -, -, -⟩ := id A
  obtain ⟨B0, B1, -, -, -⟩ := id B
  obtain ⟨X0, X1, -, -, -⟩ := id X
  obtain ⟨Y0, Y1, -, -, -⟩ := id Y
  obtain ⟨Z0, Z1, -, -, -⟩ := id Z
  obtain ⟨U0, U1, -, -, -⟩ := id U
  go_wp2_with fail
  refine (V1.out _).mono ?_
  rintro e w6 ⟨rfl, hb⟩
  have A := (A.keep hb)
  have B := (B.keep hb)
  have X := (X.keep hb)
  have Y := (Y.keep hb)
  have Z := (Z.keep hb)
  have U := (U.keep hb)
  have HB := Lib.hid (bstep HB.out hb)
  clear hb
  clear A0 A1 B0 B1 X0 X1 Y0 Y1 Z0 Z1 U0 U1
  obtain ⟨A0, A1, -, -, -⟩ := id A
  obtain ⟨B0, B1, -, -, -⟩ := id B
  obtain ⟨X0, X1, -, -, -⟩ := id X
  obtain ⟨Y0, Y1, -, -, -⟩ := id Y
  obtain ⟨Z0, Z1, -, -, -⟩ := id Z
  obtain ⟨U0, U1, -, -, -⟩ := id U
  go_wp2_with fail
  clear A0 A1 B0 B1 X0 X1 Y0 Y1 Z0 Z1 U0 U1
  obtain ⟨A0, A1⟩ := A.bel
  obtain ⟨B0, B1⟩ := B.bel
  obtain ⟨X0, X1⟩ := X.bel
  obtain ⟨Y0, Y1⟩ := Y.bel
  obtain ⟨Z0, Z1⟩ := Z.bel
  obtain ⟨U0, U1⟩ := U.bel
  refine wp_region_bel (by kernel_rfl) (by kernel_rfl) ?_
  repeat (go_big_quiet_step (first | (go_at_call 24; first | (with_reducible refine bel_of (KN.out _)))))
  refine wpQuiet_nil ?_
  intro _ hw'
  obtain ⟨pq, hw''⟩ := hw'
  subst hw''
  have A := A.keep pq.h
  have B := B.keep pq.h
  have X := X.keep pq.h
  have Y := Y.keep pq.h
  have Z := Z.keep pq.h
  have U := U.keep pq.h
  have HB := Lib.hid (bstep HB.out pq.h)
  clear A0 A1 B0 B1 X0 X1 Y0 Y1 Z0 Z1 U0 U1
  obtain ⟨A0, A1, -, -, -⟩ := id A
  obtain ⟨B0, B1, -, -, -⟩ := id B
  obtain ⟨X0, X1, -, -, -⟩ := id X
  obtain ⟨Y0, Y1, -, -, -⟩ := id Y
  obtain ⟨Z0, Z1, -, -, -⟩ := id Z
  obtain ⟨U0, U1, -, -, -⟩ := id U
  go_wp2_with fail
  refine (KT.out _).mono ?_
  rintro e w7 ⟨rfl, hb⟩
  have A := (A.keep hb).alloc (.cells #[.int .i64 l, .int .i64 h] 23)
  have B := (B.keep hb).alloc (.cells #[.int .i64 l, .int .i64 h] 23)
  have X := (X.keep hb).alloc (.cells #[.int .i64 l, .int .i64 h] 23)
  have Y := (Y.keep hb).alloc (.cells #[.int .i64 l, .int .i64 h] 23)
  have Z := (Z.keep hb).alloc (.cells #[.int .i64 l, .int .i64 h] 23)
  have U := (U.keep hb).alloc (.cells #[.int .i64 l, .int .i64 h] 23)
  have T := At2.new w7 (.int .i64 l) (.int .i64 h) 23
  have HB := Lib.hid (bstep (bstep HB.out hb) (below1 w7 (.cells #[.int .i64 l, .int .i64 h] 23)))
  clear hb
  clear A0 A1 B0 B1 X0 X1 Y0 Y1 Z0 Z1 U0 U1
  obtain ⟨A0, A1, -, -, -⟩ := id A
  obtain ⟨B0, B1, -, -, -⟩ := id B
  obtain ⟨X0, X1, -, -, -⟩ := id X
  obtain ⟨Y0, Y1, -, -, -⟩ := id Y
  obtain ⟨Z0, Z1, -, -, -⟩ := id Z
  obtain ⟨U0, U1, -, -, -⟩ := id U
  obtain ⟨T0, T1, -, -, -⟩ := id T
  go_wp2_with fail
  refine (VV.out _).mono ?_
  rintro e w8 ⟨rfl, hb⟩
  have A := (A.keep hb)
  have B := (B.keep hb)
  have X := (X.keep hb)
  have Y := (Y.keep hb)
  have Z := (Z.keep hb)
  have U := (U.keep hb)
  have T := (T.keep hb)
  have HB := Lib.hid (bstep HB.out hb)
  clear hb
  clear A0 A1 B0 B1 X0 X1 Y0 Y1 Z0 Z1 U0 U1 T0 T1
  obtain ⟨A0, A1, -, -, -⟩ := id A
  obtain ⟨B0, B1, -, -, -⟩ := id B
  obtain ⟨X0, X1, -, -, -⟩ := id X
  obtain ⟨Y0, Y1, -, -, -⟩ := id Y
  obtain ⟨Z0, Z1, -, -, -⟩ := id Z
  obtain ⟨U0, U1, -, -, -⟩ := id U
  obtain ⟨T0, T1, -, -, -⟩ := id T
  go_wp2_with fail
  refine (V2.out _).mono ?_
  rintro e w9 ⟨rfl, hb⟩
  have A := (A.keep hb)
  have B := (B.keep hb)
  have X := (X.keep hb)
  have Y := (Y.keep hb)
  have Z := (Z.keep hb)
  have U := (U.keep hb)
  have T := (T.keep hb)
  have HB := Lib.hid (bstep HB.out hb)
  clear hb
  clear A0 A1 B0 B1 X0 X1 Y0 Y1 Z0 Z1 U0 U1 T0 T1
  obtain ⟨A0, A1, -, -, -⟩ := id A
  obtain ⟨B0, B1, -, -, -⟩ := id B
  obtain ⟨X0, X1, -, -, -⟩ := id X
  obtain ⟨Y0, Y1, -, -, -⟩ := id Y
  obtain ⟨Z0, Z1, -, -, -⟩ := id Z
  obtain ⟨U0, U1, -, -, -⟩ := id U
  obtain ⟨T0, T1, -, -, -⟩ := id T
  go_wp2_with fail
  clear A0 A1 B0 B1 X0 X1 Y0 Y1 Z0 Z1 U0 U1 T0 T1
  obtain ⟨A0, A1⟩ := A.bel
  obtain ⟨B0, B1⟩ := B.bel
  obtain ⟨X0, X1⟩ := X.bel
  obtain ⟨Y0, Y1⟩ := Y.bel
  obtain ⟨Z0, Z1⟩ := Z.bel
  obtain ⟨U0, U1⟩ := U.bel
  obtain ⟨T0, T1⟩ := T.bel
  refine wp_region_bel (by kernel_rfl) (by kernel_rfl) ?_
  repeat (go_big_quiet_step (first | (go_at_call 27; first | (with_reducible refine bel_of (KA.out _))) | (go_at_call 28; first | (with_reducible refine bel_of (KS.out _))) | (go_at_call 26; first | (with_reducible refine bel_of (S1.out _)) | (with_reducible refine bel_of (S2.out _)))))
  refine wpQuiet_nil ?_
  intro _ hw'
  obtain ⟨pq, hw''⟩ := hw'
  subst hw''
  have A := A.keep pq.h
  have B := B.keep pq.h
  have X := X.keep pq.h
  have Y := Y.keep pq.h
  have Z := Z.keep pq.h
  have U := U.keep pq.h
  have T := T.keep pq.h
  have HB := Lib.hid (bstep HB.out pq.h)
  clear A0 A1 B0 B1 X0 X1 Y0 Y1 Z0 Z1 U0 U1 T0 T1
  obtain ⟨A0, A1, -, -, -⟩ := id A
  obtain ⟨B0, B1, -, -, -⟩ := id B
  obtain ⟨X0, X1, -, -, -⟩ := id X
  obtain ⟨Y0, Y1, -, -, -⟩ := id Y
  obtain ⟨Z0, Z1, -, -, -⟩ := id Z
  obtain ⟨U0, U1, -, -, -⟩ := id U
  obtain ⟨T0, T1, -, -, -⟩ := id T
  go_wp2_with fail
  go_ret
  exact ⟨rfl, HB.out⟩

set_option maxRecDepth 100000 in
set_option maxHeartbeats 8000000 in
theorem sm_ok_f (a b c d n m : Int) (w : World) (P : AnProg w) (n1 : -9223372036854775808 ≤ n) (n2 : n ≤ 9223372036854775807) (m1 : -9223372036854775808 ≤ m) (m2 : m ≤ 9223372036854775807) (ha : aok a b = true) (hc : aok c d = false) (ht0 : ¬ n < -1048576) (ht1 : ¬ n > 1048576) (ht2 : ¬ m < 1) (ht : ¬ m > 1048576) (hv : aok (tmL a b n m) (tmH a b n m) = true) :
    Calls Tryd.prog 4 #[.agg #[.int .i64 a, .int .i64 b], .agg #[.int .i64 c, .int .i64 d], .int .i64 n, .int .i64 m] w fun e w' => e = .returned (.bool true) ∧ Below w.heap.size w w' := by
  have CA := Lib.hid (fun wx (hb : Below w.heap.size w wx) => awake_any w P.toAnAw wx hb)
  have V1 := Lib.hid (fun wx => rValid_is a b true ha wx)
  have V2 := Lib.hid (fun wx => rValid_is c d false hc wx)
  have p := (aok_iff _ _).1 ha
  have KN := Lib.hid (fun wx => rNeg a b wx ha)
  unfold vI at KN
  have ht' : tmOk n m = true := (tmOk_iff _ _).2 (by omega)
  have KT := Lib.hid (fun wx => rTimes a b n m wx ha ht')
  unfold vI at KT
  have C4 := Lib.hid (fun wx => told _ _ 0 ((vA_yes _ ha).trans ((if_pos ht').trans (afit_yes hv))) (P.times a b n m wx n1 n2 m1 m2))
  have VV := Lib.hid (fun wx => rValid_is _ _ true hv wx)
  clear hv
  generalize tmL a b n m = l at *
  generalize tmH a b n m = h at *
  have C3 := Lib.hid (fun wx => told (-b) (-a) 0 (vA_yes _ ha) (P.neg a b wx))
  have C1 := Lib.hid (fun wx => told 0 0 1 (vA_no _ (by rw [ha, hc]; rfl)) (P.add a b c d wx))
  have C2 := Lib.hid (fun wx => told 0 0 1 (vA_no _ (by rw [ha, hc]; rfl)) (P.sub a b c d wx))
  generalize -b = nb at *
  generalize -a = na at *
  clear ha hc p n1 n2 m1 m2 ht'
  have A := At2.new w (.int .i64 a) (.int .i64 b) 23
  have A := A.alloc (.cells #[.int .i64 c, .int .i64 d] 23)
  have B := At2.new (w.alloc (.cells #[.int .i64 a, .int .i64 b] 23)) (.int .i64 c) (.int .i64 d) 23
  simp at B
  have HB := Lib.hid (bstep (bstep (Below.refl w.heap.size w) (below1 w (.cells #[.int .i64 a, .int .i64 b] 23))) (below1 (w.alloc (.cells #[.int .i64 a, .int .i64 b] 23)) (.cells #[.int .i64 c, .int .i64 d] 23)))
  go_enter Tryd.func4, Tryd.ntmps4
  obtain ⟨A0, A1, -, -, -⟩ := id A
  obtain ⟨B0, B1, -, -, -⟩ := id B
  go_wp2_with fail
  refine (CA.out _ HB.out).mono ?_
  rintro e w1 ⟨rfl, hb⟩
  have A := (A.keep hb)
  have B := (B.keep hb)
  have HB := Lib.hid (bstep HB.out hb)
  clear hb
  clear A0 A1 B0 B1
  obtain ⟨A0, A1, -, -, -⟩ := id A
  obtain ⟨B0, B1, -, -, -⟩ := id B
  go_wp2_with fail
  refine (C1.out _).mono ?_
  rintro e w2 ⟨rfl, hb⟩
  have A := (A.keep hb).alloc (.cells #[.int .i64 0, .int .i64 0] 23)
  have B := (B.keep hb).alloc (.cells #[.int .i64 0, .int .i64 0] 23)
  have X := At2.new w2 (.int .i64 0) (.int .i64 0) 23
  have HB := Lib.hid (bstep (bstep HB.out hb) (below1 w2 (.cells #[.int .i64 0, .int .i64 0] 23)))
  clear hb
  clear A0 A1 B0 B1
  obtain ⟨A0, A1, -, -, -⟩ := id A
  obtain ⟨B0, B1, -, -, -⟩ := id B
  obtain ⟨X0, X1, -, -, -⟩ := id X
  go_wp2_with fail
  refine (C2.out _).mono ?_
  rintro e w3 ⟨rfl, hb⟩
  have A := (A.keep hb).alloc (.cells #[.int .i64 0, .int .i64 0] 23)
  have B := (B.keep hb).alloc (.cells #[.int .i64 0, .int .i64 0] 23)
  have X := (X.keep hb).alloc (.cells #[.int .i64 0, .int .i64 0] 23)
  have Y := At2.new w3 (.int .i64 0) (.int .i64 0) 23
  have HB := Lib.hid (bstep (bstep HB.out hb) (below1 w3 (.cells #[.int .i64 0, .int .i64 0] 23)))
  clear hb
  clear A0 A1 B0 B1 X0 X1
  obtain ⟨A0, A1, -, -, -⟩ := id A
  obtain ⟨B0, B1, -, -, -⟩ := id B
  obtain ⟨X0, X1, -, -, -⟩ := id X
  obtain ⟨Y0, Y1, -, -, -⟩ := id Y
  go_wp2_with fail
  refine (C3.out _).mono ?_
  rintro e w4 ⟨rfl, hb⟩
  have A := (A.keep hb).alloc (.cells #[.int .i64 nb, .int .i64 na] 23)
  have B := (B.keep hb).alloc (.cells #[.int .i64 nb, .int .i64 na] 23)
  have X := (X.keep hb).alloc (.cells #[.int .i64 nb, .int .i64 na] 23)
  have Y := (Y.keep hb).alloc (.cells #[.int .i64 nb, .int .i64 na] 23)
  have Z := At2.new w4 (.int .i64 nb) (.int .i64 na) 23
  have HB := Lib.hid (bstep (bstep HB.out hb) (below1 w4 (.cells #[.int .i64 nb, .int .i64 na] 23)))
  clear hb
  clear A0 A1 B0 B1 X0 X1 Y0 Y1
  obtain ⟨A0, A1, -, -, -⟩ := id A
  obtain ⟨B0, B1, -, -, -⟩ := id B
  obtain ⟨X0, X1, -, -, -⟩ := id X
  obtain ⟨Y0, Y1, -, -, -⟩ := id Y
  obtain ⟨Z0, Z1, -, -, -⟩ := id Z
  go_wp2_with fail
  refine (C4.out _).mono ?_
  rintro e w5 ⟨rfl, hb⟩
  have A := (A.keep hb).alloc (.cells #[.int .i64 l, .int .i64 h] 23)
  have B := (B.keep hb).alloc (.cells #[.int .i64 l, .int .i64 h] 23)
  have X := (X.keep hb).alloc (.cells #[.int .i64 l, .int .i64 h] 23)
  have Y := (Y.keep hb).alloc (.cells #[.int .i64 l, .int .i64 h] 23)
  have Z := (Z.keep hb).alloc (.cells #[.int .i64 l, .int .i64 h] 23)
  have U := At2.new w5 (.int .i64 l) (.int .i64 h) 23
  have HB := Lib.hid (bstep (bstep HB.out hb) (below1 w5 (.cells #[.int .i64 l, .int .i64 h] 23)))
  clear hb
  clear A0 A1 B0 B1 X0 X1 Y0 Y1 Z0 Z1
  obtain ⟨A0, A1, -, -, -⟩ := id A
  obtain ⟨B0, B1, -, -, -⟩ := id B
  obtain ⟨X0, X1, -, -, -⟩ := id X
  obtain ⟨Y0, Y1, -, -, -⟩ := id Y
  obtain ⟨Z0, Z1, -, -, -⟩ := id Z
  obtain ⟨U0, U1, -, -, -⟩ := id U
  go_wp2_with fail
  refine (V1.out _).mono ?_
  rintro e w6 ⟨rfl, hb⟩
  have A := (A.keep hb)
  have B := (B.keep hb)
  have X := (X.keep hb)
  have Y := (Y.keep hb)
  have Z := (Z.keep hb)
  have U := (U.keep hb)
  have HB := Lib.hid (bstep HB.out hb)
  clear hb
  clear A0 A1 B0 B1 X0 X1 Y0 Y1 Z0 Z1 U0 U1
  obtain ⟨A0, A1, -, -, -⟩ := id A
  obtain ⟨B0, B1, -, -, -⟩ := id B
  obtain ⟨X0, X1, -, -, -⟩ := id X
  obtain ⟨Y0, Y1, -, -, -⟩ := id Y
  obtain ⟨Z0, Z1, -, -, -⟩ := id Z
  obtain ⟨U0, U1, -, -, -⟩ := id U
  go_wp2_with fail
  clear A0 A1 B0 B1 X0 X1 Y0 Y1 Z0 Z1 U0 U1
  obtain ⟨A0, A1⟩ := A.bel
  obtain ⟨B0, B1⟩ := B.bel
  obtain ⟨X0, X1⟩ := X.bel
  obtain ⟨Y0, Y1⟩ := Y.bel
  obtain ⟨Z0, Z1⟩ := Z.bel
  obtain ⟨U0, U1⟩ := U.bel
  refine wp_region_bel (by kernel_rfl) (by kernel_rfl) ?_
  repeat (go_big_quiet_step (first | (go_at_call 24; first | (with_reducible refine bel_of (KN.out _)))))
  refine wpQuiet_nil ?_
  intro _ hw'
  obtain ⟨pq, hw''⟩ := hw'
  subst hw''
  have A := A.keep pq.h
  have B := B.keep pq.h
  have X := X.keep pq.h
  have Y := Y.keep pq.h
  have Z := Z.keep pq.h
  have U := U.keep pq.h
  have HB := Lib.hid (bstep HB.out pq.h)
  clear A0 A1 B0 B1 X0 X1 Y0 Y1 Z0 Z1 U0 U1
  obtain ⟨A0, A1, -, -, -⟩ := id A
  obtain ⟨B0, B1, -, -, -⟩ := id B
  obtain ⟨X0, X1, -, -, -⟩ := id X
  obtain ⟨Y0, Y1, -, -, -⟩ := id Y
  obtain ⟨Z0, Z1, -, -, -⟩ := id Z
  obtain ⟨U0, U1, -, -, -⟩ := id U
  go_wp2_with fail
  refine (KT.out _).mono ?_
  rintro e w7 ⟨rfl, hb⟩
  have A := (A.keep hb).alloc (.cells #[.int .i64 l, .int .i64 h] 23)
  have B := (B.keep hb).alloc (.cells #[.int .i64 l, .int .i64 h] 23)
  have X := (X.keep hb).alloc (.cells #[.int .i64 l, .int .i64 h] 23)
  have Y := (Y.keep hb).alloc (.cells #[.int .i64 l, .int .i64 h] 23)
  have Z := (Z.keep hb).alloc (.cells #[.int .i64 l, .int .i64 h] 23)
  have U := (U.keep hb).alloc (.cells #[.int .i64 l, .int .i64 h] 23)
  have T := At2.new w7 (.int .i64 l) (.int .i64 h) 23
  have HB := Lib.hid (bstep (bstep HB.out hb) (below1 w7 (.cells #[.int .i64 l, .int .i64 h] 23)))
  clear hb
  clear A0 A1 B0 B1 X0 X1 Y0 Y1 Z0 Z1 U0 U1
  obtain ⟨A0, A1, -, -, -⟩ := id A
  obtain ⟨B0, B1, -, -, -⟩ := id B
  obtain ⟨X0, X1, -, -, -⟩ := id X
  obtain ⟨Y0, Y1, -, -, -⟩ := id Y
  obtain ⟨Z0, Z1, -, -, -⟩ := id Z
  obtain ⟨U0, U1, -, -, -⟩ := id U
  obtain ⟨T0, T1, -, -, -⟩ := id T
  go_wp2_with fail
  refine (VV.out _).mono ?_
  rintro e w8 ⟨rfl, hb⟩
  have A := (A.keep hb)
  have B := (B.keep hb)
  have X := (X.keep hb)
  have Y := (Y.keep hb)
  have Z := (Z.keep hb)
  have U := (U.keep hb)
  have T := (T.keep hb)
  have HB := Lib.hid (bstep HB.out hb)
  clear hb
  clear A0 A1 B0 B1 X0 X1 Y0 Y1 Z0 Z1 U0 U1 T0 T1
  obtain ⟨A0, A1, -, -, -⟩ := id A
  obtain ⟨B0, B1, -, -, -⟩ := id B
  obtain ⟨X0, X1, -, -, -⟩ := id X
  obtain ⟨Y0, Y1, -, -, -⟩ := id Y
  obtain ⟨Z0, Z1, -, -, -⟩ := id Z
  obtain ⟨U0, U1, -, -, -⟩ := id U
  obtain ⟨T0, T1, -, -, -⟩ := id T
  go_wp2_with fail
  refine (V2.out _).mono ?_
  rintro e w9 ⟨rfl, hb⟩
  have A := (A.keep hb)
  have B := (B.keep hb)
  have X := (X.keep hb)
  have Y := (Y.keep hb)
  have Z := (Z.keep hb)
  have U := (U.keep hb)
  have T := (T.keep hb)
  have HB := Lib.hid (bstep HB.out hb)
  clear hb
  clear A0 A1 B0 B1 X0 X1 Y0 Y1 Z0 Z1 U0 U1 T0 T1
  obtain ⟨A0, A1, -, -, -⟩ := id A
  obtain ⟨B0, B1, -, -, -⟩ := id B
  obtain ⟨X0, X1, -, -, -⟩ := id X
  obtain ⟨Y0, Y1, -, -, -⟩ := id Y
  obtain ⟨Z0, Z1, -, -, -⟩ := id Z
  obtain ⟨U0, U1, -, -, -⟩ := id U
  obtain ⟨T0, T1, -, -, -⟩ := id T
  go_wp2_with fail
  go_ret
  exact ⟨rfl, HB.out⟩

set_option maxRecDepth 100000 in
set_option maxHeartbeats 8000000 in
theorem sm_ok_t (a b c d n m : Int) (w : World) (P : AnProg w) (n1 : -9223372036854775808 ≤ n) (n2 : n ≤ 9223372036854775807) (m1 : -9223372036854775808 ≤ m) (m2 : m ≤ 9223372036854775807) (ha : aok a b = true) (hc : aok c d = true) (ht0 : ¬ n < -1048576) (ht1 : ¬ n > 1048576) (ht2 : ¬ m < 1) (ht : ¬ m > 1048576) (hv : aok (tmL a b n m) (tmH a b n m) = true) :
    Calls Tryd.prog 4 #[.agg #[.int .i64 a, .int .i64 b], .agg #[.int .i64 c, .int .i64 d], .int .i64 n, .int .i64 m] w fun e w' => e = .returned (.bool true) ∧ Below w.heap.size w w' := by
  have CA := Lib.hid (fun wx (hb : Below w.heap.size w wx) => awake_any w P.toAnAw wx hb)
  have V1 := Lib.hid (fun wx => rValid_is a b true ha wx)
  have V2 := Lib.hid (fun wx => rValid_is c d true hc wx)
  have p := (aok_iff _ _).1 ha
  have KN := Lib.hid (fun wx => rNeg a b wx ha)
  unfold vI at KN
  have ht' : tmOk n m = true := (tmOk_iff _ _).2 (by omega)
  have KT := Lib.hid (fun wx => rTimes a b n m wx ha ht')
  unfold vI at KT
  have C4 := Lib.hid (fun wx => told _ _ 0 ((vA_yes _ ha).trans ((if_pos ht').trans (afit_yes hv))) (P.times a b n m wx n1 n2 m1 m2))
  have VV := Lib.hid (fun wx => rValid_is _ _ true hv wx)
  clear hv
  generalize tmL a b n m = l at *
  generalize tmH a b n m = h at *
  have C3 := Lib.hid (fun wx => told (-b) (-a) 0 (vA_yes _ ha) (P.neg a b wx))
  have q := (aok_iff _ _).1 hc
  have C1 := Lib.hid (fun wx => told (afit (a + c) (b + d)).l (afit (a + c) (b + d)).h (afit (a + c) (b + d)).e (vA_yes _ (by rw [ha, hc]; rfl)) (P.add a b c d wx))
  have C2 := Lib.hid (fun wx => told (afit (a - d) (b - c)).l (afit (a - d) (b - c)).h (afit (a - d) (b - c)).e (vA_yes _ (by rw [ha, hc]; rfl)) (P.sub a b c d wx))
  have KA := Lib.hid (fun wx => rAdd a b c d wx (by omega) (by omega) (by omega) (by omega))
  have KS := Lib.hid (fun wx => rSub a b c d wx (by omega) (by omega) (by omega) (by omega))
  have S1 := Lib.hid (fun wx => same_any (a + c) (b + d) wx)
  have S2 := Lib.hid (fun wx => same_any (a - d) (b - c) wx)
  unfold vI at KA KS
  generalize afit (a + c) (b + d) = FX at *
  generalize afit (a - d) (b - c) = FY at *
  generalize a + c = s1 at *
  generalize b + d = s2 at *
  generalize a - d = s3 at *
  generalize b - c = s4 at *
  clear q
  generalize -b = nb at *
  generalize -a = na at *
  clear ha hc p n1 n2 m1 m2 ht'
  have A := At2.new w (.int .i64 a) (.int .i64 b) 23
  have A := A.alloc (.cells #[.int .i64 c, .int .i64 d] 23)
  have B := At2.new (w.alloc (.cells #[.int .i64 a, .int .i64 b] 23)) (.int .i64 c) (.int .i64 d) 23
  simp at B
  have HB := Lib.hid (bstep (bstep (Below.refl w.heap.size w) (below1 w (.cells #[.int .i64 a, .int .i64 b] 23))) (below1 (w.alloc (.cells #[.int .i64 a, .int .i64 b] 23)) (.cells #[.int .i64 c, .int .i64 d] 23)))
  go_enter Tryd.func4, Tryd.ntmps4
  obtain ⟨A0, A1, -, -, -⟩ := id A
  obtain ⟨B0, B1, -, -, -⟩ := id B
  go_wp2_with fail
  refine (CA.out _ HB.out).mono ?_
  rintro e w1 ⟨rfl, hb⟩
  have A := (A.keep hb)
  have B := (B.keep hb)
  have HB := Lib.hid (bstep HB.out hb)
  clear hb
  clear A0 A1 B0 B1
  obtain ⟨A0, A1, -, -, -⟩ := id A
  obtain ⟨B0, B1, -, -, -⟩ := id B
  go_wp2_with fail
  refine (C1.out _).mono ?_
  rintro e w2 ⟨rfl, hb⟩
  have A := (A.keep hb).alloc (.cells #[.int .i64 FX.l, .int .i64 FX.h] 23)
  have B := (B.keep hb).alloc (.cells #[.int .i64 FX.l, .int .i64 FX.h] 23)
  have X := At2.new w2 (.int .i64 FX.l) (.int .i64 FX.h) 23
  have HB := Lib.hid (bstep (bstep HB.out hb) (below1 w2 (.cells #[.int .i64 FX.l, .int .i64 FX.h] 23)))
  clear hb
  clear A0 A1 B0 B1
  obtain ⟨A0, A1, -, -, -⟩ := id A
  obtain ⟨B0, B1, -, -, -⟩ := id B
  obtain ⟨X0, X1, -, -, -⟩ := id X
  go_wp2_with fail
  refine (C2.out _).mono ?_
  rintro e w3 ⟨rfl, hb⟩
  have A := (A.keep hb).alloc (.cells #[.int .i64 FY.l, .int .i64 FY.h] 23)
  have B := (B.keep hb).alloc (.cells #[.int .i64 FY.l, .int .i64 FY.h] 23)
  have X := (X.keep hb).alloc (.cells #[.int .i64 FY.l, .int .i64 FY.h] 23)
  have Y := At2.new w3 (.int .i64 FY.l) (.int .i64 FY.h) 23
  have HB := Lib.hid (bstep (bstep HB.out hb) (below1 w3 (.cells #[.int .i64 FY.l, .int .i64 FY.h] 23)))
  clear hb
  clear A0 A1 B0 B1 X0 X1
  obtain ⟨A0, A1, -, -, -⟩ := id A
  obtain ⟨B0, B1, -, -, -⟩ := id B
  obtain ⟨X0, X1, -, -, -⟩ := id X
  obtain ⟨Y0, Y1, -, -, -⟩ := id Y
  go_wp2_with fail
  refine (C3.out _).mono ?_
  rintro e w4 ⟨rfl, hb⟩
  have A := (A.keep hb).alloc (.cells #[.int .i64 nb, .int .i64 na] 23)
  have B := (B.keep hb).alloc (.cells #[.int .i64 nb, .int .i64 na] 23)
  have X := (X.keep hb).alloc (.cells #[.int .i64 nb, .int .i64 na] 23)
  have Y := (Y.keep hb).alloc (.cells #[.int .i64 nb, .int .i64 na] 23)
  have Z := At2.new w4 (.int .i64 nb) (.int .i64 na) 23
  have HB := Lib.hid (bstep (bstep HB.out hb) (below1 w4 (.cells #[.int .i64 nb, .int .i64 na] 23)))
  clear hb
  clear A0 A1 B0 B1 X0 X1 Y0 Y1
  obtain ⟨A0, A1, -, -, -⟩ := id A
  obtain ⟨B0, B1, -, -, -⟩ := id B
  obtain ⟨X0, X1, -, -, -⟩ := id X
  obtain ⟨Y0, Y1, -, -, -⟩ := id Y
  obtain ⟨Z0, Z1, -, -, -⟩ := id Z
  go_wp2_with fail
  refine (C4.out _).mono ?_
  rintro e w5 ⟨rfl, hb⟩
  have A := (A.keep hb).alloc (.cells #[.int .i64 l, .int .i64 h] 23)
  have B := (B.keep hb).alloc (.cells #[.int .i64 l, .int .i64 h] 23)
  have X := (X.keep hb).alloc (.cells #[.int .i64 l, .int .i64 h] 23)
  have Y := (Y.keep hb).alloc (.cells #[.int .i64 l, .int .i64 h] 23)
  have Z := (Z.keep hb).alloc (.cells #[.int .i64 l, .int .i64 h] 23)
  have U := At2.new w5 (.int .i64 l) (.int .i64 h) 23
  have HB := Lib.hid (bstep (bstep HB.out hb) (below1 w5 (.cells #[.int .i64 l, .int .i64 h] 23)))
  clear hb
  clear A0 A1 B0 B1 X0 X1 Y0 Y1 Z0 Z1
  obtain ⟨A0, A1, -, -, -⟩ := id A
  obtain ⟨B0, B1, -, -, -⟩ := id B
  obtain ⟨X0, X1, -, -, -⟩ := id X
  obtain ⟨Y0, Y1, -, -, -⟩ := id Y
  obtain ⟨Z0, Z1, -, -, -⟩ := id Z
  obtain ⟨U0, U1, -, -, -⟩ := id U
  go_wp2_with fail
  refine (V1.out _).mono ?_
  rintro e w6 ⟨rfl, hb⟩
  have A := (A.keep hb)
  have B := (B.keep hb)
  have X := (X.keep hb)
  have Y := (Y.keep hb)
  have Z := (Z.keep hb)
  have U := (U.keep hb)
  have HB := Lib.hid (bstep HB.out hb)
  clear hb
  clear A0 A1 B0 B1 X0 X1 Y0 Y1 Z0 Z1 U0 U1
  obtain ⟨A0, A1, -, -, -⟩ := id A
  obtain ⟨B0, B1, -, -, -⟩ := id B
  obtain ⟨X0, X1, -, -, -⟩ := id X
  obtain ⟨Y0, Y1, -, -, -⟩ := id Y
  obtain ⟨Z0, Z1, -, -, -⟩ := id Z
  obtain ⟨U0, U1, -, -, -⟩ := id U
  go_wp2_with fail
  clear A0 A1 B0 B1 X0 X1 Y0 Y1 Z0 Z1 U0 U1
  obtain ⟨A0, A1⟩ := A.bel
  obtain ⟨B0, B1⟩ := B.bel
  obtain ⟨X0, X1⟩ := X.bel
  obtain ⟨Y0, Y1⟩ := Y.bel
  obtain ⟨Z0, Z1⟩ := Z.bel
  obtain ⟨U0, U1⟩ := U.bel
  refine wp_region_bel (by kernel_rfl) (by kernel_rfl) ?_
  repeat (go_big_quiet_step (first | (go_at_call 24; first | (with_reducible refine bel_of (KN.out _)))))
  refine wpQuiet_nil ?_
  intro _ hw'
  obtain ⟨pq, hw''⟩ := hw'
  subst hw''
  have A := A.keep pq.h
  have B := B.keep pq.h
  have X := X.keep pq.h
  have Y := Y.keep pq.h
  have Z := Z.keep pq.h
  have U := U.keep pq.h
  have HB := Lib.hid (bstep HB.out pq.h)
  clear A0 A1 B0 B1 X0 X1 Y0 Y1 Z0 Z1 U0 U1
  obtain ⟨A0, A1, -, -, -⟩ := id A
  obtain ⟨B0, B1, -, -, -⟩ := id B
  obtain ⟨X0, X1, -, -, -⟩ := id X
  obtain ⟨Y0, Y1, -, -, -⟩ := id Y
  obtain ⟨Z0, Z1, -, -, -⟩ := id Z
  obtain ⟨U0, U1, -, -, -⟩ := id U
  go_wp2_with fail
  refine (KT.out _).mono ?_
  rintro e w7 ⟨rfl, hb⟩
  have A := (A.keep hb).alloc (.cells #[.int .i64 l, .int .i64 h] 23)
  have B := (B.keep hb).alloc (.cells #[.int .i64 l, .int .i64 h] 23)
  have X := (X.keep hb).alloc (.cells #[.int .i64 l, .int .i64 h] 23)
  have Y := (Y.keep hb).alloc (.cells #[.int .i64 l, .int .i64 h] 23)
  have Z := (Z.keep hb).alloc (.cells #[.int .i64 l, .int .i64 h] 23)
  have U := (U.keep hb).alloc (.cells #[.int .i64 l, .int .i64 h] 23)
  have T := At2.new w7 (.int .i64 l) (.int .i64 h) 23
  have HB := Lib.hid (bstep (bstep HB.out hb) (below1 w7 (.cells #[.int .i64 l, .int .i64 h] 23)))
  clear hb
  clear A0 A1 B0 B1 X0 X1 Y0 Y1 Z0 Z1 U0 U1
  obtain ⟨A0, A1, -, -, -⟩ := id A
  obtain ⟨B0, B1, -, -, -⟩ := id B
  obtain ⟨X0, X1, -, -, -⟩ := id X
  obtain ⟨Y0, Y1, -, -, -⟩ := id Y
  obtain ⟨Z0, Z1, -, -, -⟩ := id Z
  obtain ⟨U0, U1, -, -, -⟩ := id U
  obtain ⟨T0, T1, -, -, -⟩ := id T
  go_wp2_with fail
  refine (VV.out _).mono ?_
  rintro e w8 ⟨rfl, hb⟩
  have A := (A.keep hb)
  have B := (B.keep hb)
  have X := (X.keep hb)
  have Y := (Y.keep hb)
  have Z := (Z.keep hb)
  have U := (U.keep hb)
  have T := (T.keep hb)
  have HB := Lib.hid (bstep HB.out hb)
  clear hb
  clear A0 A1 B0 B1 X0 X1 Y0 Y1 Z0 Z1 U0 U1 T0 T1
  obtain ⟨A0, A1, -, -, -⟩ := id A
  obtain ⟨B0, B1, -, -, -⟩ := id B
  obtain ⟨X0, X1, -, -, -⟩ := id X
  obtain ⟨Y0, Y1, -, -, -⟩ := id Y
  obtain ⟨Z0, Z1, -, -, -⟩ := id Z
  obtain ⟨U0, U1, -, -, -⟩ := id U
  obtain ⟨T0, T1, -, -, -⟩ := id T
  go_wp2_with fail
  refine (V2.out _).mono ?_
  rintro e w9 ⟨rfl, hb⟩
  have A := (A.keep hb)
  have B := (B.keep hb)
  have X := (X.keep hb)
  have Y := (Y.keep hb)
  have Z := (Z.keep hb)
  have U := (U.keep hb)
  have T := (T.keep hb)
  have HB := Lib.hid (bstep HB.out hb)
  clear hb
  clear A0 A1 B0 B1 X0 X1 Y0 Y1 Z0 Z1 U0 U1 T0 T1
  obtain ⟨A0, A1, -, -, -⟩ := id A
  obtain ⟨B0, B1, -, -, -⟩ := id B
  obtain ⟨X0, X1, -, -, -⟩ := id X
  obtain ⟨Y0, Y1, -, -, -⟩ := id Y
  obtain ⟨Z0, Z1, -, -, -⟩ := id Z
  obtain ⟨U0, U1, -, -, -⟩ := id U
  obtain ⟨T0, T1, -, -, -⟩ := id T
  go_wp2_with fail
  clear A0 A1 B0 B1 X0 X1 Y0 Y1 Z0 Z1 U0 U1 T0 T1
  obtain ⟨A0, A1⟩ := A.bel
  obtain ⟨B0, B1⟩ := B.bel
  obtain ⟨X0, X1⟩ := X.bel
  obtain ⟨Y0, Y1⟩ := Y.bel
  obtain ⟨Z0, Z1⟩ := Z.bel
  obtain ⟨U0, U1⟩ := U.bel
  obtain ⟨T0, T1⟩ := T.bel
  refine wp_region_bel (by kernel_rfl) (by kernel_rfl) ?_
  repeat (go_big_quiet_step (first | (go_at_call 27; first | (with_reducible refine bel_of (KA.out _))) | (go_at_call 28; first | (with_reducible refine bel_of (KS.out _))) | (go_at_call 26; first | (with_reducible refine bel_of (S1.out _)) | (with_reducible refine bel_of (S2.out _)))))
  refine wpQuiet_nil ?_
  intro _ hw'
  obtain ⟨pq, hw''⟩ := hw'
  subst hw''
  have A := A.keep pq.h
  have B := B.keep pq.h
  have X := X.keep pq.h
  have Y := Y.keep pq.h
  have Z := Z.keep pq.h
  have U := U.keep pq.h
  have T := T.keep pq.h
  have HB := Lib.hid (bstep HB.out pq.h)
  clear A0 A1 B0 B1 X0 X1 Y0 Y1 Z0 Z1 U0 U1 T0 T1
  obtain ⟨A0, A1, -, -, -⟩ := id A
  obtain ⟨B0, B1, -, -, -⟩ := id B
  obtain ⟨X0, X1, -, -, -⟩ := id X
  obtain ⟨Y0, Y1, -, -, -⟩ := id Y
  obtain ⟨Z0, Z1, -, -, -⟩ := id Z
  obtain ⟨U0, U1, -, -, -⟩ := id U
  obtain ⟨T0, T1, -, -, -⟩ := id T
  go_wp2_with fail
  go_ret
  exact ⟨rfl, HB.out⟩

theorem sums_walk (a b c d n m : Int) (w : World) (P : AnProg w) (n1 : -9223372036854775808 ≤ n) (n2 : n ≤ 9223372036854775807) (m1 : -9223372036854775808 ≤ m) (m2 : m ≤ 9223372036854775807) :
    Calls Tryd.prog 4 #[.agg #[.int .i64 a, .int .i64 b], .agg #[.int .i64 c, .int .i64 d], .int .i64 n, .int .i64 m] w fun e w' => e = .returned (.bool true) ∧ Below w.heap.size w w' := by
  cases ha : aok a b
  · exact sm_f a b c d n m w P n1 n2 m1 m2 ha
  by_cases t1 : n < -1048576
  · cases hc : aok c d
    · exact sm_r1_f a b c d n m w P n1 n2 m1 m2 ha hc t1
    · exact sm_r1_t a b c d n m w P n1 n2 m1 m2 ha hc t1
  by_cases t2 : n > 1048576
  · cases hc : aok c d
    · exact sm_r2_f a b c d n m w P n1 n2 m1 m2 ha hc t1 t2
    · exact sm_r2_t a b c d n m w P n1 n2 m1 m2 ha hc t1 t2
  by_cases t3 : m < 1
  · cases hc : aok c d
    · exact sm_r3_f a b c d n m w P n1 n2 m1 m2 ha hc t1 t2 t3
    · exact sm_r3_t a b c d n m w P n1 n2 m1 m2 ha hc t1 t2 t3
  by_cases t4 : m > 1048576
  · cases hc : aok c d
    · exact sm_r4_f a b c d n m w P n1 n2 m1 m2 ha hc t1 t2 t3 t4
    · exact sm_r4_t a b c d n m w P n1 n2 m1 m2 ha hc t1 t2 t3 t4
  cases hv : aok (tmL a b n m) (tmH a b n m)
  · cases hc : aok c d
    · exact sm_bad_f a b c d n m w P n1 n2 m1 m2 ha hc t1 t2 t3 t4 hv
    · exact sm_bad_t a b c d n m w P n1 n2 m1 m2 ha hc t1 t2 t3 t4 hv
  · cases hc : aok c d
    · exact sm_ok_f a b c d n m w P n1 n2 m1 m2 ha hc t1 t2 t3 t4 hv
    · exact sm_ok_t a b c d n m w P n1 n2 m1 m2 ha hc t1 t2 t3 t4 hv
end Go.Proofs.YtedcpmiadonmeaaDoor
