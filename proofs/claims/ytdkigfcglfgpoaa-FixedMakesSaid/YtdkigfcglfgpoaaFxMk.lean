/- FixedMakes: the walk of the law. -/
import Derived.Test.YtdkigfcglfgpoaaFxL
namespace Go.Proofs.Ytdkigfcglfgpoaa
open Go.RowKit
set_option linter.unusedVariables false

set_option maxHeartbeats 8000000 in
theorem makes_bad (P : FxProg) (n m a b c d : Int) (w : World) (n1 : -9223372036854775808 ≤ n) (n2 : n ≤ 9223372036854775807) (m1 : -9223372036854775808 ≤ m) (m2 : m ≤ 9223372036854775807) (ha : fok a b = false) :
    Calls Try.prog 3 #[.int .i64 n, .int .i64 m, .agg #[.int .i64 a, .int .i64 b], .agg #[.int .i64 c, .int .i64 d]] w fun e w' => e = .returned (.bool true) ∧ Below w.heap.size w w' := by
  have CA := Lib.hid (fun wx => awake_any P wx)
  obtain ⟨K, hK⟩ : ∃ K, makeR n m = K := ⟨_, rfl⟩
  have C1 := Lib.hid (fun wx => told K.l K.h K.e hK (P.make n m wx n1 n2 m1 m2))
  have K1 : Hid (∀ wx, Calls Try.prog 13 #[.int .i64 n, .int .i64 m] wx fun e w' => e = .returned (.tuple #[.agg #[.int .i64 K.l, .int .i64 K.h], .int .i64 K.e]) ∧ Below wx.heap.size wx w') := by
    intro wx
    by_cases hm : m = 0
    · subst hm; exact told K.l K.h K.e hK (rMake_zero n wx)
    · exact told K.l K.h K.e hK (rMake_some n m wx hm n1 n2 m1 m2)
  have R1 := Lib.hid (fun wx => result_ok K.l K.h K.e wx)
  have V1 := Lib.hid (fun wx => told1 false ha (P.valid a b wx))
  have V2 := Lib.hid (fun wx => rValid_is a b false ha wx)
  obtain ⟨s, hs⟩ : ∃ s, insideR a b c d = s := ⟨_, rfl⟩
  have I1 := Lib.hid (fun wx => told1 s hs (P.inside a b c d wx))
  have I2 := Lib.hid (fun wx => told1 s hs (rInside a b c d wx))
  have C2 := Lib.hid (fun wx => told 0 0 1 (vF_no _ (by rw [ha]; rfl)) (P.hull a b c d wx))
  have C3 := Lib.hid (fun wx => told 0 0 1 (vF_no _ (by rw [ha]; rfl)) (P.meet a b c d wx))
  clear n1 n2 m1 m2 hK hs ha
  have A := At2.new w (.int .i64 a) (.int .i64 b) 23
  have A := A.alloc (.cells #[.int .i64 c, .int .i64 d] 23)
  have B := At2.new (w.alloc (.cells #[.int .i64 a, .int .i64 b] 23)) (.int .i64 c) (.int .i64 d) 23
  simp at B
  have HB := Lib.hid (bstep (bstep (Below.refl w.heap.size w) (below1 w (.cells #[.int .i64 a, .int .i64 b] 23))) (below1 (w.alloc (.cells #[.int .i64 a, .int .i64 b] 23)) (.cells #[.int .i64 c, .int .i64 d] 23)))
  go_enter Try.func3, Try.ntmps3
  obtain ⟨A0, A1, -, -, -⟩ := id A
  obtain ⟨B0, B1, -, -, -⟩ := id B
  go_wp2_with fail
  refine (CA.out _).mono ?_
  rintro e w1 ⟨rfl, hb⟩
  have A := (A.keep hb)
  have B := (B.keep hb)
  have HB := Lib.hid (bstep HB.out hb)
  clear hb
  clear A0 A1 B0 B1
  obtain ⟨A0, A1, -, -, -⟩ := id A
  obtain ⟨B0, B1, -, -, -⟩ := id B
  go_wp2_with fail
  refine (C1.out _).mono ?_
  rintro e w2 ⟨rfl, hb⟩
  have A := (A.keep hb).alloc (.cells #[.int .i64 K.l, .int .i64 K.h] 23)
  have B := (B.keep hb).alloc (.cells #[.int .i64 K.l, .int .i64 K.h] 23)
  have X := At2.new w2 (.int .i64 K.l) (.int .i64 K.h) 23
  have HB := Lib.hid (bstep (bstep HB.out hb) (below1 w2 (.cells #[.int .i64 K.l, .int .i64 K.h] 23)))
  clear hb
  clear A0 A1 B0 B1
  obtain ⟨A0, A1, -, -, -⟩ := id A
  obtain ⟨B0, B1, -, -, -⟩ := id B
  obtain ⟨X0, X1, -, -, -⟩ := id X
  go_wp2_with fail
  refine (K1.out _).mono ?_
  rintro e w3 ⟨rfl, hb⟩
  have A := (A.keep hb).alloc (.cells #[.int .i64 K.l, .int .i64 K.h] 23)
  have B := (B.keep hb).alloc (.cells #[.int .i64 K.l, .int .i64 K.h] 23)
  have X := (X.keep hb).alloc (.cells #[.int .i64 K.l, .int .i64 K.h] 23)
  have Y := At2.new w3 (.int .i64 K.l) (.int .i64 K.h) 23
  have HB := Lib.hid (bstep (bstep HB.out hb) (below1 w3 (.cells #[.int .i64 K.l, .int .i64 K.h] 23)))
  clear hb
  clear A0 A1 B0 B1 X0 X1
  obtain ⟨A0, A1, -, -, -⟩ := id A
  obtain ⟨B0, B1, -, -, -⟩ := id B
  obtain ⟨X0, X1, -, -, -⟩ := id X
  obtain ⟨Y0, Y1, -, -, -⟩ := id Y
  go_wp2_with fail
  clear A0 A1 B0 B1 X0 X1 Y0 Y1
  obtain ⟨A0, A1⟩ := A.bel
  obtain ⟨B0, B1⟩ := B.bel
  obtain ⟨X0, X1⟩ := X.bel
  obtain ⟨Y0, Y1⟩ := Y.bel
  refine wp_region_bel (by kernel_rfl) (by kernel_rfl) ?_
  repeat (go_big_quiet_step (first | (go_at_call 14; first | (with_reducible refine bel_of (R1.out _))) | (go_at_call 15; first | (with_reducible refine bel_of (V1.out _))) | (go_at_call 16; first | (with_reducible refine bel_of (V2.out _))) | (go_at_call 17; first | (with_reducible refine bel_of (I1.out _))) | (go_at_call 18; first | (with_reducible refine bel_of (I2.out _)))))
  refine wpQuiet_nil ?_
  intro _ hw'
  obtain ⟨pq, hw''⟩ := hw'
  subst hw''
  have A := A.keep pq.h
  have B := B.keep pq.h
  have X := X.keep pq.h
  have Y := Y.keep pq.h
  have HB := Lib.hid (bstep HB.out pq.h)
  clear A0 A1 B0 B1 X0 X1 Y0 Y1
  obtain ⟨A0, A1, -, -, -⟩ := id A
  obtain ⟨B0, B1, -, -, -⟩ := id B
  obtain ⟨X0, X1, -, -, -⟩ := id X
  obtain ⟨Y0, Y1, -, -, -⟩ := id Y
  go_wp2_with fail
  refine (V2.out _).mono ?_
  rintro e w4 ⟨rfl, hb⟩
  have A := (A.keep hb)
  have B := (B.keep hb)
  have X := (X.keep hb)
  have Y := (Y.keep hb)
  have HB := Lib.hid (bstep HB.out hb)
  clear hb
  clear A0 A1 B0 B1 X0 X1 Y0 Y1
  obtain ⟨A0, A1, -, -, -⟩ := id A
  obtain ⟨B0, B1, -, -, -⟩ := id B
  obtain ⟨X0, X1, -, -, -⟩ := id X
  obtain ⟨Y0, Y1, -, -, -⟩ := id Y
  go_wp2_with fail
  refine (C2.out _).mono ?_
  rintro e w5 ⟨rfl, hb⟩
  have A := (A.keep hb).alloc (.cells #[.int .i64 0, .int .i64 0] 23)
  have B := (B.keep hb).alloc (.cells #[.int .i64 0, .int .i64 0] 23)
  have X := (X.keep hb).alloc (.cells #[.int .i64 0, .int .i64 0] 23)
  have Y := (Y.keep hb).alloc (.cells #[.int .i64 0, .int .i64 0] 23)
  have H := At2.new w5 (.int .i64 0) (.int .i64 0) 23
  have HB := Lib.hid (bstep (bstep HB.out hb) (below1 w5 (.cells #[.int .i64 0, .int .i64 0] 23)))
  clear hb
  clear A0 A1 B0 B1 X0 X1 Y0 Y1
  obtain ⟨A0, A1, -, -, -⟩ := id A
  obtain ⟨B0, B1, -, -, -⟩ := id B
  obtain ⟨X0, X1, -, -, -⟩ := id X
  obtain ⟨Y0, Y1, -, -, -⟩ := id Y
  obtain ⟨H0, H1, -, -, -⟩ := id H
  go_wp2_with fail
  refine (C3.out _).mono ?_
  rintro e w6 ⟨rfl, hb⟩
  have A := (A.keep hb).alloc (.cells #[.int .i64 0, .int .i64 0] 23)
  have B := (B.keep hb).alloc (.cells #[.int .i64 0, .int .i64 0] 23)
  have X := (X.keep hb).alloc (.cells #[.int .i64 0, .int .i64 0] 23)
  have Y := (Y.keep hb).alloc (.cells #[.int .i64 0, .int .i64 0] 23)
  have H := (H.keep hb).alloc (.cells #[.int .i64 0, .int .i64 0] 23)
  have M := At2.new w6 (.int .i64 0) (.int .i64 0) 23
  have HB := Lib.hid (bstep (bstep HB.out hb) (below1 w6 (.cells #[.int .i64 0, .int .i64 0] 23)))
  clear hb
  clear A0 A1 B0 B1 X0 X1 Y0 Y1 H0 H1
  obtain ⟨A0, A1, -, -, -⟩ := id A
  obtain ⟨B0, B1, -, -, -⟩ := id B
  obtain ⟨X0, X1, -, -, -⟩ := id X
  obtain ⟨Y0, Y1, -, -, -⟩ := id Y
  obtain ⟨H0, H1, -, -, -⟩ := id H
  obtain ⟨M0, M1, -, -, -⟩ := id M
  go_wp2_with fail
  go_ret
  exact ⟨rfl, HB.out⟩

set_option maxHeartbeats 8000000 in
theorem makes_mid (P : FxProg) (n m a b c d : Int) (w : World) (n1 : -9223372036854775808 ≤ n) (n2 : n ≤ 9223372036854775807) (m1 : -9223372036854775808 ≤ m) (m2 : m ≤ 9223372036854775807) (ha : fok a b = true) (hc : fok c d = false) :
    Calls Try.prog 3 #[.int .i64 n, .int .i64 m, .agg #[.int .i64 a, .int .i64 b], .agg #[.int .i64 c, .int .i64 d]] w fun e w' => e = .returned (.bool true) ∧ Below w.heap.size w w' := by
  have CA := Lib.hid (fun wx => awake_any P wx)
  obtain ⟨K, hK⟩ : ∃ K, makeR n m = K := ⟨_, rfl⟩
  have C1 := Lib.hid (fun wx => told K.l K.h K.e hK (P.make n m wx n1 n2 m1 m2))
  have K1 : Hid (∀ wx, Calls Try.prog 13 #[.int .i64 n, .int .i64 m] wx fun e w' => e = .returned (.tuple #[.agg #[.int .i64 K.l, .int .i64 K.h], .int .i64 K.e]) ∧ Below wx.heap.size wx w') := by
    intro wx
    by_cases hm : m = 0
    · subst hm; exact told K.l K.h K.e hK (rMake_zero n wx)
    · exact told K.l K.h K.e hK (rMake_some n m wx hm n1 n2 m1 m2)
  have R1 := Lib.hid (fun wx => result_ok K.l K.h K.e wx)
  have V1 := Lib.hid (fun wx => told1 true ha (P.valid a b wx))
  have V2 := Lib.hid (fun wx => rValid_is a b true ha wx)
  obtain ⟨s, hs⟩ : ∃ s, insideR a b c d = s := ⟨_, rfl⟩
  have I1 := Lib.hid (fun wx => told1 s hs (P.inside a b c d wx))
  have I2 := Lib.hid (fun wx => told1 s hs (rInside a b c d wx))
  have V3 := Lib.hid (fun wx => rValid_is c d false hc wx)
  have C2 := Lib.hid (fun wx => told 0 0 1 (vF_no _ (by rw [ha, hc]; rfl)) (P.hull a b c d wx))
  have C3 := Lib.hid (fun wx => told 0 0 1 (vF_no _ (by rw [ha, hc]; rfl)) (P.meet a b c d wx))
  clear n1 n2 m1 m2 hK hs ha hc
  have A := At2.new w (.int .i64 a) (.int .i64 b) 23
  have A := A.alloc (.cells #[.int .i64 c, .int .i64 d] 23)
  have B := At2.new (w.alloc (.cells #[.int .i64 a, .int .i64 b] 23)) (.int .i64 c) (.int .i64 d) 23
  simp at B
  have HB := Lib.hid (bstep (bstep (Below.refl w.heap.size w) (below1 w (.cells #[.int .i64 a, .int .i64 b] 23))) (below1 (w.alloc (.cells #[.int .i64 a, .int .i64 b] 23)) (.cells #[.int .i64 c, .int .i64 d] 23)))
  go_enter Try.func3, Try.ntmps3
  obtain ⟨A0, A1, -, -, -⟩ := id A
  obtain ⟨B0, B1, -, -, -⟩ := id B
  go_wp2_with fail
  refine (CA.out _).mono ?_
  rintro e w1 ⟨rfl, hb⟩
  have A := (A.keep hb)
  have B := (B.keep hb)
  have HB := Lib.hid (bstep HB.out hb)
  clear hb
  clear A0 A1 B0 B1
  obtain ⟨A0, A1, -, -, -⟩ := id A
  obtain ⟨B0, B1, -, -, -⟩ := id B
  go_wp2_with fail
  refine (C1.out _).mono ?_
  rintro e w2 ⟨rfl, hb⟩
  have A := (A.keep hb).alloc (.cells #[.int .i64 K.l, .int .i64 K.h] 23)
  have B := (B.keep hb).alloc (.cells #[.int .i64 K.l, .int .i64 K.h] 23)
  have X := At2.new w2 (.int .i64 K.l) (.int .i64 K.h) 23
  have HB := Lib.hid (bstep (bstep HB.out hb) (below1 w2 (.cells #[.int .i64 K.l, .int .i64 K.h] 23)))
  clear hb
  clear A0 A1 B0 B1
  obtain ⟨A0, A1, -, -, -⟩ := id A
  obtain ⟨B0, B1, -, -, -⟩ := id B
  obtain ⟨X0, X1, -, -, -⟩ := id X
  go_wp2_with fail
  refine (K1.out _).mono ?_
  rintro e w3 ⟨rfl, hb⟩
  have A := (A.keep hb).alloc (.cells #[.int .i64 K.l, .int .i64 K.h] 23)
  have B := (B.keep hb).alloc (.cells #[.int .i64 K.l, .int .i64 K.h] 23)
  have X := (X.keep hb).alloc (.cells #[.int .i64 K.l, .int .i64 K.h] 23)
  have Y := At2.new w3 (.int .i64 K.l) (.int .i64 K.h) 23
  have HB := Lib.hid (bstep (bstep HB.out hb) (below1 w3 (.cells #[.int .i64 K.l, .int .i64 K.h] 23)))
  clear hb
  clear A0 A1 B0 B1 X0 X1
  obtain ⟨A0, A1, -, -, -⟩ := id A
  obtain ⟨B0, B1, -, -, -⟩ := id B
  obtain ⟨X0, X1, -, -, -⟩ := id X
  obtain ⟨Y0, Y1, -, -, -⟩ := id Y
  go_wp2_with fail
  clear A0 A1 B0 B1 X0 X1 Y0 Y1
  obtain ⟨A0, A1⟩ := A.bel
  obtain ⟨B0, B1⟩ := B.bel
  obtain ⟨X0, X1⟩ := X.bel
  obtain ⟨Y0, Y1⟩ := Y.bel
  refine wp_region_bel (by kernel_rfl) (by kernel_rfl) ?_
  repeat (go_big_quiet_step (first | (go_at_call 14; first | (with_reducible refine bel_of (R1.out _))) | (go_at_call 15; first | (with_reducible refine bel_of (V1.out _))) | (go_at_call 16; first | (with_reducible refine bel_of (V2.out _))) | (go_at_call 17; first | (with_reducible refine bel_of (I1.out _))) | (go_at_call 18; first | (with_reducible refine bel_of (I2.out _)))))
  refine wpQuiet_nil ?_
  intro _ hw'
  obtain ⟨pq, hw''⟩ := hw'
  subst hw''
  have A := A.keep pq.h
  have B := B.keep pq.h
  have X := X.keep pq.h
  have Y := Y.keep pq.h
  have HB := Lib.hid (bstep HB.out pq.h)
  clear A0 A1 B0 B1 X0 X1 Y0 Y1
  obtain ⟨A0, A1, -, -, -⟩ := id A
  obtain ⟨B0, B1, -, -, -⟩ := id B
  obtain ⟨X0, X1, -, -, -⟩ := id X
  obtain ⟨Y0, Y1, -, -, -⟩ := id Y
  go_wp2_with fail
  refine (V2.out _).mono ?_
  rintro e w4 ⟨rfl, hb⟩
  have A := (A.keep hb)
  have B := (B.keep hb)
  have X := (X.keep hb)
  have Y := (Y.keep hb)
  have HB := Lib.hid (bstep HB.out hb)
  clear hb
  clear A0 A1 B0 B1 X0 X1 Y0 Y1
  obtain ⟨A0, A1, -, -, -⟩ := id A
  obtain ⟨B0, B1, -, -, -⟩ := id B
  obtain ⟨X0, X1, -, -, -⟩ := id X
  obtain ⟨Y0, Y1, -, -, -⟩ := id Y
  go_wp2_with fail
  refine (V3.out _).mono ?_
  rintro e w5 ⟨rfl, hb⟩
  have A := (A.keep hb)
  have B := (B.keep hb)
  have X := (X.keep hb)
  have Y := (Y.keep hb)
  have HB := Lib.hid (bstep HB.out hb)
  clear hb
  clear A0 A1 B0 B1 X0 X1 Y0 Y1
  obtain ⟨A0, A1, -, -, -⟩ := id A
  obtain ⟨B0, B1, -, -, -⟩ := id B
  obtain ⟨X0, X1, -, -, -⟩ := id X
  obtain ⟨Y0, Y1, -, -, -⟩ := id Y
  go_wp2_with fail
  refine (C2.out _).mono ?_
  rintro e w6 ⟨rfl, hb⟩
  have A := (A.keep hb).alloc (.cells #[.int .i64 0, .int .i64 0] 23)
  have B := (B.keep hb).alloc (.cells #[.int .i64 0, .int .i64 0] 23)
  have X := (X.keep hb).alloc (.cells #[.int .i64 0, .int .i64 0] 23)
  have Y := (Y.keep hb).alloc (.cells #[.int .i64 0, .int .i64 0] 23)
  have H := At2.new w6 (.int .i64 0) (.int .i64 0) 23
  have HB := Lib.hid (bstep (bstep HB.out hb) (below1 w6 (.cells #[.int .i64 0, .int .i64 0] 23)))
  clear hb
  clear A0 A1 B0 B1 X0 X1 Y0 Y1
  obtain ⟨A0, A1, -, -, -⟩ := id A
  obtain ⟨B0, B1, -, -, -⟩ := id B
  obtain ⟨X0, X1, -, -, -⟩ := id X
  obtain ⟨Y0, Y1, -, -, -⟩ := id Y
  obtain ⟨H0, H1, -, -, -⟩ := id H
  go_wp2_with fail
  refine (C3.out _).mono ?_
  rintro e w7 ⟨rfl, hb⟩
  have A := (A.keep hb).alloc (.cells #[.int .i64 0, .int .i64 0] 23)
  have B := (B.keep hb).alloc (.cells #[.int .i64 0, .int .i64 0] 23)
  have X := (X.keep hb).alloc (.cells #[.int .i64 0, .int .i64 0] 23)
  have Y := (Y.keep hb).alloc (.cells #[.int .i64 0, .int .i64 0] 23)
  have H := (H.keep hb).alloc (.cells #[.int .i64 0, .int .i64 0] 23)
  have M := At2.new w7 (.int .i64 0) (.int .i64 0) 23
  have HB := Lib.hid (bstep (bstep HB.out hb) (below1 w7 (.cells #[.int .i64 0, .int .i64 0] 23)))
  clear hb
  clear A0 A1 B0 B1 X0 X1 Y0 Y1 H0 H1
  obtain ⟨A0, A1, -, -, -⟩ := id A
  obtain ⟨B0, B1, -, -, -⟩ := id B
  obtain ⟨X0, X1, -, -, -⟩ := id X
  obtain ⟨Y0, Y1, -, -, -⟩ := id Y
  obtain ⟨H0, H1, -, -, -⟩ := id H
  obtain ⟨M0, M1, -, -, -⟩ := id M
  go_wp2_with fail
  go_ret
  exact ⟨rfl, HB.out⟩

set_option maxHeartbeats 8000000 in
theorem makes_good (P : FxProg) (n m a b c d : Int) (w : World) (n1 : -9223372036854775808 ≤ n) (n2 : n ≤ 9223372036854775807) (m1 : -9223372036854775808 ≤ m) (m2 : m ≤ 9223372036854775807) (ha : fok a b = true) (hc : fok c d = true) :
    Calls Try.prog 3 #[.int .i64 n, .int .i64 m, .agg #[.int .i64 a, .int .i64 b], .agg #[.int .i64 c, .int .i64 d]] w fun e w' => e = .returned (.bool true) ∧ Below w.heap.size w w' := by
  have CA := Lib.hid (fun wx => awake_any P wx)
  obtain ⟨K, hK⟩ : ∃ K, makeR n m = K := ⟨_, rfl⟩
  have C1 := Lib.hid (fun wx => told K.l K.h K.e hK (P.make n m wx n1 n2 m1 m2))
  have K1 : Hid (∀ wx, Calls Try.prog 13 #[.int .i64 n, .int .i64 m] wx fun e w' => e = .returned (.tuple #[.agg #[.int .i64 K.l, .int .i64 K.h], .int .i64 K.e]) ∧ Below wx.heap.size wx w') := by
    intro wx
    by_cases hm : m = 0
    · subst hm; exact told K.l K.h K.e hK (rMake_zero n wx)
    · exact told K.l K.h K.e hK (rMake_some n m wx hm n1 n2 m1 m2)
  have R1 := Lib.hid (fun wx => result_ok K.l K.h K.e wx)
  have V1 := Lib.hid (fun wx => told1 true ha (P.valid a b wx))
  have V2 := Lib.hid (fun wx => rValid_is a b true ha wx)
  obtain ⟨s, hs⟩ : ∃ s, insideR a b c d = s := ⟨_, rfl⟩
  have I1 := Lib.hid (fun wx => told1 s hs (P.inside a b c d wx))
  have I2 := Lib.hid (fun wx => told1 s hs (rInside a b c d wx))
  have V3 := Lib.hid (fun wx => rValid_is c d true hc wx)
  obtain ⟨G, hG⟩ : ∃ G, meetR a b c d = G := ⟨_, rfl⟩
  obtain ⟨p, hp⟩ : ∃ p, min a c = p := ⟨_, rfl⟩
  obtain ⟨q, hq⟩ : ∃ q, max b d = q := ⟨_, rfl⟩
  have C2 := Lib.hid (fun wx => told p q 0 ((vF_yes _ (by rw [ha, hc]; rfl)).trans (by unfold hullR; rw [hp, hq])) (P.hull a b c d wx))
  have C3 := Lib.hid (fun wx => told G.l G.h G.e ((vF_yes _ (by rw [ha, hc]; rfl)).trans hG) (P.meet a b c d wx))
  have K2 := Lib.hid (fun wx => rHull a b c d wx)
  unfold vI at K2
  rw [hp, hq] at K2
  have K3 := Lib.hid (fun wx => told G.l G.h G.e hG (rMeet a b c d wx))
  have R2 := Lib.hid (fun wx => result_ok p q 0 wx)
  have R3 := Lib.hid (fun wx => result_ok G.l G.h G.e wx)
  clear n1 n2 m1 m2 hK hs ha hc hG hp hq
  have A := At2.new w (.int .i64 a) (.int .i64 b) 23
  have A := A.alloc (.cells #[.int .i64 c, .int .i64 d] 23)
  have B := At2.new (w.alloc (.cells #[.int .i64 a, .int .i64 b] 23)) (.int .i64 c) (.int .i64 d) 23
  simp at B
  have HB := Lib.hid (bstep (bstep (Below.refl w.heap.size w) (below1 w (.cells #[.int .i64 a, .int .i64 b] 23))) (below1 (w.alloc (.cells #[.int .i64 a, .int .i64 b] 23)) (.cells #[.int .i64 c, .int .i64 d] 23)))
  go_enter Try.func3, Try.ntmps3
  obtain ⟨A0, A1, -, -, -⟩ := id A
  obtain ⟨B0, B1, -, -, -⟩ := id B
  go_wp2_with fail
  refine (CA.out _).mono ?_
  rintro e w1 ⟨rfl, hb⟩
  have A := (A.keep hb)
  have B := (B.keep hb)
  have HB := Lib.hid (bstep HB.out hb)
  clear hb
  clear A0 A1 B0 B1
  obtain ⟨A0, A1, -, -, -⟩ := id A
  obtain ⟨B0, B1, -, -, -⟩ := id B
  go_wp2_with fail
  refine (C1.out _).mono ?_
  rintro e w2 ⟨rfl, hb⟩
  have A := (A.keep hb).alloc (.cells #[.int .i64 K.l, .int .i64 K.h] 23)
  have B := (B.keep hb).alloc (.cells #[.int .i64 K.l, .int .i64 K.h] 23)
  have X := At2.new w2 (.int .i64 K.l) (.int .i64 K.h) 23
  have HB := Lib.hid (bstep (bstep HB.out hb) (below1 w2 (.cells #[.int .i64 K.l, .int .i64 K.h] 23)))
  clear hb
  clear A0 A1 B0 B1
  obtain ⟨A0, A1, -, -, -⟩ := id A
  obtain ⟨B0, B1, -, -, -⟩ := id B
  obtain ⟨X0, X1, -, -, -⟩ := id X
  go_wp2_with fail
  refine (K1.out _).mono ?_
  rintro e w3 ⟨rfl, hb⟩
  have A := (A.keep hb).alloc (.cells #[.int .i64 K.l, .int .i64 K.h] 23)
  have B := (B.keep hb).alloc (.cells #[.int .i64 K.l, .int .i64 K.h] 23)
  have X := (X.keep hb).alloc (.cells #[.int .i64 K.l, .int .i64 K.h] 23)
  have Y := At2.new w3 (.int .i64 K.l) (.int .i64 K.h) 23
  have HB := Lib.hid (bstep (bstep HB.out hb) (below1 w3 (.cells #[.int .i64 K.l, .int .i64 K.h] 23)))
  clear hb
  clear A0 A1 B0 B1 X0 X1
  obtain ⟨A0, A1, -, -, -⟩ := id A
  obtain ⟨B0, B1, -, -, -⟩ := id B
  obtain ⟨X0, X1, -, -, -⟩ := id X
  obtain ⟨Y0, Y1, -, -, -⟩ := id Y
  go_wp2_with fail
  clear A0 A1 B0 B1 X0 X1 Y0 Y1
  obtain ⟨A0, A1⟩ := A.bel
  obtain ⟨B0, B1⟩ := B.bel
  obtain ⟨X0, X1⟩ := X.bel
  obtain ⟨Y0, Y1⟩ := Y.bel
  refine wp_region_bel (by kernel_rfl) (by kernel_rfl) ?_
  repeat (go_big_quiet_step (first | (go_at_call 14; first | (with_reducible refine bel_of (R1.out _))) | (go_at_call 15; first | (with_reducible refine bel_of (V1.out _))) | (go_at_call 16; first | (with_reducible refine bel_of (V2.out _))) | (go_at_call 17; first | (with_reducible refine bel_of (I1.out _))) | (go_at_call 18; first | (with_reducible refine bel_of (I2.out _)))))
  refine wpQuiet_nil ?_
  intro _ hw'
  obtain ⟨pq, hw''⟩ := hw'
  subst hw''
  have A := A.keep pq.h
  have B := B.keep pq.h
  have X := X.keep pq.h
  have Y := Y.keep pq.h
  have HB := Lib.hid (bstep HB.out pq.h)
  clear A0 A1 B0 B1 X0 X1 Y0 Y1
  obtain ⟨A0, A1, -, -, -⟩ := id A
  obtain ⟨B0, B1, -, -, -⟩ := id B
  obtain ⟨X0, X1, -, -, -⟩ := id X
  obtain ⟨Y0, Y1, -, -, -⟩ := id Y
  go_wp2_with fail
  refine (V2.out _).mono ?_
  rintro e w4 ⟨rfl, hb⟩
  have A := (A.keep hb)
  have B := (B.keep hb)
  have X := (X.keep hb)
  have Y := (Y.keep hb)
  have HB := Lib.hid (bstep HB.out hb)
  clear hb
  clear A0 A1 B0 B1 X0 X1 Y0 Y1
  obtain ⟨A0, A1, -, -, -⟩ := id A
  obtain ⟨B0, B1, -, -, -⟩ := id B
  obtain ⟨X0, X1, -, -, -⟩ := id X
  obtain ⟨Y0, Y1, -, -, -⟩ := id Y
  go_wp2_with fail
  refine (V3.out _).mono ?_
  rintro e w5 ⟨rfl, hb⟩
  have A := (A.keep hb)
  have B := (B.keep hb)
  have X := (X.keep hb)
  have Y := (Y.keep hb)
  have HB := Lib.hid (bstep HB.out hb)
  clear hb
  clear A0 A1 B0 B1 X0 X1 Y0 Y1
  obtain ⟨A0, A1, -, -, -⟩ := id A
  obtain ⟨B0, B1, -, -, -⟩ := id B
  obtain ⟨X0, X1, -, -, -⟩ := id X
  obtain ⟨Y0, Y1, -, -, -⟩ := id Y
  go_wp2_with fail
  refine (C2.out _).mono ?_
  rintro e w6 ⟨rfl, hb⟩
  have A := (A.keep hb).alloc (.cells #[.int .i64 p, .int .i64 q] 23)
  have B := (B.keep hb).alloc (.cells #[.int .i64 p, .int .i64 q] 23)
  have X := (X.keep hb).alloc (.cells #[.int .i64 p, .int .i64 q] 23)
  have Y := (Y.keep hb).alloc (.cells #[.int .i64 p, .int .i64 q] 23)
  have H := At2.new w6 (.int .i64 p) (.int .i64 q) 23
  have HB := Lib.hid (bstep (bstep HB.out hb) (below1 w6 (.cells #[.int .i64 p, .int .i64 q] 23)))
  clear hb
  clear A0 A1 B0 B1 X0 X1 Y0 Y1
  obtain ⟨A0, A1, -, -, -⟩ := id A
  obtain ⟨B0, B1, -, -, -⟩ := id B
  obtain ⟨X0, X1, -, -, -⟩ := id X
  obtain ⟨Y0, Y1, -, -, -⟩ := id Y
  obtain ⟨H0, H1, -, -, -⟩ := id H
  go_wp2_with fail
  refine (C3.out _).mono ?_
  rintro e w7 ⟨rfl, hb⟩
  have A := (A.keep hb).alloc (.cells #[.int .i64 G.l, .int .i64 G.h] 23)
  have B := (B.keep hb).alloc (.cells #[.int .i64 G.l, .int .i64 G.h] 23)
  have X := (X.keep hb).alloc (.cells #[.int .i64 G.l, .int .i64 G.h] 23)
  have Y := (Y.keep hb).alloc (.cells #[.int .i64 G.l, .int .i64 G.h] 23)
  have H := (H.keep hb).alloc (.cells #[.int .i64 G.l, .int .i64 G.h] 23)
  have M := At2.new w7 (.int .i64 G.l) (.int .i64 G.h) 23
  have HB := Lib.hid (bstep (bstep HB.out hb) (below1 w7 (.cells #[.int .i64 G.l, .int .i64 G.h] 23)))
  clear hb
  clear A0 A1 B0 B1 X0 X1 Y0 Y1 H0 H1
  obtain ⟨A0, A1, -, -, -⟩ := id A
  obtain ⟨B0, B1, -, -, -⟩ := id B
  obtain ⟨X0, X1, -, -, -⟩ := id X
  obtain ⟨Y0, Y1, -, -, -⟩ := id Y
  obtain ⟨H0, H1, -, -, -⟩ := id H
  obtain ⟨M0, M1, -, -, -⟩ := id M
  go_wp2_with fail
  refine (K3.out _).mono ?_
  rintro e w8 ⟨rfl, hb⟩
  have A := (A.keep hb).alloc (.cells #[.int .i64 G.l, .int .i64 G.h] 23)
  have B := (B.keep hb).alloc (.cells #[.int .i64 G.l, .int .i64 G.h] 23)
  have X := (X.keep hb).alloc (.cells #[.int .i64 G.l, .int .i64 G.h] 23)
  have Y := (Y.keep hb).alloc (.cells #[.int .i64 G.l, .int .i64 G.h] 23)
  have H := (H.keep hb).alloc (.cells #[.int .i64 G.l, .int .i64 G.h] 23)
  have M := (M.keep hb).alloc (.cells #[.int .i64 G.l, .int .i64 G.h] 23)
  have N := At2.new w8 (.int .i64 G.l) (.int .i64 G.h) 23
  have HB := Lib.hid (bstep (bstep HB.out hb) (below1 w8 (.cells #[.int .i64 G.l, .int .i64 G.h] 23)))
  clear hb
  clear A0 A1 B0 B1 X0 X1 Y0 Y1 H0 H1 M0 M1
  obtain ⟨A0, A1, -, -, -⟩ := id A
  obtain ⟨B0, B1, -, -, -⟩ := id B
  obtain ⟨X0, X1, -, -, -⟩ := id X
  obtain ⟨Y0, Y1, -, -, -⟩ := id Y
  obtain ⟨H0, H1, -, -, -⟩ := id H
  obtain ⟨M0, M1, -, -, -⟩ := id M
  obtain ⟨N0, N1, -, -, -⟩ := id N
  go_wp2_with fail
  clear A0 A1 B0 B1 X0 X1 Y0 Y1 H0 H1 M0 M1 N0 N1
  obtain ⟨A0, A1⟩ := A.bel
  obtain ⟨B0, B1⟩ := B.bel
  obtain ⟨X0, X1⟩ := X.bel
  obtain ⟨Y0, Y1⟩ := Y.bel
  obtain ⟨H0, H1⟩ := H.bel
  obtain ⟨M0, M1⟩ := M.bel
  obtain ⟨N0, N1⟩ := N.bel
  refine wp_region_bel (by kernel_rfl) (by kernel_rfl) ?_
  repeat (go_big_quiet_step (first | (go_at_call 22; first | (with_reducible refine bel_of (K2.out _))) | (go_at_call 14; first | (with_reducible refine bel_of (R2.out _)) | (with_reducible refine bel_of (R3.out _)))))
  refine wpQuiet_nil ?_
  intro _ hw'
  obtain ⟨pq, hw''⟩ := hw'
  subst hw''
  have A := A.keep pq.h
  have B := B.keep pq.h
  have X := X.keep pq.h
  have Y := Y.keep pq.h
  have H := H.keep pq.h
  have M := M.keep pq.h
  have N := N.keep pq.h
  have HB := Lib.hid (bstep HB.out pq.h)
  clear A0 A1 B0 B1 X0 X1 Y0 Y1 H0 H1 M0 M1 N0 N1
  obtain ⟨A0, A1, -, -, -⟩ := id A
  obtain ⟨B0, B1, -, -, -⟩ := id B
  obtain ⟨X0, X1, -, -, -⟩ := id X
  obtain ⟨Y0, Y1, -, -, -⟩ := id Y
  obtain ⟨H0, H1, -, -, -⟩ := id H
  obtain ⟨M0, M1, -, -, -⟩ := id M
  obtain ⟨N0, N1, -, -, -⟩ := id N
  go_wp2_with fail
  go_ret
  exact ⟨rfl, HB.out⟩

theorem makes_walk (P : FxProg) (n m a b c d : Int) (w : World) (n1 : -9223372036854775808 ≤ n) (n2 : n ≤ 9223372036854775807) (m1 : -9223372036854775808 ≤ m) (m2 : m ≤ 9223372036854775807) :
    Calls Try.prog 3 #[.int .i64 n, .int .i64 m, .agg #[.int .i64 a, .int .i64 b], .agg #[.int .i64 c, .int .i64 d]] w fun e w' => e = .returned (.bool true) ∧ Below w.heap.size w w' := by
  cases ha : fok a b
  · exact makes_bad P n m a b c d w n1 n2 m1 m2 ha
  · cases hc : fok c d
    · exact makes_mid P n m a b c d w n1 n2 m1 m2 ha hc
    · exact makes_good P n m a b c d w n1 n2 m1 m2 ha hc
end Go.Proofs.Ytdkigfcglfgpoaa
