/- AngleWraps: the walk of the law. -/
import Derived.Test.YtedcpmiadonmeaaDoorAnK
namespace Go.Proofs.YtedcpmiadonmeaaDoor
open Go.RowKit
set_option linter.unusedVariables false

theorem stillB {f : Nat} {args : Array Value} {w : World} {v : Value} (C : Calls Tryd.prog f args w fun e w' => e = .returned v ∧ w' = w) :
    Calls Tryd.prog f args w fun e w' => e = .returned v ∧ Below w.heap.size w w' :=
  C.mono fun e w' h => ⟨h.1, h.2 ▸ Below.refl _ _⟩

set_option maxHeartbeats 4000000 in
theorem wr_fe (n a b c d : Int) (w : World) (P : AnProg w) (n1 : -9223372036854775808 ≤ n) (n2 : n ≤ 9223372036854775807) (ha : aok a b = false) (hq : signN n = wrapN n) :
    Calls Tryd.prog 3 #[.int .i64 n, .agg #[.int .i64 a, .int .i64 b], .agg #[.int .i64 c, .int .i64 d]] w fun e w' => e = .returned (.bool true) ∧ Below w.heap.size w w' := by
  have CA := Lib.hid (fun wx (hb : Below w.heap.size w wx) => awake_any w P.toAnAw wx hb)
  have CW := Lib.hid (fun wx => P.wrap n wx n1 n2)
  have CS := Lib.hid (fun wx => P.signed n wx n1 n2)
  have RW := Lib.hid (fun wx => stillB (rWrap n wx))
  have RS := Lib.hid (fun wx => stillB (rSigned n wx))
  have V1 := Lib.hid (fun wx => told1 false ha (P.valid a b wx))
  have V2 := Lib.hid (fun wx => rValid_is a b false ha wx)
  have I1 := Lib.hid (fun wx => told1 false (by unfold ainR; rw [ha]; rfl) (P.inside a b c d wx))
  obtain ⟨k1, k2⟩ := wrapN_in n
  obtain ⟨k3, k4⟩ := signN_in n
  have k5 := signN_wrapN n
  rw [hq] at CS RS k3 k4
  clear k5 hq
  generalize wrapN n = u at *
  clear n1 n2 ha
  have A := At2.new w (.int .i64 a) (.int .i64 b) 23
  have A := A.alloc (.cells #[.int .i64 c, .int .i64 d] 23)
  have B := At2.new (w.alloc (.cells #[.int .i64 a, .int .i64 b] 23)) (.int .i64 c) (.int .i64 d) 23
  simp at B
  have HB := Lib.hid (bstep (bstep (Below.refl w.heap.size w) (below1 w (.cells #[.int .i64 a, .int .i64 b] 23))) (below1 (w.alloc (.cells #[.int .i64 a, .int .i64 b] 23)) (.cells #[.int .i64 c, .int .i64 d] 23)))
  go_enter Tryd.func3, Tryd.ntmps3
  obtain ⟨A0, A1, -, -, -⟩ := id A
  obtain ⟨B0, B1, -, -, -⟩ := id B
  go_wp2_with fail
  refine (CA.out _ HB.out).mono ?_
  rintro e w1 ⟨rfl, hb⟩
  have A := (A.keep hb)
  have B := (B.keep hb)
  have HB := Lib.hid (bstep HB.out hb)
  clear hb
  clear A0 A1 B0 B1
  obtain ⟨A0, A1, -, -, -⟩ := id A
  obtain ⟨B0, B1, -, -, -⟩ := id B
  go_wp2_with fail
  refine (CW.out _).mono ?_
  rintro e w2 ⟨rfl, hb⟩
  have A := (A.keep hb)
  have B := (B.keep hb)
  have HB := Lib.hid (bstep HB.out hb)
  clear hb
  clear A0 A1 B0 B1
  obtain ⟨A0, A1, -, -, -⟩ := id A
  obtain ⟨B0, B1, -, -, -⟩ := id B
  go_wp2_with fail
  refine (CS.out _).mono ?_
  rintro e w3 ⟨rfl, hb⟩
  have A := (A.keep hb)
  have B := (B.keep hb)
  have HB := Lib.hid (bstep HB.out hb)
  clear hb
  clear A0 A1 B0 B1
  obtain ⟨A0, A1, -, -, -⟩ := id A
  obtain ⟨B0, B1, -, -, -⟩ := id B
  go_wp2_with fail
  clear A0 A1 B0 B1
  obtain ⟨A0, A1⟩ := A.bel
  obtain ⟨B0, B1⟩ := B.bel
  refine wp_region_bel (by kernel_rfl) (by kernel_rfl) ?_
  repeat (go_big_quiet_step (first | (go_at_call 14; first | (with_reducible refine bel_of (V1.out _))) | (go_at_call 15; first | (with_reducible refine bel_of (V2.out _))) | (go_at_call 16; first | (with_reducible refine bel_of (I1.out _)))))
  refine wpQuiet_nil ?_
  intro _ hw'
  obtain ⟨pq, hw''⟩ := hw'
  subst hw''
  have A := A.keep pq.h
  have B := B.keep pq.h
  have HB := Lib.hid (bstep HB.out pq.h)
  clear A0 A1 B0 B1
  obtain ⟨A0, A1, -, -, -⟩ := id A
  obtain ⟨B0, B1, -, -, -⟩ := id B
  go_wp2_with fail
  refine (RW.out _).mono ?_
  rintro e w4 ⟨rfl, hb⟩
  have A := (A.keep hb)
  have B := (B.keep hb)
  have HB := Lib.hid (bstep HB.out hb)
  clear hb
  clear A0 A1 B0 B1
  obtain ⟨A0, A1, -, -, -⟩ := id A
  obtain ⟨B0, B1, -, -, -⟩ := id B
  go_wp2_with fail
  refine (RS.out _).mono ?_
  rintro e w5 ⟨rfl, hb⟩
  have A := (A.keep hb)
  have B := (B.keep hb)
  have HB := Lib.hid (bstep HB.out hb)
  clear hb
  clear A0 A1 B0 B1
  obtain ⟨A0, A1, -, -, -⟩ := id A
  obtain ⟨B0, B1, -, -, -⟩ := id B
  go_wp2_with fail
  go_ret
  exact ⟨rfl, HB.out⟩

set_option maxHeartbeats 4000000 in
theorem wr_fn (n a b c d : Int) (w : World) (P : AnProg w) (n1 : -9223372036854775808 ≤ n) (n2 : n ≤ 9223372036854775807) (ha : aok a b = false) (hq : ¬ signN n = wrapN n) :
    Calls Tryd.prog 3 #[.int .i64 n, .agg #[.int .i64 a, .int .i64 b], .agg #[.int .i64 c, .int .i64 d]] w fun e w' => e = .returned (.bool true) ∧ Below w.heap.size w w' := by
  have CA := Lib.hid (fun wx (hb : Below w.heap.size w wx) => awake_any w P.toAnAw wx hb)
  have CW := Lib.hid (fun wx => P.wrap n wx n1 n2)
  have CS := Lib.hid (fun wx => P.signed n wx n1 n2)
  have RW := Lib.hid (fun wx => stillB (rWrap n wx))
  have RS := Lib.hid (fun wx => stillB (rSigned n wx))
  have V1 := Lib.hid (fun wx => told1 false ha (P.valid a b wx))
  have V2 := Lib.hid (fun wx => rValid_is a b false ha wx)
  have I1 := Lib.hid (fun wx => told1 false (by unfold ainR; rw [ha]; rfl) (P.inside a b c d wx))
  obtain ⟨k1, k2⟩ := wrapN_in n
  obtain ⟨k3, k4⟩ := signN_in n
  have k5 := signN_wrapN n
  have k6 : signN n = wrapN n - 21600000 := by rcases k5 with h | h; exact absurd h hq; exact h
  have t0 : (wrapN n - 21600000 == wrapN n) = false := beq_eq_false_iff_ne.2 (by omega)
  rw [k6] at CS RS k3 k4
  clear k5 k6 hq
  generalize wrapN n = u at *
  clear n1 n2 ha
  have A := At2.new w (.int .i64 a) (.int .i64 b) 23
  have A := A.alloc (.cells #[.int .i64 c, .int .i64 d] 23)
  have B := At2.new (w.alloc (.cells #[.int .i64 a, .int .i64 b] 23)) (.int .i64 c) (.int .i64 d) 23
  simp at B
  have HB := Lib.hid (bstep (bstep (Below.refl w.heap.size w) (below1 w (.cells #[.int .i64 a, .int .i64 b] 23))) (below1 (w.alloc (.cells #[.int .i64 a, .int .i64 b] 23)) (.cells #[.int .i64 c, .int .i64 d] 23)))
  go_enter Tryd.func3, Tryd.ntmps3
  obtain ⟨A0, A1, -, -, -⟩ := id A
  obtain ⟨B0, B1, -, -, -⟩ := id B
  go_wp2_with fail
  refine (CA.out _ HB.out).mono ?_
  rintro e w1 ⟨rfl, hb⟩
  have A := (A.keep hb)
  have B := (B.keep hb)
  have HB := Lib.hid (bstep HB.out hb)
  clear hb
  clear A0 A1 B0 B1
  obtain ⟨A0, A1, -, -, -⟩ := id A
  obtain ⟨B0, B1, -, -, -⟩ := id B
  go_wp2_with fail
  refine (CW.out _).mono ?_
  rintro e w2 ⟨rfl, hb⟩
  have A := (A.keep hb)
  have B := (B.keep hb)
  have HB := Lib.hid (bstep HB.out hb)
  clear hb
  clear A0 A1 B0 B1
  obtain ⟨A0, A1, -, -, -⟩ := id A
  obtain ⟨B0, B1, -, -, -⟩ := id B
  go_wp2_with fail
  refine (CS.out _).mono ?_
  rintro e w3 ⟨rfl, hb⟩
  have A := (A.keep hb)
  have B := (B.keep hb)
  have HB := Lib.hid (bstep HB.out hb)
  clear hb
  clear A0 A1 B0 B1
  obtain ⟨A0, A1, -, -, -⟩ := id A
  obtain ⟨B0, B1, -, -, -⟩ := id B
  go_wp2_with fail
  clear A0 A1 B0 B1
  obtain ⟨A0, A1⟩ := A.bel
  obtain ⟨B0, B1⟩ := B.bel
  refine wp_region_bel (by kernel_rfl) (by kernel_rfl) ?_
  repeat (go_big_quiet_step (first | (go_at_call 14; first | (with_reducible refine bel_of (V1.out _))) | (go_at_call 15; first | (with_reducible refine bel_of (V2.out _))) | (go_at_call 16; first | (with_reducible refine bel_of (I1.out _)))))
  refine wpQuiet_nil ?_
  intro _ hw'
  obtain ⟨pq, hw''⟩ := hw'
  subst hw''
  have A := A.keep pq.h
  have B := B.keep pq.h
  have HB := Lib.hid (bstep HB.out pq.h)
  clear A0 A1 B0 B1
  obtain ⟨A0, A1, -, -, -⟩ := id A
  obtain ⟨B0, B1, -, -, -⟩ := id B
  go_wp2_with fail
  refine (RW.out _).mono ?_
  rintro e w4 ⟨rfl, hb⟩
  have A := (A.keep hb)
  have B := (B.keep hb)
  have HB := Lib.hid (bstep HB.out hb)
  clear hb
  clear A0 A1 B0 B1
  obtain ⟨A0, A1, -, -, -⟩ := id A
  obtain ⟨B0, B1, -, -, -⟩ := id B
  go_wp2_with fail
  refine (RS.out _).mono ?_
  rintro e w5 ⟨rfl, hb⟩
  have A := (A.keep hb)
  have B := (B.keep hb)
  have HB := Lib.hid (bstep HB.out hb)
  clear hb
  clear A0 A1 B0 B1
  obtain ⟨A0, A1, -, -, -⟩ := id A
  obtain ⟨B0, B1, -, -, -⟩ := id B
  go_wp2_with fail
  go_ret
  exact ⟨rfl, HB.out⟩

set_option maxHeartbeats 4000000 in
theorem wr_tfe (n a b c d : Int) (w : World) (P : AnProg w) (n1 : -9223372036854775808 ≤ n) (n2 : n ≤ 9223372036854775807) (ha : aok a b = true) (hc : aok c d = false) (hq : signN n = wrapN n) :
    Calls Tryd.prog 3 #[.int .i64 n, .agg #[.int .i64 a, .int .i64 b], .agg #[.int .i64 c, .int .i64 d]] w fun e w' => e = .returned (.bool true) ∧ Below w.heap.size w w' := by
  have CA := Lib.hid (fun wx (hb : Below w.heap.size w wx) => awake_any w P.toAnAw wx hb)
  have CW := Lib.hid (fun wx => P.wrap n wx n1 n2)
  have CS := Lib.hid (fun wx => P.signed n wx n1 n2)
  have RW := Lib.hid (fun wx => stillB (rWrap n wx))
  have RS := Lib.hid (fun wx => stillB (rSigned n wx))
  have V1 := Lib.hid (fun wx => told1 true ha (P.valid a b wx))
  have V2 := Lib.hid (fun wx => rValid_is a b true ha wx)
  have I1 := Lib.hid (fun wx => told1 false (by unfold ainR; rw [ha, hc]; rfl) (P.inside a b c d wx))
  have V3 := Lib.hid (fun wx => rValid_is c d false hc wx)
  obtain ⟨k1, k2⟩ := wrapN_in n
  obtain ⟨k3, k4⟩ := signN_in n
  have k5 := signN_wrapN n
  rw [hq] at CS RS k3 k4
  clear k5 hq
  generalize wrapN n = u at *
  clear n1 n2 ha hc
  have A := At2.new w (.int .i64 a) (.int .i64 b) 23
  have A := A.alloc (.cells #[.int .i64 c, .int .i64 d] 23)
  have B := At2.new (w.alloc (.cells #[.int .i64 a, .int .i64 b] 23)) (.int .i64 c) (.int .i64 d) 23
  simp at B
  have HB := Lib.hid (bstep (bstep (Below.refl w.heap.size w) (below1 w (.cells #[.int .i64 a, .int .i64 b] 23))) (below1 (w.alloc (.cells #[.int .i64 a, .int .i64 b] 23)) (.cells #[.int .i64 c, .int .i64 d] 23)))
  go_enter Tryd.func3, Tryd.ntmps3
  obtain ⟨A0, A1, -, -, -⟩ := id A
  obtain ⟨B0, B1, -, -, -⟩ := id B
  go_wp2_with fail
  refine (CA.out _ HB.out).mono ?_
  rintro e w1 ⟨rfl, hb⟩
  have A := (A.keep hb)
  have B := (B.keep hb)
  have HB := Lib.hid (bstep HB.out hb)
  clear hb
  clear A0 A1 B0 B1
  obtain ⟨A0, A1, -, -, -⟩ := id A
  obtain ⟨B0, B1, -, -, -⟩ := id B
  go_wp2_with fail
  refine (CW.out _).mono ?_
  rintro e w2 ⟨rfl, hb⟩
  have A := (A.keep hb)
  have B := (B.keep hb)
  have HB := Lib.hid (bstep HB.out hb)
  clear hb
  clear A0 A1 B0 B1
  obtain ⟨A0, A1, -, -, -⟩ := id A
  obtain ⟨B0, B1, -, -, -⟩ := id B
  go_wp2_with fail
  refine (CS.out _).mono ?_
  rintro e w3 ⟨rfl, hb⟩
  have A := (A.keep hb)
  have B := (B.keep hb)
  have HB := Lib.hid (bstep HB.out hb)
  clear hb
  clear A0 A1 B0 B1
  obtain ⟨A0, A1, -, -, -⟩ := id A
  obtain ⟨B0, B1, -, -, -⟩ := id B
  go_wp2_with fail
  clear A0 A1 B0 B1
  obtain ⟨A0, A1⟩ := A.bel
  obtain ⟨B0, B1⟩ := B.bel
  refine wp_region_bel (by kernel_rfl) (by kernel_rfl) ?_
  repeat (go_big_quiet_step (first | (go_at_call 14; first | (with_reducible refine bel_of (V1.out _))) | (go_at_call 15; first | (with_reducible refine bel_of (V2.out _)) | (with_reducible refine bel_of (V3.out _))) | (go_at_call 16; first | (with_reducible refine bel_of (I1.out _)))))
  refine wpQuiet_nil ?_
  intro _ hw'
  obtain ⟨pq, hw''⟩ := hw'
  subst hw''
  have A := A.keep pq.h
  have B := B.keep pq.h
  have HB := Lib.hid (bstep HB.out pq.h)
  clear A0 A1 B0 B1
  obtain ⟨A0, A1, -, -, -⟩ := id A
  obtain ⟨B0, B1, -, -, -⟩ := id B
  go_wp2_with fail
  refine (RW.out _).mono ?_
  rintro e w4 ⟨rfl, hb⟩
  have A := (A.keep hb)
  have B := (B.keep hb)
  have HB := Lib.hid (bstep HB.out hb)
  clear hb
  clear A0 A1 B0 B1
  obtain ⟨A0, A1, -, -, -⟩ := id A
  obtain ⟨B0, B1, -, -, -⟩ := id B
  go_wp2_with fail
  refine (RS.out _).mono ?_
  rintro e w5 ⟨rfl, hb⟩
  have A := (A.keep hb)
  have B := (B.keep hb)
  have HB := Lib.hid (bstep HB.out hb)
  clear hb
  clear A0 A1 B0 B1
  obtain ⟨A0, A1, -, -, -⟩ := id A
  obtain ⟨B0, B1, -, -, -⟩ := id B
  go_wp2_with fail
  go_ret
  exact ⟨rfl, HB.out⟩

set_option maxHeartbeats 4000000 in
theorem wr_tfn (n a b c d : Int) (w : World) (P : AnProg w) (n1 : -9223372036854775808 ≤ n) (n2 : n ≤ 9223372036854775807) (ha : aok a b = true) (hc : aok c d = false) (hq : ¬ signN n = wrapN n) :
    Calls Tryd.prog 3 #[.int .i64 n, .agg #[.int .i64 a, .int .i64 b], .agg #[.int .i64 c, .int .i64 d]] w fun e w' => e = .returned (.bool true) ∧ Below w.heap.size w w' := by
  have CA := Lib.hid (fun wx (hb : Below w.heap.size w wx) => awake_any w P.toAnAw wx hb)
  have CW := Lib.hid (fun wx => P.wrap n wx n1 n2)
  have CS := Lib.hid (fun wx => P.signed n wx n1 n2)
  have RW := Lib.hid (fun wx => stillB (rWrap n wx))
  have RS := Lib.hid (fun wx => stillB (rSigned n wx))
  have V1 := Lib.hid (fun wx => told1 true ha (P.valid a b wx))
  have V2 := Lib.hid (fun wx => rValid_is a b true ha wx)
  have I1 := Lib.hid (fun wx => told1 false (by unfold ainR; rw [ha, hc]; rfl) (P.inside a b c d wx))
  have V3 := Lib.hid (fun wx => rValid_is c d false hc wx)
  obtain ⟨k1, k2⟩ := wrapN_in n
  obtain ⟨k3, k4⟩ := signN_in n
  have k5 := signN_wrapN n
  have k6 : signN n = wrapN n - 21600000 := by rcases k5 with h | h; exact absurd h hq; exact h
  have t0 : (wrapN n - 21600000 == wrapN n) = false := beq_eq_false_iff_ne.2 (by omega)
  rw [k6] at CS RS k3 k4
  clear k5 k6 hq
  generalize wrapN n = u at *
  clear n1 n2 ha hc
  have A := At2.new w (.int .i64 a) (.int .i64 b) 23
  have A := A.alloc (.cells #[.int .i64 c, .int .i64 d] 23)
  have B := At2.new (w.alloc (.cells #[.int .i64 a, .int .i64 b] 23)) (.int .i64 c) (.int .i64 d) 23
  simp at B
  have HB := Lib.hid (bstep (bstep (Below.refl w.heap.size w) (below1 w (.cells #[.int .i64 a, .int .i64 b] 23))) (below1 (w.alloc (.cells #[.int .i64 a, .int .i64 b] 23)) (.cells #[.int .i64 c, .int .i64 d] 23)))
  go_enter Tryd.func3, Tryd.ntmps3
  obtain ⟨A0, A1, -, -, -⟩ := id A
  obtain ⟨B0, B1, -, -, -⟩ := id B
  go_wp2_with fail
  refine (CA.out _ HB.out).mono ?_
  rintro e w1 ⟨rfl, hb⟩
  have A := (A.keep hb)
  have B := (B.keep hb)
  have HB := Lib.hid (bstep HB.out hb)
  clear hb
  clear A0 A1 B0 B1
  obtain ⟨A0, A1, -, -, -⟩ := id A
  obtain ⟨B0, B1, -, -, -⟩ := id B
  go_wp2_with fail
  refine (CW.out _).mono ?_
  rintro e w2 ⟨rfl, hb⟩
  have A := (A.keep hb)
  have B := (B.keep hb)
  have HB := Lib.hid (bstep HB.out hb)
  clear hb
  clear A0 A1 B0 B1
  obtain ⟨A0, A1, -, -, -⟩ := id A
  obtain ⟨B0, B1, -, -, -⟩ := id B
  go_wp2_with fail
  refine (CS.out _).mono ?_
  rintro e w3 ⟨rfl, hb⟩
  have A := (A.keep hb)
  have B := (B.keep hb)
  have HB := Lib.hid (bstep HB.out hb)
  clear hb
  clear A0 A1 B0 B1
  obtain ⟨A0, A1, -, -, -⟩ := id A
  obtain ⟨B0, B1, -, -, -⟩ := id B
  go_wp2_with fail
  clear A0 A1 B0 B1
  obtain ⟨A0, A1⟩ := A.bel
  obtain ⟨B0, B1⟩ := B.bel
  refine wp_region_bel (by kernel_rfl) (by kernel_rfl) ?_
  repeat (go_big_quiet_step (first | (go_at_call 14; first | (with_reducible refine bel_of (V1.out _))) | (go_at_call 15; first | (with_reducible refine bel_of (V2.out _)) | (with_reducible refine bel_of (V3.out _))) | (go_at_call 16; first | (with_reducible refine bel_of (I1.out _)))))
  refine wpQuiet_nil ?_
  intro _ hw'
  obtain ⟨pq, hw''⟩ := hw'
  subst hw''
  have A := A.keep pq.h
  have B := B.keep pq.h
  have HB := Lib.hid (bstep HB.out pq.h)
  clear A0 A1 B0 B1
  obtain ⟨A0, A1, -, -, -⟩ := id A
  obtain ⟨B0, B1, -, -, -⟩ := id B
  go_wp2_with fail
  refine (RW.out _).mono ?_
  rintro e w4 ⟨rfl, hb⟩
  have A := (A.keep hb)
  have B := (B.keep hb)
  have HB := Lib.hid (bstep HB.out hb)
  clear hb
  clear A0 A1 B0 B1
  obtain ⟨A0, A1, -, -, -⟩ := id A
  obtain ⟨B0, B1, -, -, -⟩ := id B
  go_wp2_with fail
  refine (RS.out _).mono ?_
  rintro e w5 ⟨rfl, hb⟩
  have A := (A.keep hb)
  have B := (B.keep hb)
  have HB := Lib.hid (bstep HB.out hb)
  clear hb
  clear A0 A1 B0 B1
  obtain ⟨A0, A1, -, -, -⟩ := id A
  obtain ⟨B0, B1, -, -, -⟩ := id B
  go_wp2_with fail
  go_ret
  exact ⟨rfl, HB.out⟩

set_option maxHeartbeats 4000000 in
theorem wr_ttfe (n a b c d : Int) (w : World) (P : AnProg w) (n1 : -9223372036854775808 ≤ n) (n2 : n ≤ 9223372036854775807) (ha : aok a b = true) (hc : aok c d = true) (hr : decide (c ≤ a ∧ b ≤ d) = false) (hq : signN n = wrapN n) :
    Calls Tryd.prog 3 #[.int .i64 n, .agg #[.int .i64 a, .int .i64 b], .agg #[.int .i64 c, .int .i64 d]] w fun e w' => e = .returned (.bool true) ∧ Below w.heap.size w w' := by
  have CA := Lib.hid (fun wx (hb : Below w.heap.size w wx) => awake_any w P.toAnAw wx hb)
  have CW := Lib.hid (fun wx => P.wrap n wx n1 n2)
  have CS := Lib.hid (fun wx => P.signed n wx n1 n2)
  have RW := Lib.hid (fun wx => stillB (rWrap n wx))
  have RS := Lib.hid (fun wx => stillB (rSigned n wx))
  have V1 := Lib.hid (fun wx => told1 true ha (P.valid a b wx))
  have V2 := Lib.hid (fun wx => rValid_is a b true ha wx)
  have I1 := Lib.hid (fun wx => told1 false (by unfold ainR; rw [ha, hc, hr]; rfl) (P.inside a b c d wx))
  have V3 := Lib.hid (fun wx => rValid_is c d true hc wx)
  have I2 := Lib.hid (fun wx => told1 false hr (rInside a b c d wx))
  obtain ⟨k1, k2⟩ := wrapN_in n
  obtain ⟨k3, k4⟩ := signN_in n
  have k5 := signN_wrapN n
  rw [hq] at CS RS k3 k4
  clear k5 hq
  generalize wrapN n = u at *
  clear n1 n2 ha hc hr
  have A := At2.new w (.int .i64 a) (.int .i64 b) 23
  have A := A.alloc (.cells #[.int .i64 c, .int .i64 d] 23)
  have B := At2.new (w.alloc (.cells #[.int .i64 a, .int .i64 b] 23)) (.int .i64 c) (.int .i64 d) 23
  simp at B
  have HB := Lib.hid (bstep (bstep (Below.refl w.heap.size w) (below1 w (.cells #[.int .i64 a, .int .i64 b] 23))) (below1 (w.alloc (.cells #[.int .i64 a, .int .i64 b] 23)) (.cells #[.int .i64 c, .int .i64 d] 23)))
  go_enter Tryd.func3, Tryd.ntmps3
  obtain ⟨A0, A1, -, -, -⟩ := id A
  obtain ⟨B0, B1, -, -, -⟩ := id B
  go_wp2_with fail
  refine (CA.out _ HB.out).mono ?_
  rintro e w1 ⟨rfl, hb⟩
  have A := (A.keep hb)
  have B := (B.keep hb)
  have HB := Lib.hid (bstep HB.out hb)
  clear hb
  clear A0 A1 B0 B1
  obtain ⟨A0, A1, -, -, -⟩ := id A
  obtain ⟨B0, B1, -, -, -⟩ := id B
  go_wp2_with fail
  refine (CW.out _).mono ?_
  rintro e w2 ⟨rfl, hb⟩
  have A := (A.keep hb)
  have B := (B.keep hb)
  have HB := Lib.hid (bstep HB.out hb)
  clear hb
  clear A0 A1 B0 B1
  obtain ⟨A0, A1, -, -, -⟩ := id A
  obtain ⟨B0, B1, -, -, -⟩ := id B
  go_wp2_with fail
  refine (CS.out _).mono ?_
  rintro e w3 ⟨rfl, hb⟩
  have A := (A.keep hb)
  have B := (B.keep hb)
  have HB := Lib.hid (bstep HB.out hb)
  clear hb
  clear A0 A1 B0 B1
  obtain ⟨A0, A1, -, -, -⟩ := id A
  obtain ⟨B0, B1, -, -, -⟩ := id B
  go_wp2_with fail
  clear A0 A1 B0 B1
  obtain ⟨A0, A1⟩ := A.bel
  obtain ⟨B0, B1⟩ := B.bel
  refine wp_region_bel (by kernel_rfl) (by kernel_rfl) ?_
  repeat (go_big_quiet_step (first | (go_at_call 14; first | (with_reducible refine bel_of (V1.out _))) | (go_at_call 15; first | (with_reducible refine bel_of (V2.out _)) | (with_reducible refine bel_of (V3.out _))) | (go_at_call 16; first | (with_reducible refine bel_of (I1.out _))) | (go_at_call 17; first | (with_reducible refine bel_of (I2.out _)))))
  refine wpQuiet_nil ?_
  intro _ hw'
  obtain ⟨pq, hw''⟩ := hw'
  subst hw''
  have A := A.keep pq.h
  have B := B.keep pq.h
  have HB := Lib.hid (bstep HB.out pq.h)
  clear A0 A1 B0 B1
  obtain ⟨A0, A1, -, -, -⟩ := id A
  obtain ⟨B0, B1, -, -, -⟩ := id B
  go_wp2_with fail
  refine (RW.out _).mono ?_
  rintro e w4 ⟨rfl, hb⟩
  have A := (A.keep hb)
  have B := (B.keep hb)
  have HB := Lib.hid (bstep HB.out hb)
  clear hb
  clear A0 A1 B0 B1
  obtain ⟨A0, A1, -, -, -⟩ := id A
  obtain ⟨B0, B1, -, -, -⟩ := id B
  go_wp2_with fail
  refine (RS.out _).mono ?_
  rintro e w5 ⟨rfl, hb⟩
  have A := (A.keep hb)
  have B := (B.keep hb)
  have HB := Lib.hid (bstep HB.out hb)
  clear hb
  clear A0 A1 B0 B1
  obtain ⟨A0, A1, -, -, -⟩ := id A
  obtain ⟨B0, B1, -, -, -⟩ := id B
  go_wp2_with fail
  go_ret
  exact ⟨rfl, HB.out⟩

set_option maxHeartbeats 4000000 in
theorem wr_ttfn (n a b c d : Int) (w : World) (P : AnProg w) (n1 : -9223372036854775808 ≤ n) (n2 : n ≤ 9223372036854775807) (ha : aok a b = true) (hc : aok c d = true) (hr : decide (c ≤ a ∧ b ≤ d) = false) (hq : ¬ signN n = wrapN n) :
    Calls Tryd.prog 3 #[.int .i64 n, .agg #[.int .i64 a, .int .i64 b], .agg #[.int .i64 c, .int .i64 d]] w fun e w' => e = .returned (.bool true) ∧ Below w.heap.size w w' := by
  have CA := Lib.hid (fun wx (hb : Below w.heap.size w wx) => awake_any w P.toAnAw wx hb)
  have CW := Lib.hid (fun wx => P.wrap n wx n1 n2)
  have CS := Lib.hid (fun wx => P.signed n wx n1 n2)
  have RW := Lib.hid (fun wx => stillB (rWrap n wx))
  have RS := Lib.hid (fun wx => stillB (rSigned n wx))
  have V1 := Lib.hid (fun wx => told1 true ha (P.valid a b wx))
  have V2 := Lib.hid (fun wx => rValid_is a b true ha wx)
  have I1 := Lib.hid (fun wx => told1 false (by unfold ainR; rw [ha, hc, hr]; rfl) (P.inside a b c d wx))
  have V3 := Lib.hid (fun wx => rValid_is c d true hc wx)
  have I2 := Lib.hid (fun wx => told1 false hr (rInside a b c d wx))
  obtain ⟨k1, k2⟩ := wrapN_in n
  obtain ⟨k3, k4⟩ := signN_in n
  have k5 := signN_wrapN n
  have k6 : signN n = wrapN n - 21600000 := by rcases k5 with h | h; exact absurd h hq; exact h
  have t0 : (wrapN n - 21600000 == wrapN n) = false := beq_eq_false_iff_ne.2 (by omega)
  rw [k6] at CS RS k3 k4
  clear k5 k6 hq
  generalize wrapN n = u at *
  clear n1 n2 ha hc hr
  have A := At2.new w (.int .i64 a) (.int .i64 b) 23
  have A := A.alloc (.cells #[.int .i64 c, .int .i64 d] 23)
  have B := At2.new (w.alloc (.cells #[.int .i64 a, .int .i64 b] 23)) (.int .i64 c) (.int .i64 d) 23
  simp at B
  have HB := Lib.hid (bstep (bstep (Below.refl w.heap.size w) (below1 w (.cells #[.int .i64 a, .int .i64 b] 23))) (below1 (w.alloc (.cells #[.int .i64 a, .int .i64 b] 23)) (.cells #[.int .i64 c, .int .i64 d] 23)))
  go_enter Tryd.func3, Tryd.ntmps3
  obtain ⟨A0, A1, -, -, -⟩ := id A
  obtain ⟨B0, B1, -, -, -⟩ := id B
  go_wp2_with fail
  refine (CA.out _ HB.out).mono ?_
  rintro e w1 ⟨rfl, hb⟩
  have A := (A.keep hb)
  have B := (B.keep hb)
  have HB := Lib.hid (bstep HB.out hb)
  clear hb
  clear A0 A1 B0 B1
  obtain ⟨A0, A1, -, -, -⟩ := id A
  obtain ⟨B0, B1, -, -, -⟩ := id B
  go_wp2_with fail
  refine (CW.out _).mono ?_
  rintro e w2 ⟨rfl, hb⟩
  have A := (A.keep hb)
  have B := (B.keep hb)
  have HB := Lib.hid (bstep HB.out hb)
  clear hb
  clear A0 A1 B0 B1
  obtain ⟨A0, A1, -, -, -⟩ := id A
  obtain ⟨B0, B1, -, -, -⟩ := id B
  go_wp2_with fail
  refine (CS.out _).mono ?_
  rintro e w3 ⟨rfl, hb⟩
  have A := (A.keep hb)
  have B := (B.keep hb)
  have HB := Lib.hid (bstep HB.out hb)
  clear hb
  clear A0 A1 B0 B1
  obtain ⟨A0, A1, -, -, -⟩ := id A
  obtain ⟨B0, B1, -, -, -⟩ := id B
  go_wp2_with fail
  clear A0 A1 B0 B1
  obtain ⟨A0, A1⟩ := A.bel
  obtain ⟨B0, B1⟩ := B.bel
  refine wp_region_bel (by kernel_rfl) (by kernel_rfl) ?_
  repeat (go_big_quiet_step (first | (go_at_call 14; first | (with_reducible refine bel_of (V1.out _))) | (go_at_call 15; first | (with_reducible refine bel_of (V2.out _)) | (with_reducible refine bel_of (V3.out _))) | (go_at_call 16; first | (with_reducible refine bel_of (I1.out _))) | (go_at_call 17; first | (with_reducible refine bel_of (I2.out _)))))
  refine wpQuiet_nil ?_
  intro _ hw'
  obtain ⟨pq, hw''⟩ := hw'
  subst hw''
  have A := A.keep pq.h
  have B := B.keep pq.h
  have HB := Lib.hid (bstep HB.out pq.h)
  clear A0 A1 B0 B1
  obtain ⟨A0, A1, -, -, -⟩ := id A
  obtain ⟨B0, B1, -, -, -⟩ := id B
  go_wp2_with fail
  refine (RW.out _).mono ?_
  rintro e w4 ⟨rfl, hb⟩
  have A := (A.keep hb)
  have B := (B.keep hb)
  have HB := Lib.hid (bstep HB.out hb)
  clear hb
  clear A0 A1 B0 B1
  obtain ⟨A0, A1, -, -, -⟩ := id A
  obtain ⟨B0, B1, -, -, -⟩ := id B
  go_wp2_with fail
  refine (RS.out _).mono ?_
  rintro e w5 ⟨rfl, hb⟩
  have A := (A.keep hb)
  have B := (B.keep hb)
  have HB := Lib.hid (bstep HB.out hb)
  clear hb
  clear A0 A1 B0 B1
  obtain ⟨A0, A1, -, -, -⟩ := id A
  obtain ⟨B0, B1, -, -, -⟩ := id B
  go_wp2_with fail
  go_ret
  exact ⟨rfl, HB.out⟩

set_option maxHeartbeats 4000000 in
theorem wr_ttte (n a b c d : Int) (w : World) (P : AnProg w) (n1 : -9223372036854775808 ≤ n) (n2 : n ≤ 9223372036854775807) (ha : aok a b = true) (hc : aok c d = true) (hr : decide (c ≤ a ∧ b ≤ d) = true) (hq : signN n = wrapN n) :
    Calls Tryd.prog 3 #[.int .i64 n, .agg #[.int .i64 a, .int .i64 b], .agg #[.int .i64 c, .int .i64 d]] w fun e w' => e = .returned (.bool true) ∧ Below w.heap.size w w' := by
  have CA := Lib.hid (fun wx (hb : Below w.heap.size w wx) => awake_any w P.toAnAw wx hb)
  have CW := Lib.hid (fun wx => P.wrap n wx n1 n2)
  have CS := Lib.hid (fun wx => P.signed n wx n1 n2)
  have RW := Lib.hid (fun wx => stillB (rWrap n wx))
  have RS := Lib.hid (fun wx => stillB (rSigned n wx))
  have V1 := Lib.hid (fun wx => told1 true ha (P.valid a b wx))
  have V2 := Lib.hid (fun wx => rValid_is a b true ha wx)
  have I1 := Lib.hid (fun wx => told1 true (by unfold ainR; rw [ha, hc, hr]; rfl) (P.inside a b c d wx))
  have V3 := Lib.hid (fun wx => rValid_is c d true hc wx)
  have I2 := Lib.hid (fun wx => told1 true hr (rInside a b c d wx))
  obtain ⟨k1, k2⟩ := wrapN_in n
  obtain ⟨k3, k4⟩ := signN_in n
  have k5 := signN_wrapN n
  rw [hq] at CS RS k3 k4
  clear k5 hq
  generalize wrapN n = u at *
  clear n1 n2 ha hc hr
  have A := At2.new w (.int .i64 a) (.int .i64 b) 23
  have A := A.alloc (.cells #[.int .i64 c, .int .i64 d] 23)
  have B := At2.new (w.alloc (.cells #[.int .i64 a, .int .i64 b] 23)) (.int .i64 c) (.int .i64 d) 23
  simp at B
  have HB := Lib.hid (bstep (bstep (Below.refl w.heap.size w) (below1 w (.cells #[.int .i64 a, .int .i64 b] 23))) (below1 (w.alloc (.cells #[.int .i64 a, .int .i64 b] 23)) (.cells #[.int .i64 c, .int .i64 d] 23)))
  go_enter Tryd.func3, Tryd.ntmps3
  obtain ⟨A0, A1, -, -, -⟩ := id A
  obtain ⟨B0, B1, -, -, -⟩ := id B
  go_wp2_with fail
  refine (CA.out _ HB.out).mono ?_
  rintro e w1 ⟨rfl, hb⟩
  have A := (A.keep hb)
  have B := (B.keep hb)
  have HB := Lib.hid (bstep HB.out hb)
  clear hb
  clear A0 A1 B0 B1
  obtain ⟨A0, A1, -, -, -⟩ := id A
  obtain ⟨B0, B1, -, -, -⟩ := id B
  go_wp2_with fail
  refine (CW.out _).mono ?_
  rintro e w2 ⟨rfl, hb⟩
  have A := (A.keep hb)
  have B := (B.keep hb)
  have HB := Lib.hid (bstep HB.out hb)
  clear hb
  clear A0 A1 B0 B1
  obtain ⟨A0, A1, -, -, -⟩ := id A
  obtain ⟨B0, B1, -, -, -⟩ := id B
  go_wp2_with fail
  refine (CS.out _).mono ?_
  rintro e w3 ⟨rfl, hb⟩
  have A := (A.keep hb)
  have B := (B.keep hb)
  have HB := Lib.hid (bstep HB.out hb)
  clear hb
  clear A0 A1 B0 B1
  obtain ⟨A0, A1, -, -, -⟩ := id A
  obtain ⟨B0, B1, -, -, -⟩ := id B
  go_wp2_with fail
  clear A0 A1 B0 B1
  obtain ⟨A0, A1⟩ := A.bel
  obtain ⟨B0, B1⟩ := B.bel
  refine wp_region_bel (by kernel_rfl) (by kernel_rfl) ?_
  repeat (go_big_quiet_step (first | (go_at_call 14; first | (with_reducible refine bel_of (V1.out _))) | (go_at_call 15; first | (with_reducible refine bel_of (V2.out _)) | (with_reducible refine bel_of (V3.out _))) | (go_at_call 16; first | (with_reducible refine bel_of (I1.out _))) | (go_at_call 17; first | (with_reducible refine bel_of (I2.out _)))))
  refine wpQuiet_nil ?_
  intro _ hw'
  obtain ⟨pq, hw''⟩ := hw'
  subst hw''
  have A := A.keep pq.h
  have B := B.keep pq.h
  have HB := Lib.hid (bstep HB.out pq.h)
  clear A0 A1 B0 B1
  obtain ⟨A0, A1, -, -, -⟩ := id A
  obtain ⟨B0, B1, -, -, -⟩ := id B
  go_wp2_with fail
  refine (RW.out _).mono ?_
  rintro e w4 ⟨rfl, hb⟩
  have A := (A.keep hb)
  have B := (B.keep hb)
  have HB := Lib.hid (bstep HB.out hb)
  clear hb
  clear A0 A1 B0 B1
  obtain ⟨A0, A1, -, -, -⟩ := id A
  obtain ⟨B0, B1, -, -, -⟩ := id B
  go_wp2_with fail
  refine (RS.out _).mono ?_
  rintro e w5 ⟨rfl, hb⟩
  have A := (A.keep hb)
  have B := (B.keep hb)
  have HB := Lib.hid (bstep HB.out hb)
  clear hb
  clear A0 A1 B0 B1
  obtain ⟨A0, A1, -, -, -⟩ := id A
  obtain ⟨B0, B1, -, -, -⟩ := id B
  go_wp2_with fail
  go_ret
  exact ⟨rfl, HB.out⟩

set_option maxHeartbeats 4000000 in
theorem wr_tttn (n a b c d : Int) (w : World) (P : AnProg w) (n1 : -9223372036854775808 ≤ n) (n2 : n ≤ 9223372036854775807) (ha : aok a b = true) (hc : aok c d = true) (hr : decide (c ≤ a ∧ b ≤ d) = true) (hq : ¬ signN n = wrapN n) :
    Calls Tryd.prog 3 #[.int .i64 n, .agg #[.int .i64 a, .int .i64 b], .agg #[.int .i64 c, .int .i64 d]] w fun e w' => e = .returned (.bool true) ∧ Below w.heap.size w w' := by
  have CA := Lib.hid (fun wx (hb : Below w.heap.size w wx) => awake_any w P.toAnAw wx hb)
  have CW := Lib.hid (fun wx => P.wrap n wx n1 n2)
  have CS := Lib.hid (fun wx => P.signed n wx n1 n2)
  have RW := Lib.hid (fun wx => stillB (rWrap n wx))
  have RS := Lib.hid (fun wx => stillB (rSigned n wx))
  have V1 := Lib.hid (fun wx => told1 true ha (P.valid a b wx))
  have V2 := Lib.hid (fun wx => rValid_is a b true ha wx)
  have I1 := Lib.hid (fun wx => told1 true (by unfold ainR; rw [ha, hc, hr]; rfl) (P.inside a b c d wx))
  have V3 := Lib.hid (fun wx => rValid_is c d true hc wx)
  have I2 := Lib.hid (fun wx => told1 true hr (rInside a b c d wx))
  obtain ⟨k1, k2⟩ := wrapN_in n
  obtain ⟨k3, k4⟩ := signN_in n
  have k5 := signN_wrapN n
  have k6 : signN n = wrapN n - 21600000 := by rcases k5 with h | h; exact absurd h hq; exact h
  have t0 : (wrapN n - 21600000 == wrapN n) = false := beq_eq_false_iff_ne.2 (by omega)
  rw [k6] at CS RS k3 k4
  clear k5 k6 hq
  generalize wrapN n = u at *
  clear n1 n2 ha hc hr
  have A := At2.new w (.int .i64 a) (.int .i64 b) 23
  have A := A.alloc (.cells #[.int .i64 c, .int .i64 d] 23)
  have B := At2.new (w.alloc (.cells #[.int .i64 a, .int .i64 b] 23)) (.int .i64 c) (.int .i64 d) 23
  simp at B
  have HB := Lib.hid (bstep (bstep (Below.refl w.heap.size w) (below1 w (.cells #[.int .i64 a, .int .i64 b] 23))) (below1 (w.alloc (.cells #[.int .i64 a, .int .i64 b] 23)) (.cells #[.int .i64 c, .int .i64 d] 23)))
  go_enter Tryd.func3, Tryd.ntmps3
  obtain ⟨A0, A1, -, -, -⟩ := id A
  obtain ⟨B0, B1, -, -, -⟩ := id B
  go_wp2_with fail
  refine (CA.out _ HB.out).mono ?_
  rintro e w1 ⟨rfl, hb⟩
  have A := (A.keep hb)
  have B := (B.keep hb)
  have HB := Lib.hid (bstep HB.out hb)
  clear hb
  clear A0 A1 B0 B1
  obtain ⟨A0, A1, -, -, -⟩ := id A
  obtain ⟨B0, B1, -, -, -⟩ := id B
  go_wp2_with fail
  refine (CW.out _).mono ?_
  rintro e w2 ⟨rfl, hb⟩
  have A := (A.keep hb)
  have B := (B.keep hb)
  have HB := Lib.hid (bstep HB.out hb)
  clear hb
  clear A0 A1 B0 B1
  obtain ⟨A0, A1, -, -, -⟩ := id A
  obtain ⟨B0, B1, -, -, -⟩ := id B
  go_wp2_with fail
  refine (CS.out _).mono ?_
  rintro e w3 ⟨rfl, hb⟩
  have A := (A.keep hb)
  have B := (B.keep hb)
  have HB := Lib.hid (bstep HB.out hb)
  clear hb
  clear A0 A1 B0 B1
  obtain ⟨A0, A1, -, -, -⟩ := id A
  obtain ⟨B0, B1, -, -, -⟩ := id B
  go_wp2_with fail
  clear A0 A1 B0 B1
  obtain ⟨A0, A1⟩ := A.bel
  obtain ⟨B0, B1⟩ := B.bel
  refine wp_region_bel (by kernel_rfl) (by kernel_rfl) ?_
  repeat (go_big_quiet_step (first | (go_at_call 14; first | (with_reducible refine bel_of (V1.out _))) | (go_at_call 15; first | (with_reducible refine bel_of (V2.out _)) | (with_reducible refine bel_of (V3.out _))) | (go_at_call 16; first | (with_reducible refine bel_of (I1.out _))) | (go_at_call 17; first | (with_reducible refine bel_of (I2.out _)))))
  refine wpQuiet_nil ?_
  intro _ hw'
  obtain ⟨pq, hw''⟩ := hw'
  subst hw''
  have A := A.keep pq.h
  have B := B.keep pq.h
  have HB := Lib.hid (bstep HB.out pq.h)
  clear A0 A1 B0 B1
  obtain ⟨A0, A1, -, -, -⟩ := id A
  obtain ⟨B0, B1, -, -, -⟩ := id B
  go_wp2_with fail
  refine (RW.out _).mono ?_
  rintro e w4 ⟨rfl, hb⟩
  have A := (A.keep hb)
  have B := (B.keep hb)
  have HB := Lib.hid (bstep HB.out hb)
  clear hb
  clear A0 A1 B0 B1
  obtain ⟨A0, A1, -, -, -⟩ := id A
  obtain ⟨B0, B1, -, -, -⟩ := id B
  go_wp2_with fail
  refine (RS.out _).mono ?_
  rintro e w5 ⟨rfl, hb⟩
  have A := (A.keep hb)
  have B := (B.keep hb)
  have HB := Lib.hid (bstep HB.out hb)
  clear hb
  clear A0 A1 B0 B1
  obtain ⟨A0, A1, -, -, -⟩ := id A
  obtain ⟨B0, B1, -, -, -⟩ := id B
  go_wp2_with fail
  go_ret
  exact ⟨rfl, HB.out⟩

theorem wraps_walk (n a b c d : Int) (w : World) (P : AnProg w) (n1 : -9223372036854775808 ≤ n) (n2 : n ≤ 9223372036854775807) :
    Calls Tryd.prog 3 #[.int .i64 n, .agg #[.int .i64 a, .int .i64 b], .agg #[.int .i64 c, .int .i64 d]] w fun e w' => e = .returned (.bool true) ∧ Below w.heap.size w w' := by
  by_cases hq : signN n = wrapN n
  · cases ha : aok a b
    · exact wr_fe n a b c d w P n1 n2 ha hq
    · cases hc : aok c d
      · exact wr_tfe n a b c d w P n1 n2 ha hc hq
      · cases hr : decide (c ≤ a ∧ b ≤ d)
        · exact wr_ttfe n a b c d w P n1 n2 ha hc hr hq
        · exact wr_ttte n a b c d w P n1 n2 ha hc hr hq
  · cases ha : aok a b
    · exact wr_fn n a b c d w P n1 n2 ha hq
    · cases hc : aok c d
      · exact wr_tfn n a b c d w P n1 n2 ha hc hq
      · cases hr : decide (c ≤ a ∧ b ≤ d)
        · exact wr_ttfn n a b c d w P n1 n2 ha hc hr hq
        · exact wr_tttn n a b c d w P n1 n2 ha hc hr hq
end Go.Proofs.YtedcpmiadonmeaaDoor
