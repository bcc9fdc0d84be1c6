/- Trig: what is asked of the program's functions, by their plain answers; the law's examples. -/
import Derived.Test.YtglmkpnnbgkndaaDoorTrE
namespace Go.Proofs.YtglmkpnnbgkndaaDoor
open Go.RowKit
set_option linter.unusedVariables false
set_option maxRecDepth 100000

/-- the answer, if the arc is valid -/
def vTr (r : Bool) (l h : Int) : Value := if r = true then .tuple #[.agg #[.int .i64 l, .int .i64 h], .int .i64 0] else .tuple #[.agg #[.int .i64 0, .int .i64 0], .int .i64 1]
theorem vTr_yes {r : Bool} (l h : Int) (k : r = true) : vTr r l h = .tuple #[.agg #[.int .i64 l, .int .i64 h], .int .i64 0] := if_pos k
theorem vTr_no {r : Bool} (l h : Int) (k : r = false) : vTr r l h = .tuple #[.agg #[.int .i64 0, .int .i64 0], .int .i64 1] := if_neg (by rw [k]; simp)
/-- whole numbers of 64 bits -/
abbrev I64 (n : Int) : Prop := -9223372036854775808 ≤ n ∧ n ≤ 9223372036854775807
/-- the program's functions answer as they should -/
structure TrProg (w : World) : Prop where
  sin : ∀ (a b : Int) (wx : World), Below w.heap.size w wx → I64 a → I64 b → Calls Tryd.prog 13 #[.agg #[.int .i64 a, .int .i64 b]] wx fun e w' => e = .returned (vTr (aok a b) (L6.sL a b) (L6.sH a b)) ∧ Below wx.heap.size wx w'
  cos : ∀ (a b : Int) (wx : World), Below w.heap.size w wx → I64 a → I64 b → Calls Tryd.prog 14 #[.agg #[.int .i64 a, .int .i64 b]] wx fun e w' => e = .returned (vTr (aok a b) (L6.sL (a + 5400000) (b + 5400000)) (L6.sH (a + 5400000) (b + 5400000))) ∧ Below wx.heap.size wx w'
  hav : ∀ (a b : Int) (wx : World), Below w.heap.size w wx → I64 a → I64 b → Calls Tryd.prog 18 #[.agg #[.int .i64 a, .int .i64 b]] wx fun e w' => e = .returned (vTr (aok a b) (hL a b) (hH a b)) ∧ Below wx.heap.size wx w'
  below : ∀ (n v : Int) (wx : World), Below w.heap.size w wx → I64 n → I64 v → Calls Tryd.prog 20 #[.int .i64 n, .int .i64 v] wx fun e w' => e = .returned (.int .i64 (blN n v)) ∧ Below wx.heap.size wx w'
theorem toldV {f : Nat} {args : Array Value} {w : World} {v : Value} (v' : Value) (e : v = v') (C : Calls Tryd.prog f args w fun e w' => e = .returned v ∧ Below w.heap.size w w') :
    Calls Tryd.prog f args w fun e w' => e = .returned v' ∧ Below w.heap.size w w' := by
  rw [e] at C; exact C
theorem tell_s1 : L6.sL 2700000 2700000 = 759250124 ∧ L6.sH 2700000 2700000 = 759250125 := by decide +kernel
theorem tell_s2 : L6.sL 0 7200000 = 0 ∧ L6.sH 0 7200000 = 1073741824 := by decide +kernel
theorem tell_s3 : L6.sL 5400000 12600000 = -536870912 ∧ L6.sH 5400000 12600000 = 1073741824 := by decide +kernel
theorem tell_b : blN 2700000 759250125 = -1 ∧ blN 1800000 536870912 = 0 := by decide +kernel
theorem at_any (n : Int) (w : World) : Calls Tryd.prog 25 #[.int .i64 n] w fun e w' => e = .returned (.agg #[.int .i64 n, .int .i64 n]) ∧ Below w.heap.size w w' := by
  have R := At2.new w (.int .i64 0) (.int .i64 0) 23
  obtain ⟨R0, R1, -, -, -⟩ := id R
  go_enter Tryd.func25, Tryd.ntmps25
  go_wp2_with fail
  refine bodyPost_ret (v := .agg #[.int .i64 n, .int .i64 n]) (by simp [results, Tryd.results25, go_sem]) rfl ⟨rfl, ?_⟩
  exact below1 _ _
set_option maxHeartbeats 1000000 in
theorem awake_any (w0 : World) (P : TrProg w0) (w : World) (h0 : Below w0.heap.size w0 w) : Calls Tryd.prog 12 #[] w fun e w' => e = .returned (.bool true) ∧ Below w.heap.size w w' := by
  have C0 := Lib.hid (fun wx => at_any 2700000 wx)
  have C1 := Lib.hid (fun wx (hb : Below w0.heap.size w0 wx) => toldV (.tuple #[.agg #[.int .i64 759250124, .int .i64 759250125], .int .i64 0]) (by rw [vTr_yes _ _ (by decide), tell_s1.1, tell_s1.2]) (P.sin 2700000 2700000 wx hb (by omega) (by omega)))
  have C2 := Lib.hid (fun wx (hb : Below w0.heap.size w0 wx) => toldV (.tuple #[.agg #[.int .i64 0, .int .i64 1073741824], .int .i64 0]) (by rw [vTr_yes _ _ (by decide), tell_s2.1, tell_s2.2]) (P.sin 0 7200000 wx hb (by omega) (by omega)))
  have C3 := Lib.hid (fun wx (hb : Below w0.heap.size w0 wx) => toldV (.tuple #[.agg #[.int .i64 (-536870912), .int .i64 1073741824], .int .i64 0]) (by rw [vTr_yes _ _ (by decide), show (0 : Int) + 5400000 = 5400000 from rfl, show (7200000 : Int) + 5400000 = 12600000 from rfl, tell_s3.1, tell_s3.2]) (P.cos 0 7200000 wx hb (by omega) (by omega)))
  have C4 := Lib.hid (fun wx (hb : Below w0.heap.size w0 wx) => toldI (-1) tell_b.1 (P.below 2700000 759250125 wx hb (by omega) (by omega)))
  have C5 := Lib.hid (fun wx (hb : Below w0.heap.size w0 wx) => toldI 0 tell_b.2 (P.below 1800000 536870912 wx hb (by omega) (by omega)))
  go_enter Tryd.func12, Tryd.ntmps12
  go_wp2_with fail
  refine (C0.out _).mono ?_
  rintro e w1 ⟨rfl, hb⟩
  have HB := Lib.hid hb
  clear hb
  go_wp2_with fail
  refine (C1.out _ (bstep h0 HB.out)).mono ?_
  rintro e w2 ⟨rfl, hb⟩
  have HB := Lib.hid (bstep HB.out hb)
  have X := At2.new w2 (.int .i64 (759250124)) (.int .i64 (759250125)) 25
  have HB := Lib.hid (bstep HB.out (below1 w2 (.cells #[.int .i64 (759250124), .int .i64 (759250125)] 25)))
  clear hb
  obtain ⟨X0, X1, -, -, -⟩ := id X
  go_wp2_with fail
  refine (C2.out _ (bstep h0 HB.out)).mono ?_
  rintro e w3 ⟨rfl, hb⟩
  have X := X.keep hb
  have HB := Lib.hid (bstep HB.out hb)
  have X := X.alloc (.cells #[.int .i64 (0), .int .i64 (1073741824)] 25)
  have Y := At2.new w3 (.int .i64 (0)) (.int .i64 (1073741824)) 25
  have HB := Lib.hid (bstep HB.out (below1 w3 (.cells #[.int .i64 (0), .int .i64 (1073741824)] 25)))
  clear hb
  clear X0 X1
  obtain ⟨X0, X1, -, -, -⟩ := id X
  obtain ⟨Y0, Y1, -, -, -⟩ := id Y
  go_wp2_with fail
  refine (C3.out _ (bstep h0 HB.out)).mono ?_
  rintro e w4 ⟨rfl, hb⟩
  have X := X.keep hb
  have Y := Y.keep hb
  have HB := Lib.hid (bstep HB.out hb)
  have X := X.alloc (.cells #[.int .i64 (-536870912), .int .i64 (1073741824)] 25)
  have Y := Y.alloc (.cells #[.int .i64 (-536870912), .int .i64 (1073741824)] 25)
  have Z := At2.new w4 (.int .i64 (-536870912)) (.int .i64 (1073741824)) 25
  have HB := Lib.hid (bstep HB.out (below1 w4 (.cells #[.int .i64 (-536870912), .int .i64 (1073741824)] 25)))
  clear hb
  clear X0 X1 Y0 Y1
  obtain ⟨X0, X1, -, -, -⟩ := id X
  obtain ⟨Y0, Y1, -, -, -⟩ := id Y
  obtain ⟨Z0, Z1, -, -, -⟩ := id Z
  go_wp2_with fail
  refine (C4.out _ (bstep h0 HB.out)).mono ?_
  rintro e w5 ⟨rfl, hb⟩
  have X := X.keep hb
  have Y := Y.keep hb
  have Z := Z.keep hb
  have HB := Lib.hid (bstep HB.out hb)
  clear hb
  clear X0 X1 Y0 Y1 Z0 Z1
  obtain ⟨X0, X1, -, -, -⟩ := id X
  obtain ⟨Y0, Y1, -, -, -⟩ := id Y
  obtain ⟨Z0, Z1, -, -, -⟩ := id Z
  go_wp2_with fail
  refine (C5.out _ (bstep h0 HB.out)).mono ?_
  rintro e w6 ⟨rfl, hb⟩
  have X := X.keep hb
  have Y := Y.keep hb
  have Z := Z.keep hb
  have HB := Lib.hid (bstep HB.out hb)
  clear hb
  clear X0 X1 Y0 Y1 Z0 Z1
  obtain ⟨X0, X1, -, -, -⟩ := id X
  obtain ⟨Y0, Y1, -, -, -⟩ := id Y
  obtain ⟨Z0, Z1, -, -, -⟩ := id Z
  go_wp2_with fail
  go_ret
  exact ⟨rfl, HB.out⟩

theorem belows_walk (w : World) (P : TrProg w) (n v : Int) (hn : I64 n) (hv : I64 v) :
    Calls Tryd.prog 5 #[.int .i64 n, .int .i64 v] w fun e w' => e = .returned (.bool true) ∧ Below w.heap.size w w' := by
  have C0 := Lib.hid (fun wx (hb : Below w.heap.size w wx) => awake_any w P wx hb)
  have C1 := Lib.hid (fun wx (hb : Below w.heap.size w wx) => P.below n v wx hb hn hv)
  have C2 := Lib.hid (fun wx => rBelow n v wx)
  generalize blN n v = x at *
  go_enter Tryd.func5, Tryd.ntmps5
  go_wp2_with fail
  refine (C0.out _ (Below.refl _ _)).mono ?_
  rintro e w1 ⟨rfl, hb⟩
  have HB := Lib.hid hb
  clear hb
  go_wp2_with fail
  refine (C1.out _ HB.out).mono ?_
  rintro e w2 ⟨rfl, hb⟩
  have HB := Lib.hid (bstep HB.out hb)
  clear hb
  go_wp2_with fail
  refine (C2.out _).mono ?_
  rintro e w3 ⟨rfl, hb⟩
  have HB := Lib.hid (bstep HB.out hb)
  clear hb
  go_wp2_with fail
  go_ret
  exact ⟨ret_bool (by simp), HB.out⟩

set_option maxHeartbeats 4000000 in
theorem haversines_walk (w : World) (P : TrProg w) (a b : Int) (ha : I64 a) (hb : I64 b) :
    Calls Tryd.prog 4 #[.agg #[.int .i64 a, .int .i64 b]] w fun e w' => e = .returned (.bool true) ∧ Below w.heap.size w w' := by
  have C0 := Lib.hid (fun wx (hb : Below w.heap.size w wx) => awake_any w P wx hb)
  cases hv : aok a b
  · have C1 := Lib.hid (fun wx (h : Below w.heap.size w wx) => toldV (.tuple #[.agg #[.int .i64 0, .int .i64 0], .int .i64 1]) (by rw [vTr_no _ _ hv]) (P.hav a b wx h ha hb))
    have C2 := Lib.hid (fun wx => rValid6_is a b false hv wx)
    clear hv
    have A := At2.new w (.int .i64 a) (.int .i64 b) 23
    have HB := Lib.hid (bstep (Below.refl w.heap.size w) (below1 w (.cells #[.int .i64 a, .int .i64 b] 23)))
    go_enter Tryd.func4, Tryd.ntmps4
    obtain ⟨A0, A1, -, -, -⟩ := id A
    go_wp2_with fail
    refine (C0.out _ HB.out).mono ?_
    rintro e w1 ⟨rfl, hb⟩
    have A := A.keep hb
    have HB := Lib.hid (bstep HB.out hb)
    clear hb
    clear A0 A1
    obtain ⟨A0, A1, -, -, -⟩ := id A
    go_wp2_with fail
    refine (C1.out _ HB.out).mono ?_
    rintro e w2 ⟨rfl, hb⟩
    have A := (A.keep hb).alloc (.cells #[.int .i64 (0), .int .i64 (0)] 25)
    have X := At2.new w2 (.int .i64 (0)) (.int .i64 (0)) 25
    have HB := Lib.hid (bstep (bstep HB.out hb) (below1 w2 (.cells #[.int .i64 (0), .int .i64 (0)] 25)))
    clear hb
    clear A0 A1
    obtain ⟨A0, A1, -, -, -⟩ := id A
    obtain ⟨X0, X1, -, -, -⟩ := id X
    go_wp2_with fail
    refine (C2.out _).mono ?_
    rintro e w3 ⟨rfl, hb⟩
    have A := A.keep hb
    have X := X.keep hb
    have HB := Lib.hid (bstep HB.out hb)
    clear hb
    clear A0 A1 X0 X1
    obtain ⟨A0, A1, -, -, -⟩ := id A
    obtain ⟨X0, X1, -, -, -⟩ := id X
    go_wp2_with fail
    go_ret
    exact ⟨rfl, HB.out⟩
  · have C1 := Lib.hid (fun wx (h : Below w.heap.size w wx) => toldV (.tuple #[.agg #[.int .i64 (hL a b), .int .i64 (hH a b)], .int .i64 0]) (by rw [vTr_yes _ _ hv]) (P.hav a b wx h ha hb))
    have C2 := Lib.hid (fun wx => rValid6_is a b true hv wx)
    obtain ⟨v1, v2, v3⟩ := (aok_iff _ _).1 hv
    have C3 := Lib.hid (fun wx => rHav a b wx (by omega) (by omega) (by omega) (by omega))
    generalize hL a b = x at *
    generalize hH a b = y at *
    clear hv v1 v2 v3
    have A := At2.new w (.int .i64 a) (.int .i64 b) 23
    have HB := Lib.hid (bstep (Below.refl w.heap.size w) (below1 w (.cells #[.int .i64 a, .int .i64 b] 23)))
    go_enter Tryd.func4, Tryd.ntmps4
    obtain ⟨A0, A1, -, -, -⟩ := id A
    go_wp2_with fail
    refine (C0.out _ HB.out).mono ?_
    rintro e w1 ⟨rfl, hb⟩
    have A := A.keep hb
    have HB := Lib.hid (bstep HB.out hb)
    clear hb
    clear A0 A1
    obtain ⟨A0, A1, -, -, -⟩ := id A
    go_wp2_with fail
    refine (C1.out _ HB.out).mono ?_
    rintro e w2 ⟨rfl, hb⟩
    have A := (A.keep hb).alloc (.cells #[.int .i64 (x), .int .i64 (y)] 25)
    have X := At2.new w2 (.int .i64 (x)) (.int .i64 (y)) 25
    have HB := Lib.hid (bstep (bstep HB.out hb) (below1 w2 (.cells #[.int .i64 (x), .int .i64 (y)] 25)))
    clear hb
    clear A0 A1
    obtain ⟨A0, A1, -, -, -⟩ := id A
    obtain ⟨X0, X1, -, -, -⟩ := id X
    go_wp2_with fail
    refine (C2.out _).mono ?_
    rintro e w3 ⟨rfl, hb⟩
    have A := A.keep hb
    have X := X.keep hb
    have HB := Lib.hid (bstep HB.out hb)
    clear hb
    clear A0 A1 X0 X1
    obtain ⟨A0, A1, -, -, -⟩ := id A
    obtain ⟨X0, X1, -, -, -⟩ := id X
    go_wp2_with fail
    clear A0 A1 X0 X1
    obtain ⟨A0, A1⟩ := A.bel
    obtain ⟨X0, X1⟩ := X.bel
    refine wp_region_bel (by kernel_rfl) (by kernel_rfl) ?_
    repeat (go_big_quiet_step (first | (go_at_call 19; first | (with_reducible refine bel_of (C3.out _)))))
    refine wpQuiet_nil ?_
    intro _ hw'
    obtain ⟨pq, hw''⟩ := hw'
    subst hw''
    have A := A.keep pq.h
    have X := X.keep pq.h
    have HB := Lib.hid (bstep HB.out pq.h)
    clear A0 A1 X0 X1
    obtain ⟨A0, A1, -, -, -⟩ := id A
    obtain ⟨X0, X1, -, -, -⟩ := id X
    go_wp2_with fail
    go_ret
    exact ⟨rfl, HB.out⟩

set_option maxHeartbeats 4000000 in
theorem sines_walk (w : World) (P : TrProg w) (a b : Int) (ha : I64 a) (hb : I64 b) :
    Calls Tryd.prog 3 #[.agg #[.int .i64 a, .int .i64 b]] w fun e w' => e = .returned (.bool true) ∧ Below w.heap.size w w' := by
  have C0 := Lib.hid (fun wx (hb : Below w.heap.size w wx) => awake_any w P wx hb)
  cases hv : aok a b
  · have C1 := Lib.hid (fun wx (h : Below w.heap.size w wx) => toldV (.tuple #[.agg #[.int .i64 0, .int .i64 0], .int .i64 1]) (by rw [vTr_no _ _ hv]) (P.sin a b wx h ha hb))
    have C2 := Lib.hid (fun wx (h : Below w.heap.size w wx) => toldV (.tuple #[.agg #[.int .i64 0, .int .i64 0], .int .i64 1]) (by rw [vTr_no _ _ hv]) (P.cos a b wx h ha hb))
    have C3 := Lib.hid (fun wx => rValid6_is a b false hv wx)
    clear hv
    have A := At2.new w (.int .i64 a) (.int .i64 b) 23
    have HB := Lib.hid (bstep (Below.refl w.heap.size w) (below1 w (.cells #[.int .i64 a, .int .i64 b] 23)))
    go_enter Tryd.func3, Tryd.ntmps3
    obtain ⟨A0, A1, -, -, -⟩ := id A
    go_wp2_with fail
    refine (C0.out _ HB.out).mono ?_
    rintro e w1 ⟨rfl, hb⟩
    have A := A.keep hb
    have HB := Lib.hid (bstep HB.out hb)
    clear hb
    clear A0 A1
    obtain ⟨A0, A1, -, -, -⟩ := id A
    go_wp2_with fail
    refine (C1.out _ HB.out).mono ?_
    rintro e w2 ⟨rfl, hb⟩
    have A := (A.keep hb).alloc (.cells #[.int .i64 (0), .int .i64 (0)] 25)
    have X := At2.new w2 (.int .i64 (0)) (.int .i64 (0)) 25
    have HB := Lib.hid (bstep (bstep HB.out hb) (below1 w2 (.cells #[.int .i64 (0), .int .i64 (0)] 25)))
    clear hb
    clear A0 A1
    obtain ⟨A0, A1, -, -, -⟩ := id A
    obtain ⟨X0, X1, -, -, -⟩ := id X
    go_wp2_with fail
    refine (C2.out _ HB.out).mono ?_
    rintro e w3 ⟨rfl, hb⟩
    have A := (A.keep hb).alloc (.cells #[.int .i64 (0), .int .i64 (0)] 25)
    have X := (X.keep hb).alloc (.cells #[.int .i64 (0), .int .i64 (0)] 25)
    have Y := At2.new w3 (.int .i64 (0)) (.int .i64 (0)) 25
    have HB := Lib.hid (bstep (bstep HB.out hb) (below1 w3 (.cells #[.int .i64 (0), .int .i64 (0)] 25)))
    clear hb
    clear A0 A1 X0 X1
    obtain ⟨A0, A1, -, -, -⟩ := id A
    obtain ⟨X0, X1, -, -, -⟩ := id X
    obtain ⟨Y0, Y1, -, -, -⟩ := id Y
    go_wp2_with fail
    refine (C3.out _).mono ?_
    rintro e w4 ⟨rfl, hb⟩
    have A := A.keep hb
    have X := X.keep hb
    have Y := Y.keep hb
    have HB := Lib.hid (bstep HB.out hb)
    clear hb
    clear A0 A1 X0 X1 Y0 Y1
    obtain ⟨A0, A1, -, -, -⟩ := id A
    obtain ⟨X0, X1, -, -, -⟩ := id X
    obtain ⟨Y0, Y1, -, -, -⟩ := id Y
    go_wp2_with fail
    go_ret
    exact ⟨rfl, HB.out⟩
  · have C1 := Lib.hid (fun wx (h : Below w.heap.size w wx) => toldV (.tuple #[.agg #[.int .i64 (L6.sL a b), .int .i64 (L6.sH a b)], .int .i64 0]) (by rw [vTr_yes _ _ hv]) (P.sin a b wx h ha hb))
    have C2 := Lib.hid (fun wx (h : Below w.heap.size w wx) => toldV (.tuple #[.agg #[.int .i64 (L6.sL (a + 5400000) (b + 5400000)), .int .i64 (L6.sH (a + 5400000) (b + 5400000))], .int .i64 0]) (by rw [vTr_yes _ _ hv]) (P.cos a b wx h ha hb))
    have C3 := Lib.hid (fun wx => rValid6_is a b true hv wx)
    obtain ⟨v1, v2, v3⟩ := (aok_iff _ _).1 hv
    have C4 := Lib.hid (fun wx => rSin6 a b wx (by omega) (by omega) (by omega) (by omega))
    have C5 := Lib.hid (fun wx => rCos6 a b wx (by omega) (by omega) (by omega) (by omega))
    generalize L6.sL a b = x at *
    generalize L6.sH a b = y at *
    generalize L6.sL (a + 5400000) (b + 5400000) = u at *
    generalize L6.sH (a + 5400000) (b + 5400000) = v at *
    clear hv v1 v2 v3
    have A := At2.new w (.int .i64 a) (.int .i64 b) 23
    have HB := Lib.hid (bstep (Below.refl w.heap.size w) (below1 w (.cells #[.int .i64 a, .int .i64 b] 23)))
    go_enter Tryd.func3, Tryd.ntmps3
    obtain ⟨A0, A1, -, -, -⟩ := id A
    go_wp2_with fail
    refine (C0.out _ HB.out).mono ?_
    rintro e w1 ⟨rfl, hb⟩
    have A := A.keep hb
    have HB := Lib.hid (bstep HB.out hb)
    clear hb
    clear A0 A1
    obtain ⟨A0, A1, -, -, -⟩ := id A
    go_wp2_with fail
    refine (C1.out _ HB.out).mono ?_
    rintro e w2 ⟨rfl, hb⟩
    have A := (A.keep hb).alloc (.cells #[.int .i64 (x), .int .i64 (y)] 25)
    have X := At2.new w2 (.int .i64 (x)) (.int .i64 (y)) 25
    have HB := Lib.hid (bstep (bstep HB.out hb) (below1 w2 (.cells #[.int .i64 (x), .int .i64 (y)] 25)))
    clear hb
    clear A0 A1
    obtain ⟨A0, A1, -, -, -⟩ := id A
    obtain ⟨X0, X1, -, -, -⟩ := id X
    go_wp2_with fail
    refine (C2.out _ HB.out).mono ?_
    rintro e w3 ⟨rfl, hb⟩
    have A := (A.keep hb).alloc (.cells #[.int .i64 (u), .int .i64 (v)] 25)
    have X := (X.keep hb).alloc (.cells #[.int .i64 (u), .int .i64 (v)] 25)
    have Y := At2.new w3 (.int .i64 (u)) (.int .i64 (v)) 25
    have HB := Lib.hid (bstep (bstep HB.out hb) (below1 w3 (.cells #[.int .i64 (u), .int .i64 (v)] 25)))
    clear hb
    clear A0 A1 X0 X1
    obtain ⟨A0, A1, -, -, -⟩ := id A
    obtain ⟨X0, X1, -, -, -⟩ := id X
    obtain ⟨Y0, Y1, -, -, -⟩ := id Y
    go_wp2_with fail
    refine (C3.out _).mono ?_
    rintro e w4 ⟨rfl, hb⟩
    have A := A.keep hb
    have X := X.keep hb
    have Y := Y.keep hb
    have HB := Lib.hid (bstep HB.out hb)
    clear hb
    clear A0 A1 X0 X1 Y0 Y1
    obtain ⟨A0, A1, -, -, -⟩ := id A
    obtain ⟨X0, X1, -, -, -⟩ := id X
    obtain ⟨Y0, Y1, -, -, -⟩ := id Y
    go_wp2_with fail
    clear A0 A1 X0 X1 Y0 Y1
    obtain ⟨A0, A1⟩ := A.bel
    obtain ⟨X0, X1⟩ := X.bel
    obtain ⟨Y0, Y1⟩ := Y.bel
    refine wp_region_bel (by kernel_rfl) (by kernel_rfl) ?_
    repeat (go_big_quiet_step (first | (go_at_call 16; first | (with_reducible refine bel_of (C4.out _))) | (go_at_call 17; first | (with_reducible refine bel_of (C5.out _)))))
    refine wpQuiet_nil ?_
    intro _ hw'
    obtain ⟨pq, hw''⟩ := hw'
    subst hw''
    have A := A.keep pq.h
    have X := X.keep pq.h
    have Y := Y.keep pq.h
    have HB := Lib.hid (bstep HB.out pq.h)
    clear A0 A1 X0 X1 Y0 Y1
    obtain ⟨A0, A1, -, -, -⟩ := id A
    obtain ⟨X0, X1, -, -, -⟩ := id X
    obtain ⟨Y0, Y1, -, -, -⟩ := id Y
    go_wp2_with fail
    go_ret
    exact ⟨rfl, HB.out⟩
end Go.Proofs.YtglmkpnnbgkndaaDoor
