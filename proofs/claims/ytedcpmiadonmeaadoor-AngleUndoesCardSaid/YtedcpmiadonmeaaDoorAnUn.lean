/- AngleUndoes: the walk of the law. -/
import Derived.Test.YtedcpmiadonmeaaDoorAnK
namespace Go.Proofs.YtedcpmiadonmeaaDoor
open Go.RowKit
set_option linter.unusedVariables false

set_option maxRecDepth 100000 in
set_option maxHeartbeats 4000000 in
theorem un_e0 (a b c d n : Int) (w : World) (P : AnProg w) (h0 : a > b) :
    Calls Tryd.prog 8 #[.agg #[.int .i64 a, .int .i64 b], .agg #[.int .i64 c, .int .i64 d], .int .u16 n] w fun e w' => e = .returned (.bool true) ∧ Below w.heap.size w w' := by
  have CA := Lib.hid (fun wx (hb : Below w.heap.size w wx) => awake_any w P.toAnAw wx hb)
  have A := At2.new w (.int .i64 a) (.int .i64 b) 23
  have A := A.alloc (.cells #[.int .i64 c, .int .i64 d] 23)
  have B := At2.new (w.alloc (.cells #[.int .i64 a, .int .i64 b] 23)) (.int .i64 c) (.int .i64 d) 23
  simp at B
  have HB := Lib.hid (bstep (bstep (Below.refl w.heap.size w) (below1 w (.cells #[.int .i64 a, .int .i64 b] 23))) (below1 (w.alloc (.cells #[.int .i64 a, .int .i64 b] 23)) (.cells #[.int .i64 c, .int .i64 d] 23)))
  go_enter Tryd.func8, Tryd.ntmps8
  obtain ⟨A0, A1, -, -, -⟩ := id A
  obtain ⟨B0, B1, -, -, -⟩ := id B
  go_wp2_with fail
  refine (CA.out _ HB.out).mono ?_
  rintro e w1 ⟨rfl, hb⟩
  have A := (A.keep hb)
  have B := (B.keep hb)
  have HB := Lib.hid (bstep HB.out hb)
  clear hb
  clear A0 A1 B0 B1
  obtain ⟨A0, A1, -, -, -⟩ := id A
  obtain ⟨B0, B1, -, -, -⟩ := id B
  go_wp2_with fail
  go_ret
  exact ⟨rfl, HB.out⟩

set_option maxRecDepth 100000 in
set_option maxHeartbeats 4000000 in
theorem un_e1 (a b c d n : Int) (w : World) (P : AnProg w) (h0 : ¬ a > b) (h1 : c > d) :
    Calls Tryd.prog 8 #[.agg #[.int .i64 a, .int .i64 b], .agg #[.int .i64 c, .int .i64 d], .int .u16 n] w fun e w' => e = .returned (.bool true) ∧ Below w.heap.size w w' := by
  have CA := Lib.hid (fun wx (hb : Below w.heap.size w wx) => awake_any w P.toAnAw wx hb)
  have A := At2.new w (.int .i64 a) (.int .i64 b) 23
  have A := A.alloc (.cells #[.int .i64 c, .int .i64 d] 23)
  have B := At2.new (w.alloc (.cells #[.int .i64 a, .int .i64 b] 23)) (.int .i64 c) (.int .i64 d) 23
  simp at B
  have HB := Lib.hid (bstep (bstep (Below.refl w.heap.size w) (below1 w (.cells #[.int .i64 a, .int .i64 b] 23))) (below1 (w.alloc (.cells #[.int .i64 a, .int .i64 b] 23)) (.cells #[.int .i64 c, .int .i64 d] 23)))
  go_enter Tryd.func8, Tryd.ntmps8
  obtain ⟨A0, A1, -, -, -⟩ := id A
  obtain ⟨B0, B1, -, -, -⟩ := id B
  go_wp2_with fail
  refine (CA.out _ HB.out).mono ?_
  rintro e w1 ⟨rfl, hb⟩
  have A := (A.keep hb)
  have B := (B.keep hb)
  have HB := Lib.hid (bstep HB.out hb)
  clear hb
  clear A0 A1 B0 B1
  obtain ⟨A0, A1, -, -, -⟩ := id A
  obtain ⟨B0, B1, -, -, -⟩ := id B
  go_wp2_with fail
  go_ret
  exact ⟨rfl, HB.out⟩

set_option maxRecDepth 100000 in
set_option maxHeartbeats 4000000 in
theorem un_e2 (a b c d n : Int) (w : World) (P : AnProg w) (h0 : ¬ a > b) (h1 : ¬ c > d) (h2 : a < -274877906944) :
    Calls Tryd.prog 8 #[.agg #[.int .i64 a, .int .i64 b], .agg #[.int .i64 c, .int .i64 d], .int .u16 n] w fun e w' => e = .returned (.bool true) ∧ Below w.heap.size w w' := by
  have CA := Lib.hid (fun wx (hb : Below w.heap.size w wx) => awake_any w P.toAnAw wx hb)
  have A := At2.new w (.int .i64 a) (.int .i64 b) 23
  have A := A.alloc (.cells #[.int .i64 c, .int .i64 d] 23)
  have B := At2.new (w.alloc (.cells #[.int .i64 a, .int .i64 b] 23)) (.int .i64 c) (.int .i64 d) 23
  simp at B
  have HB := Lib.hid (bstep (bstep (Below.refl w.heap.size w) (below1 w (.cells #[.int .i64 a, .int .i64 b] 23))) (below1 (w.alloc (.cells #[.int .i64 a, .int .i64 b] 23)) (.cells #[.int .i64 c, .int .i64 d] 23)))
  go_enter Tryd.func8, Tryd.ntmps8
  obtain ⟨A0, A1, -, -, -⟩ := id A
  obtain ⟨B0, B1, -, -, -⟩ := id B
  go_wp2_with fail
  refine (CA.out _ HB.out).mono ?_
  rintro e w1 ⟨rfl, hb⟩
  have A := (A.keep hb)
  have B := (B.keep hb)
  have HB := Lib.hid (bstep HB.out hb)
  clear hb
  clear A0 A1 B0 B1
  obtain ⟨A0, A1, -, -, -⟩ := id A
  obtain ⟨B0, B1, -, -, -⟩ := id B
  go_wp2_with fail
  go_ret
  exact ⟨rfl, HB.out⟩

set_option maxRecDepth 100000 in
set_option maxHeartbeats 4000000 in
theorem un_e3 (a b c d n : Int) (w : World) (P : AnProg w) (h0 : ¬ a > b) (h1 : ¬ c > d) (h2 : ¬ a < -274877906944) (h3 : c < -274877906944) :
    Calls Tryd.prog 8 #[.agg #[.int .i64 a, .int .i64 b], .agg #[.int .i64 c, .int .i64 d], .int .u16 n] w fun e w' => e = .returned (.bool true) ∧ Below w.heap.size w w' := by
  have CA := Lib.hid (fun wx (hb : Below w.heap.size w wx) => awake_any w P.toAnAw wx hb)
  have A := At2.new w (.int .i64 a) (.int .i64 b) 23
  have A := A.alloc (.cells #[.int .i64 c, .int .i64 d] 23)
  have B := At2.new (w.alloc (.cells #[.int .i64 a, .int .i64 b] 23)) (.int .i64 c) (.int .i64 d) 23
  simp at B
  have HB := Lib.hid (bstep (bstep (Below.refl w.heap.size w) (below1 w (.cells #[.int .i64 a, .int .i64 b] 23))) (below1 (w.alloc (.cells #[.int .i64 a, .int .i64 b] 23)) (.cells #[.int .i64 c, .int .i64 d] 23)))
  go_enter Tryd.func8, Tryd.ntmps8
  obtain ⟨A0, A1, -, -, -⟩ := id A
  obtain ⟨B0, B1, -, -, -⟩ := id B
  go_wp2_with fail
  refine (CA.out _ HB.out).mono ?_
  rintro e w1 ⟨rfl, hb⟩
  have A := (A.keep hb)
  have B := (B.keep hb)
  have HB := Lib.hid (bstep HB.out hb)
  clear hb
  clear A0 A1 B0 B1
  obtain ⟨A0, A1, -, -, -⟩ := id A
  obtain ⟨B0, B1, -, -, -⟩ := id B
  go_wp2_with fail
  go_ret
  exact ⟨rfl, HB.out⟩

set_option maxRecDepth 100000 in
set_option maxHeartbeats 4000000 in
theorem un_e4 (a b c d n : Int) (w : World) (P : AnProg w) (h0 : ¬ a > b) (h1 : ¬ c > d) (h2 : ¬ a < -274877906944) (h3 : ¬ c < -274877906944) (h4 : b > 274877906944) :
    Calls Tryd.prog 8 #[.agg #[.int .i64 a, .int .i64 b], .agg #[.int .i64 c, .int .i64 d], .int .u16 n] w fun e w' => e = .returned (.bool true) ∧ Below w.heap.size w w' := by
  have CA := Lib.hid (fun wx (hb : Below w.heap.size w wx) => awake_any w P.toAnAw wx hb)
  have A := At2.new w (.int .i64 a) (.int .i64 b) 23
  have A := A.alloc (.cells #[.int .i64 c, .int .i64 d] 23)
  have B := At2.new (w.alloc (.cells #[.int .i64 a, .int .i64 b] 23)) (.int .i64 c) (.int .i64 d) 23
  simp at B
  have HB := Lib.hid (bstep (bstep (Below.refl w.heap.size w) (below1 w (.cells #[.int .i64 a, .int .i64 b] 23))) (below1 (w.alloc (.cells #[.int .i64 a, .int .i64 b] 23)) (.cells #[.int .i64 c, .int .i64 d] 23)))
  go_enter Tryd.func8, Tryd.ntmps8
  obtain ⟨A0, A1, -, -, -⟩ := id A
  obtain ⟨B0, B1, -, -, -⟩ := id B
  go_wp2_with fail
  refine (CA.out _ HB.out).mono ?_
  rintro e w1 ⟨rfl, hb⟩
  have A := (A.keep hb)
  have B := (B.keep hb)
  have HB := Lib.hid (bstep HB.out hb)
  clear hb
  clear A0 A1 B0 B1
  obtain ⟨A0, A1, -, -, -⟩ := id A
  obtain ⟨B0, B1, -, -, -⟩ := id B
  go_wp2_with fail
  go_ret
  exact ⟨rfl, HB.out⟩

set_option maxRecDepth 100000 in
set_option maxHeartbeats 4000000 in
theorem un_e5 (a b c d n : Int) (w : World) (P : AnProg w) (h0 : ¬ a > b) (h1 : ¬ c > d) (h2 : ¬ a < -274877906944) (h3 : ¬ c < -274877906944) (h4 : ¬ b > 274877906944) (h5 : d > 274877906944) :
    Calls Tryd.prog 8 #[.agg #[.int .i64 a, .int .i64 b], .agg #[.int .i64 c, .int .i64 d], .int .u16 n] w fun e w' => e = .returned (.bool true) ∧ Below w.heap.size w w' := by
  have CA := Lib.hid (fun wx (hb : Below w.heap.size w wx) => awake_any w P.toAnAw wx hb)
  have A := At2.new w (.int .i64 a) (.int .i64 b) 23
  have A := A.alloc (.cells #[.int .i64 c, .int .i64 d] 23)
  have B := At2.new (w.alloc (.cells #[.int .i64 a, .int .i64 b] 23)) (.int .i64 c) (.int .i64 d) 23
  simp at B
  have HB := Lib.hid (bstep (bstep (Below.refl w.heap.size w) (below1 w (.cells #[.int .i64 a, .int .i64 b] 23))) (below1 (w.alloc (.cells #[.int .i64 a, .int .i64 b] 23)) (.cells #[.int .i64 c, .int .i64 d] 23)))
  go_enter Tryd.func8, Tryd.ntmps8
  obtain ⟨A0, A1, -, -, -⟩ := id A
  obtain ⟨B0, B1, -, -, -⟩ := id B
  go_wp2_with fail
  refine (CA.out _ HB.out).mono ?_
  rintro e w1 ⟨rfl, hb⟩
  have A := (A.keep hb)
  have B := (B.keep hb)
  have HB := Lib.hid (bstep HB.out hb)
  clear hb
  clear A0 A1 B0 B1
  obtain ⟨A0, A1, -, -, -⟩ := id A
  obtain ⟨B0, B1, -, -, -⟩ := id B
  go_wp2_with fail
  go_ret
  exact ⟨rfl, HB.out⟩

set_option maxRecDepth 100000 in
set_option maxHeartbeats 8000000 in
theorem un_ok (a b c d n : Int) (w : World) (P : AnProg w) (n1 : 0 ≤ n) (n2 : n ≤ 65535) (h0 : ¬ a > b) (h1 : ¬ c > d) (h2 : ¬ a < -274877906944) (h3 : ¬ c < -274877906944) (h4 : ¬ b > 274877906944) (h5 : ¬ d > 274877906944) :
    Calls Tryd.prog 8 #[.agg #[.int .i64 a, .int .i64 b], .agg #[.int .i64 c, .int .i64 d], .int .u16 n] w fun e w' => e = .returned (.bool true) ∧ Below w.heap.size w w' := by
  have CA := Lib.hid (fun wx (hb : Below w.heap.size w wx) => awake_any w P.toAnAw wx hb)
  have ka : aok a b = true := aok_mk (by omega) (by omega) (by omega)
  have kc : aok c d = true := aok_mk (by omega) (by omega) (by omega)
  obtain ⟨x, hx⟩ : ∃ x, a + c = x := ⟨_, rfl⟩
  obtain ⟨y, hy⟩ : ∃ y, b + d = y := ⟨_, rfl⟩
  have ks : aok x y = true := aok_mk (by omega) (by omega) (by omega)
  have C1 := Lib.hid (fun wx => told x y 0 ((vA_yes _ (by rw [ka, kc]; rfl)).trans (by unfold aaddR; rw [hx, hy]; exact afit_yes ks)) (P.add a b c d wx))
  obtain ⟨p, hp⟩ : ∃ p, x - d = p := ⟨_, rfl⟩
  obtain ⟨q, hq⟩ : ∃ q, y - c = q := ⟨_, rfl⟩
  have kp : aok p q = true := aok_mk (by omega) (by omega) (by omega)
  have C2 := Lib.hid (fun wx => told p q 0 ((vA_yes _ (by rw [ks, kc]; rfl)).trans (by unfold asubR; rw [hp, hq]; exact afit_yes kp)) (P.sub x y c d wx))
  obtain ⟨nb, hnb⟩ : ∃ nb, -b = nb := ⟨_, rfl⟩
  obtain ⟨na, hna⟩ : ∃ na, -a = na := ⟨_, rfl⟩
  have kn : aok nb na = true := aok_mk (by omega) (by omega) (by omega)
  have C3 := Lib.hid (fun wx => told nb na 0 ((vA_yes _ ka).trans (by unfold anegR; rw [hnb, hna])) (P.neg a b wx))
  have C4 := Lib.hid (fun wx => told a b 0 ((vA_yes _ kn).trans (by unfold anegR; rw [show -na = a by omega, show -nb = b by omega])) (P.neg nb na wx))
  obtain ⟨m, hm⟩ : ∃ m, 1 + n = m := ⟨_, rfl⟩
  have t1 : tmOk 1 m = true := (tmOk_iff _ _).2 (by omega)
  have t2 : tmOk m 1 = true := (tmOk_iff _ _).2 (by omega)
  obtain ⟨e1, e2⟩ := tm_one (a := a) (b := b) (d := m) (by omega)
  obtain ⟨b1, b2, b3, b4⟩ := tm_bounds (a := a) (b := b) (d := m) (by omega)
  obtain ⟨u, hu⟩ : ∃ u, a / m = u := ⟨_, rfl⟩
  obtain ⟨v, hv⟩ : ∃ v, cdiv b m = v := ⟨_, rfl⟩
  rw [hu] at e1 b1 b2
  rw [hv] at e2 b3 b4
  have fu := fl_bd (N := a) (y := m) (B := 274877906944) (by omega) (by omega) (by omega)
  have fv := fl_bd (N := b) (y := m) (B := 274877906944) (by omega) (by omega) (by omega)
  rw [hu] at fu
  rw [hv] at fv
  have huv : u ≤ v := by rw [← hu, ← hv]; exact Int.le_trans (fl_mono (by omega) (by omega)) (fl_le_ce (by omega))
  have ku : aok u v = true := aok_mk (by omega) (by omega) huv
  have C5 := Lib.hid (fun wx => told u v 0 ((vA_yes _ ka).trans ((if_pos t1).trans (by rw [e1, e2]; exact afit_yes ku))) (P.times a b 1 m wx (by omega) (by omega) (by omega) (by omega)))
  obtain ⟨e3, e4⟩ := tm_back (a := u) (b := v) (d := m) (by omega)
  obtain ⟨s, hs⟩ : ∃ s, u * m = s := ⟨_, rfl⟩
  obtain ⟨t, ht⟩ : ∃ t, v * m = t := ⟨_, rfl⟩
  rw [hs] at e3 b1 b2
  rw [ht] at e4 b3 b4
  have kt : aok s t = true := aok_mk (by omega) (by omega) (by omega)
  have C6 := Lib.hid (fun wx => told s t 0 ((vA_yes _ ku).trans ((if_pos t2).trans (by rw [e3, e4]; exact afit_yes kt))) (P.times u v m 1 wx (by omega) (by omega) (by omega) (by omega)))
  have I1 := Lib.hid (fun wx => told1 true (ainR_yes ka kp (by omega) (by omega)) (P.inside a b p q wx))
  have I2 := Lib.hid (fun wx => told1 true (ainR_yes ka kt (by omega) (by omega)) (P.inside a b s t wx))
  have hw : t - s ≤ b - a + 2 * m := by omega
  have g1 : -274877906944 ≤ a ∧ a ≤ 274877906944 ∧ -274877906944 ≤ b ∧ b ≤ 274877906944 ∧ -549755813888 ≤ s ∧ s ≤ 549755813888 ∧ -549755813888 ≤ t ∧ t ≤ 549755813888 ∧ 0 ≤ m ∧ m ≤ 65536 := by omega
  obtain ⟨g1, g2, g3, g4, g5, g6, g7, g8, g9, g10⟩ := g1
  clear ka kc hx hy ks hp hq kp hnb hna kn t1 t2 e1 e2 e3 e4 b1 b2 b3 b4 hu hv fu fv huv ku hs ht kt
  have A := At2.new w (.int .i64 a) (.int .i64 b) 23
  have A := A.alloc (.cells #[.int .i64 c, .int .i64 d] 23)
  have B := At2.new (w.alloc (.cells #[.int .i64 a, .int .i64 b] 23)) (.int .i64 c) (.int .i64 d) 23
  simp at B
  have HB := Lib.hid (bstep (bstep (Below.refl w.heap.size w) (below1 w (.cells #[.int .i64 a, .int .i64 b] 23))) (below1 (w.alloc (.cells #[.int .i64 a, .int .i64 b] 23)) (.cells #[.int .i64 c, .int .i64 d] 23)))
  go_enter Tryd.func8, Tryd.ntmps8
  obtain ⟨A0, A1, -, -, -⟩ := id A
  obtain ⟨B0, B1, -, -, -⟩ := id B
  go_wp2_with fail
  refine (CA.out _ HB.out).mono ?_
  rintro e w1 ⟨rfl, hb⟩
  have A := (A.keep hb)
  have B := (B.keep hb)
  have HB := Lib.hid (bstep HB.out hb)
  clear hb
  clear A0 A1 B0 B1
  obtain ⟨A0, A1, -, -, -⟩ := id A
  obtain ⟨B0, B1, -, -, -⟩ := id B
  go_wp2_with fail
  refine (C1.out _).mono ?_
  rintro e w2 ⟨rfl, hb⟩
  have A := (A.keep hb).alloc (.cells #[.int .i64 x, .int .i64 y] 23)
  have B := (B.keep hb).alloc (.cells #[.int .i64 x, .int .i64 y] 23)
  have X := At2.new w2 (.int .i64 x) (.int .i64 y) 23
  have HB := Lib.hid (bstep (bstep HB.out hb) (below1 w2 (.cells #[.int .i64 x, .int .i64 y] 23)))
  clear hb
  clear A0 A1 B0 B1
  obtain ⟨A0, A1, -, -, -⟩ := id A
  obtain ⟨B0, B1, -, -, -⟩ := id B
  obtain ⟨X0, X1, -, -, -⟩ := id X
  go_wp2_with fail
  refine (C2.out _).mono ?_
  rintro e w3 ⟨rfl, hb⟩
  have A := (A.keep hb).alloc (.cells #[.int .i64 p, .int .i64 q] 23)
  have B := (B.keep hb).alloc (.cells #[.int .i64 p, .int .i64 q] 23)
  have X := (X.keep hb).alloc (.cells #[.int .i64 p, .int .i64 q] 23)
  have Y := At2.new w3 (.int .i64 p) (.int .i64 q) 23
  have HB := Lib.hid (bstep (bstep HB.out hb) (below1 w3 (.cells #[.int .i64 p, .int .i64 q] 23)))
  clear hb
  clear A0 A1 B0 B1 X0 X1
  obtain ⟨A0, A1, -, -, -⟩ := id A
  obtain ⟨B0, B1, -, -, -⟩ := id B
  obtain ⟨X0, X1, -, -, -⟩ := id X
  obtain ⟨Y0, Y1, -, -, -⟩ := id Y
  go_wp2_with fail
  refine (C3.out _).mono ?_
  rintro e w4 ⟨rfl, hb⟩
  have A := (A.keep hb).alloc (.cells #[.int .i64 nb, .int .i64 na] 23)
  have B := (B.keep hb).alloc (.cells #[.int .i64 nb, .int .i64 na] 23)
  have X := (X.keep hb).alloc (.cells #[.int .i64 nb, .int .i64 na] 23)
  have Y := (Y.keep hb).alloc (.cells #[.int .i64 nb, .int .i64 na] 23)
  have Z := At2.new w4 (.int .i64 nb) (.int .i64 na) 23
  have HB := Lib.hid (bstep (bstep HB.out hb) (below1 w4 (.cells #[.int .i64 nb, .int .i64 na] 23)))
  clear hb
  clear A0 A1 B0 B1 X0 X1 Y0 Y1
  obtain ⟨A0, A1, -, -, -⟩ := id A
  obtain ⟨B0, B1, -, -, -⟩ := id B
  obtain ⟨X0, X1, -, -, -⟩ := id X
  obtain ⟨Y0, Y1, -, -, -⟩ := id Y
  obtain ⟨Z0, Z1, -, -, -⟩ := id Z
  go_wp2_with fail
  refine (C4.out _).mono ?_
  rintro e w5 ⟨rfl, hb⟩
  have A := (A.keep hb).alloc (.cells #[.int .i64 a, .int .i64 b] 23)
  have B := (B.keep hb).alloc (.cells #[.int .i64 a, .int .i64 b] 23)
  have X := (X.keep hb).alloc (.cells #[.int .i64 a, .int .i64 b] 23)
  have Y := (Y.keep hb).alloc (.cells #[.int .i64 a, .int .i64 b] 23)
  have Z := (Z.keep hb).alloc (.cells #[.int .i64 a, .int .i64 b] 23)
  have V := At2.new w5 (.int .i64 a) (.int .i64 b) 23
  have HB := Lib.hid (bstep (bstep HB.out hb) (below1 w5 (.cells #[.int .i64 a, .int .i64 b] 23)))
  clear hb
  clear A0 A1 B0 B1 X0 X1 Y0 Y1 Z0 Z1
  obtain ⟨A0, A1, -, -, -⟩ := id A
  obtain ⟨B0, B1, -, -, -⟩ := id B
  obtain ⟨X0, X1, -, -, -⟩ := id X
  obtain ⟨Y0, Y1, -, -, -⟩ := id Y
  obtain ⟨Z0, Z1, -, -, -⟩ := id Z
  obtain ⟨V0, V1, -, -, -⟩ := id V
  go_wp2_with fail
  refine (C5.out _).mono ?_
  rintro e w6 ⟨rfl, hb⟩
  have A := (A.keep hb).alloc (.cells #[.int .i64 u, .int .i64 v] 23)
  have B := (B.keep hb).alloc (.cells #[.int .i64 u, .int .i64 v] 23)
  have X := (X.keep hb).alloc (.cells #[.int .i64 u, .int .i64 v] 23)
  have Y := (Y.keep hb).alloc (.cells #[.int .i64 u, .int .i64 v] 23)
  have Z := (Z.keep hb).alloc (.cells #[.int .i64 u, .int .i64 v] 23)
  have V := (V.keep hb).alloc (.cells #[.int .i64 u, .int .i64 v] 23)
  have U := At2.new w6 (.int .i64 u) (.int .i64 v) 23
  have HB := Lib.hid (bstep (bstep HB.out hb) (below1 w6 (.cells #[.int .i64 u, .int .i64 v] 23)))
  clear hb
  clear A0 A1 B0 B1 X0 X1 Y0 Y1 Z0 Z1 V0 V1
  obtain ⟨A0, A1, -, -, -⟩ := id A
  obtain ⟨B0, B1, -, -, -⟩ := id B
  obtain ⟨X0, X1, -, -, -⟩ := id X
  obtain ⟨Y0, Y1, -, -, -⟩ := id Y
  obtain ⟨Z0, Z1, -, -, -⟩ := id Z
  obtain ⟨V0, V1, -, -, -⟩ := id V
  obtain ⟨U0, U1, -, -, -⟩ := id U
  go_wp2_with fail
  refine (C6.out _).mono ?_
  rintro e w7 ⟨rfl, hb⟩
  have A := (A.keep hb).alloc (.cells #[.int .i64 s, .int .i64 t] 23)
  have B := (B.keep hb).alloc (.cells #[.int .i64 s, .int .i64 t] 23)
  have X := (X.keep hb).alloc (.cells #[.int .i64 s, .int .i64 t] 23)
  have Y := (Y.keep hb).alloc (.cells #[.int .i64 s, .int .i64 t] 23)
  have Z := (Z.keep hb).alloc (.cells #[.int .i64 s, .int .i64 t] 23)
  have V := (V.keep hb).alloc (.cells #[.int .i64 s, .int .i64 t] 23)
  have U := (U.keep hb).alloc (.cells #[.int .i64 s, .int .i64 t] 23)
  have T := At2.new w7 (.int .i64 s) (.int .i64 t) 23
  have HB := Lib.hid (bstep (bstep HB.out hb) (below1 w7 (.cells #[.int .i64 s, .int .i64 t] 23)))
  clear hb
  clear A0 A1 B0 B1 X0 X1 Y0 Y1 Z0 Z1 V0 V1 U0 U1
  obtain ⟨A0, A1, -, -, -⟩ := id A
  obtain ⟨B0, B1, -, -, -⟩ := id B
  obtain ⟨X0, X1, -, -, -⟩ := id X
  obtain ⟨Y0, Y1, -, -, -⟩ := id Y
  obtain ⟨Z0, Z1, -, -, -⟩ := id Z
  obtain ⟨V0, V1, -, -, -⟩ := id V
  obtain ⟨U0, U1, -, -, -⟩ := id U
  obtain ⟨T0, T1, -, -, -⟩ := id T
  go_wp2_with fail
  refine (I1.out _).mono ?_
  rintro e w8 ⟨rfl, hb⟩
  have A := (A.keep hb)
  have B := (B.keep hb)
  have X := (X.keep hb)
  have Y := (Y.keep hb)
  have Z := (Z.keep hb)
  have V := (V.keep hb)
  have U := (U.keep hb)
  have T := (T.keep hb)
  have HB := Lib.hid (bstep HB.out hb)
  clear hb
  clear A0 A1 B0 B1 X0 X1 Y0 Y1 Z0 Z1 V0 V1 U0 U1 T0 T1
  obtain ⟨A0, A1, -, -, -⟩ := id A
  obtain ⟨B0, B1, -, -, -⟩ := id B
  obtain ⟨X0, X1, -, -, -⟩ := id X
  obtain ⟨Y0, Y1, -, -, -⟩ := id Y
  obtain ⟨Z0, Z1, -, -, -⟩ := id Z
  obtain ⟨V0, V1, -, -, -⟩ := id V
  obtain ⟨U0, U1, -, -, -⟩ := id U
  obtain ⟨T0, T1, -, -, -⟩ := id T
  go_wp2_with fail
  refine (I2.out _).mono ?_
  rintro e w9 ⟨rfl, hb⟩
  have A := (A.keep hb)
  have B := (B.keep hb)
  have X := (X.keep hb)
  have Y := (Y.keep hb)
  have Z := (Z.keep hb)
  have V := (V.keep hb)
  have U := (U.keep hb)
  have T := (T.keep hb)
  have HB := Lib.hid (bstep HB.out hb)
  clear hb
  clear A0 A1 B0 B1 X0 X1 Y0 Y1 Z0 Z1 V0 V1 U0 U1 T0 T1
  obtain ⟨A0, A1, -, -, -⟩ := id A
  obtain ⟨B0, B1, -, -, -⟩ := id B
  obtain ⟨X0, X1, -, -, -⟩ := id X
  obtain ⟨Y0, Y1, -, -, -⟩ := id Y
  obtain ⟨Z0, Z1, -, -, -⟩ := id Z
  obtain ⟨V0, V1, -, -, -⟩ := id V
  obtain ⟨U0, U1, -, -, -⟩ := id U
  obtain ⟨T0, T1, -, -, -⟩ := id T
  go_wp2_with fail
  go_ret
  exact ⟨rfl, HB.out⟩

theorem undoes_walk (a b c d n : Int) (w : World) (P : AnProg w) (n1 : 0 ≤ n) (n2 : n ≤ 65535) :
    Calls Tryd.prog 8 #[.agg #[.int .i64 a, .int .i64 b], .agg #[.int .i64 c, .int .i64 d], .int .u16 n] w fun e w' => e = .returned (.bool true) ∧ Below w.heap.size w w' := by
  by_cases h0 : a > b
  · exact un_e0 a b c d n w P h0
  by_cases h1 : c > d
  · exact un_e1 a b c d n w P h0 h1
  by_cases h2 : a < -274877906944
  · exact un_e2 a b c d n w P h0 h1 h2
  by_cases h3 : c < -274877906944
  · exact un_e3 a b c d n w P h0 h1 h2 h3
  by_cases h4 : b > 274877906944
  · exact un_e4 a b c d n w P h0 h1 h2 h3 h4
  by_cases h5 : d > 274877906944
  · exact un_e5 a b c d n w P h0 h1 h2 h3 h4 h5
  exact un_ok a b c d n w P n1 n2 h0 h1 h2 h3 h4 h5
end Go.Proofs.YtedcpmiadonmeaaDoor
