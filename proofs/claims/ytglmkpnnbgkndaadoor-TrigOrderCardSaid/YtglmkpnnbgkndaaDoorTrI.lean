/- TrigOrder: the walk of the law. -/
import Derived.Test.YtglmkpnnbgkndaaDoorTrH
namespace Go.Proofs.YtglmkpnnbgkndaaDoor
open Go.RowKit
set_option linter.unusedVariables false
set_option maxRecDepth 100000

theorem sin_one (w : World) (P : TrProg w) (n : Int) (h1 : -1099511627776 ≤ n) (h2 : n ≤ 1099511627776) (wx : World) (hb : Below w.heap.size w wx) :
    Calls Tryd.prog 13 #[.agg #[.int .i64 n, .int .i64 n]] wx fun e w' => e = .returned (.tuple #[.agg #[.int .i64 (L6.lo n), .int .i64 (L6.hi n)], .int .i64 0]) ∧ Below wx.heap.size wx w' := by
  have h := P.sin n n wx hb ⟨by omega, by omega⟩ ⟨by omega, by omega⟩
  rw [vTr_yes _ _ (aok_mk h1 h2 (Int.le_refl n)), sL_one, sH_one] at h
  exact h

theorem order_o0 (w : World) (P : TrProg w) (n v : Int) (h1 : n < -274877906944) :
    Calls Tryd.prog 8 #[.int .i64 n, .int .i64 v] w fun e w' => e = .returned (.bool true) ∧ Below w.heap.size w w' := by
  have C0 := Lib.hid (fun wx (hb : Below w.heap.size w wx) => awake_any w P wx hb)
  have t0 := decide_eq_true h1
  have HB := Lib.hid (Below.refl w.heap.size w)
  go_enter Tryd.func8, Tryd.ntmps8
  go_wp2_with fail
  refine (C0.out _ HB.out).mono ?_
  rintro e w1 ⟨rfl, hb⟩
  have HB := Lib.hid (bstep HB.out hb)
  clear hb
  go_wp2_with fail
  go_ret
  exact ⟨rfl, HB.out⟩

theorem order_o1 (w : World) (P : TrProg w) (n v : Int) (h1 : ¬ n < -274877906944) (h2 : n > 274877906944) :
    Calls Tryd.prog 8 #[.int .i64 n, .int .i64 v] w fun e w' => e = .returned (.bool true) ∧ Below w.heap.size w w' := by
  have C0 := Lib.hid (fun wx (hb : Below w.heap.size w wx) => awake_any w P wx hb)
  have t0 := decide_eq_false h1
  have t1 := decide_eq_true h2
  have HB := Lib.hid (Below.refl w.heap.size w)
  go_enter Tryd.func8, Tryd.ntmps8
  go_wp2_with fail
  refine (C0.out _ HB.out).mono ?_
  rintro e w1 ⟨rfl, hb⟩
  have HB := Lib.hid (bstep HB.out hb)
  clear hb
  go_wp2_with fail
  go_ret
  exact ⟨rfl, HB.out⟩

theorem order_o2 (w : World) (P : TrProg w) (n v : Int) (h1 : ¬ n < -274877906944) (h2 : ¬ n > 274877906944) (h3 : v < -1099511627776) :
    Calls Tryd.prog 8 #[.int .i64 n, .int .i64 v] w fun e w' => e = .returned (.bool true) ∧ Below w.heap.size w w' := by
  have C0 := Lib.hid (fun wx (hb : Below w.heap.size w wx) => awake_any w P wx hb)
  have t0 := decide_eq_false h1
  have t1 := decide_eq_false h2
  have t2 := decide_eq_true h3
  have HB := Lib.hid (Below.refl w.heap.size w)
  go_enter Tryd.func8, Tryd.ntmps8
  go_wp2_with fail
  refine (C0.out _ HB.out).mono ?_
  rintro e w1 ⟨rfl, hb⟩
  have HB := Lib.hid (bstep HB.out hb)
  clear hb
  go_wp2_with fail
  go_ret
  exact ⟨rfl, HB.out⟩

theorem order_o3 (w : World) (P : TrProg w) (n v : Int) (h1 : ¬ n < -274877906944) (h2 : ¬ n > 274877906944) (h3 : ¬ v < -1099511627776) (h4 : v > 1099511627776) :
    Calls Tryd.prog 8 #[.int .i64 n, .int .i64 v] w fun e w' => e = .returned (.bool true) ∧ Below w.heap.size w w' := by
  have C0 := Lib.hid (fun wx (hb : Below w.heap.size w wx) => awake_any w P wx hb)
  have t0 := decide_eq_false h1
  have t1 := decide_eq_false h2
  have t2 := decide_eq_false h3
  have t3 := decide_eq_true h4
  have HB := Lib.hid (Below.refl w.heap.size w)
  go_enter Tryd.func8, Tryd.ntmps8
  go_wp2_with fail
  refine (C0.out _ HB.out).mono ?_
  rintro e w1 ⟨rfl, hb⟩
  have HB := Lib.hid (bstep HB.out hb)
  clear hb
  go_wp2_with fail
  go_ret
  exact ⟨rfl, HB.out⟩

set_option maxHeartbeats 1000000 in
theorem order_e1_1 (w : World) (n v l h : Int) (h1 : ¬ n < -274877906944) (h2 : ¬ n > 274877906944) (h3 : ¬ v < -1099511627776) (h4 : ¬ v > 1099511627776) (k : v < l) (e : l = h)
    (C0 : Hid (∀ wx, Below w.heap.size w wx → Calls Tryd.prog 12 #[] wx fun e w' => e = .returned (.bool true) ∧ Below wx.heap.size wx w'))
    (C2 : Hid (∀ wx, Below w.heap.size w wx → Calls Tryd.prog 13 #[.agg #[.int .i64 n, .int .i64 n]] wx fun e w' => e = .returned (.tuple #[.agg #[.int .i64 l, .int .i64 h], .int .i64 0]) ∧ Below wx.heap.size wx w'))
    (C3 : Hid (∀ wx, Below w.heap.size w wx → Calls Tryd.prog 20 #[.int .i64 n, .int .i64 v] wx fun e w' => e = .returned (.int .i64 (1)) ∧ Below wx.heap.size wx w'))
    (C4 : Hid (∀ wx, Below w.heap.size w wx → Calls Tryd.prog 20 #[.int .i64 n, .int .i64 (v + 1)] wx fun e w' => e = .returned (.int .i64 (1)) ∧ Below wx.heap.size wx w')) :
    Calls Tryd.prog 8 #[.int .i64 n, .int .i64 v] w fun e w' => e = .returned (.bool true) ∧ Below w.heap.size w w' := by
  have C1 := Lib.hid (fun wx => at_any n wx)
  have t0 := decide_eq_false h1
  have t1 := decide_eq_false h2
  have t2 := decide_eq_false h3
  have t3 := decide_eq_false h4
  have f1 : (l == h) = true := beq_iff_eq.2 e
  have f2 := decide_eq_true (show l > v by omega)
  have f3 : (l == v) = false := by exact beq_eq_false_iff_ne.2 (by omega)
  clear k e
  have HB := Lib.hid (Below.refl w.heap.size w)
  go_enter Tryd.func8, Tryd.ntmps8
  go_wp2_with fail
  refine (C0.out _ HB.out).mono ?_
  rintro e w1 ⟨rfl, hb⟩
  have HB := Lib.hid (bstep HB.out hb)
  clear hb
  go_wp2_with fail
  refine (C1.out _).mono ?_
  rintro e w2 ⟨rfl, hb⟩
  have HB := Lib.hid (bstep HB.out hb)
  clear hb
  go_wp2_with fail
  refine (C2.out _ HB.out).mono ?_
  rintro e w3 ⟨rfl, hb⟩
  have X := At2.new w3 (.int .i64 (l)) (.int .i64 (h)) 25
  have HB := Lib.hid (bstep (bstep HB.out hb) (below1 w3 (.cells #[.int .i64 (l), .int .i64 (h)] 25)))
  clear hb
  obtain ⟨X0, X1, -, -, -⟩ := id X
  go_wp2_with fail
  refine (C3.out _ HB.out).mono ?_
  rintro e w4 ⟨rfl, hb⟩
  have X := X.keep hb
  have HB := Lib.hid (bstep HB.out hb)
  clear hb
  clear X0 X1
  obtain ⟨X0, X1, -, -, -⟩ := id X
  go_wp2_with fail
  refine (C4.out _ HB.out).mono ?_
  rintro e w5 ⟨rfl, hb⟩
  have X := X.keep hb
  have HB := Lib.hid (bstep HB.out hb)
  clear hb
  clear X0 X1
  obtain ⟨X0, X1, -, -, -⟩ := id X
  go_wp2_with fail
  go_ret
  exact ⟨ret_bool (by first | rfl | simp), HB.out⟩

set_option maxHeartbeats 1000000 in
theorem order_e1_0 (w : World) (n v l h : Int) (h1 : ¬ n < -274877906944) (h2 : ¬ n > 274877906944) (h3 : ¬ v < -1099511627776) (h4 : ¬ v > 1099511627776) (k : v < l) (e : l = h)
    (C0 : Hid (∀ wx, Below w.heap.size w wx → Calls Tryd.prog 12 #[] wx fun e w' => e = .returned (.bool true) ∧ Below wx.heap.size wx w'))
    (C2 : Hid (∀ wx, Below w.heap.size w wx → Calls Tryd.prog 13 #[.agg #[.int .i64 n, .int .i64 n]] wx fun e w' => e = .returned (.tuple #[.agg #[.int .i64 l, .int .i64 h], .int .i64 0]) ∧ Below wx.heap.size wx w'))
    (C3 : Hid (∀ wx, Below w.heap.size w wx → Calls Tryd.prog 20 #[.int .i64 n, .int .i64 v] wx fun e w' => e = .returned (.int .i64 (1)) ∧ Below wx.heap.size wx w'))
    (C4 : Hid (∀ wx, Below w.heap.size w wx → Calls Tryd.prog 20 #[.int .i64 n, .int .i64 (v + 1)] wx fun e w' => e = .returned (.int .i64 (0)) ∧ Below wx.heap.size wx w')) :
    Calls Tryd.prog 8 #[.int .i64 n, .int .i64 v] w fun e w' => e = .returned (.bool true) ∧ Below w.heap.size w w' := by
  have C1 := Lib.hid (fun wx => at_any n wx)
  have t0 := decide_eq_false h1
  have t1 := decide_eq_false h2
  have t2 := decide_eq_false h3
  have t3 := decide_eq_false h4
  have f1 : (l == h) = true := beq_iff_eq.2 e
  have f2 := decide_eq_true (show l > v by omega)
  have f3 : (l == v) = false := by exact beq_eq_false_iff_ne.2 (by omega)
  clear k e
  have HB := Lib.hid (Below.refl w.heap.size w)
  go_enter Tryd.func8, Tryd.ntmps8
  go_wp2_with fail
  refine (C0.out _ HB.out).mono ?_
  rintro e w1 ⟨rfl, hb⟩
  have HB := Lib.hid (bstep HB.out hb)
  clear hb
  go_wp2_with fail
  refine (C1.out _).mono ?_
  rintro e w2 ⟨rfl, hb⟩
  have HB := Lib.hid (bstep HB.out hb)
  clear hb
  go_wp2_with fail
  refine (C2.out _ HB.out).mono ?_
  rintro e w3 ⟨rfl, hb⟩
  have X := At2.new w3 (.int .i64 (l)) (.int .i64 (h)) 25
  have HB := Lib.hid (bstep (bstep HB.out hb) (below1 w3 (.cells #[.int .i64 (l), .int .i64 (h)] 25)))
  clear hb
  obtain ⟨X0, X1, -, -, -⟩ := id X
  go_wp2_with fail
  refine (C3.out _ HB.out).mono ?_
  rintro e w4 ⟨rfl, hb⟩
  have X := X.keep hb
  have HB := Lib.hid (bstep HB.out hb)
  clear hb
  clear X0 X1
  obtain ⟨X0, X1, -, -, -⟩ := id X
  go_wp2_with fail
  refine (C4.out _ HB.out).mono ?_
  rintro e w5 ⟨rfl, hb⟩
  have X := X.keep hb
  have HB := Lib.hid (bstep HB.out hb)
  clear hb
  clear X0 X1
  obtain ⟨X0, X1, -, -, -⟩ := id X
  go_wp2_with fail
  go_ret
  exact ⟨ret_bool (by first | rfl | simp), HB.out⟩

set_option maxHeartbeats 1000000 in
theorem order_e1_m1 (w : World) (n v l h : Int) (h1 : ¬ n < -274877906944) (h2 : ¬ n > 274877906944) (h3 : ¬ v < -1099511627776) (h4 : ¬ v > 1099511627776) (k : v < l) (e : l = h)
    (C0 : Hid (∀ wx, Below w.heap.size w wx → Calls Tryd.prog 12 #[] wx fun e w' => e = .returned (.bool true) ∧ Below wx.heap.size wx w'))
    (C2 : Hid (∀ wx, Below w.heap.size w wx → Calls Tryd.prog 13 #[.agg #[.int .i64 n, .int .i64 n]] wx fun e w' => e = .returned (.tuple #[.agg #[.int .i64 l, .int .i64 h], .int .i64 0]) ∧ Below wx.heap.size wx w'))
    (C3 : Hid (∀ wx, Below w.heap.size w wx → Calls Tryd.prog 20 #[.int .i64 n, .int .i64 v] wx fun e w' => e = .returned (.int .i64 (1)) ∧ Below wx.heap.size wx w'))
    (C4 : Hid (∀ wx, Below w.heap.size w wx → Calls Tryd.prog 20 #[.int .i64 n, .int .i64 (v + 1)] wx fun e w' => e = .returned (.int .i64 (-1)) ∧ Below wx.heap.size wx w')) :
    Calls Tryd.prog 8 #[.int .i64 n, .int .i64 v] w fun e w' => e = .returned (.bool true) ∧ Below w.heap.size w w' := by
  have C1 := Lib.hid (fun wx => at_any n wx)
  have t0 := decide_eq_false h1
  have t1 := decide_eq_false h2
  have t2 := decide_eq_false h3
  have t3 := decide_eq_false h4
  have f1 : (l == h) = true := beq_iff_eq.2 e
  have f2 := decide_eq_true (show l > v by omega)
  have f3 : (l == v) = false := by exact beq_eq_false_iff_ne.2 (by omega)
  clear k e
  have HB := Lib.hid (Below.refl w.heap.size w)
  go_enter Tryd.func8, Tryd.ntmps8
  go_wp2_with fail
  refine (C0.out _ HB.out).mono ?_
  rintro e w1 ⟨rfl, hb⟩
  have HB := Lib.hid (bstep HB.out hb)
  clear hb
  go_wp2_with fail
  refine (C1.out _).mono ?_
  rintro e w2 ⟨rfl, hb⟩
  have HB := Lib.hid (bstep HB.out hb)
  clear hb
  go_wp2_with fail
  refine (C2.out _ HB.out).mono ?_
  rintro e w3 ⟨rfl, hb⟩
  have X := At2.new w3 (.int .i64 (l)) (.int .i64 (h)) 25
  have HB := Lib.hid (bstep (bstep HB.out hb) (below1 w3 (.cells #[.int .i64 (l), .int .i64 (h)] 25)))
  clear hb
  obtain ⟨X0, X1, -, -, -⟩ := id X
  go_wp2_with fail
  refine (C3.out _ HB.out).mono ?_
  rintro e w4 ⟨rfl, hb⟩
  have X := X.keep hb
  have HB := Lib.hid (bstep HB.out hb)
  clear hb
  clear X0 X1
  obtain ⟨X0, X1, -, -, -⟩ := id X
  go_wp2_with fail
  refine (C4.out _ HB.out).mono ?_
  rintro e w5 ⟨rfl, hb⟩
  have X := X.keep hb
  have HB := Lib.hid (bstep HB.out hb)
  clear hb
  clear X0 X1
  obtain ⟨X0, X1, -, -, -⟩ := id X
  go_wp2_with fail
  go_ret
  exact ⟨ret_bool (by first | rfl | simp), HB.out⟩

set_option maxHeartbeats 1000000 in
theorem order_e0_m1 (w : World) (n v l h : Int) (h1 : ¬ n < -274877906944) (h2 : ¬ n > 274877906944) (h3 : ¬ v < -1099511627776) (h4 : ¬ v > 1099511627776) (k : l = v) (e : l = h)
    (C0 : Hid (∀ wx, Below w.heap.size w wx → Calls Tryd.prog 12 #[] wx fun e w' => e = .returned (.bool true) ∧ Below wx.heap.size wx w'))
    (C2 : Hid (∀ wx, Below w.heap.size w wx → Calls Tryd.prog 13 #[.agg #[.int .i64 n, .int .i64 n]] wx fun e w' => e = .returned (.tuple #[.agg #[.int .i64 l, .int .i64 h], .int .i64 0]) ∧ Below wx.heap.size wx w'))
    (C3 : Hid (∀ wx, Below w.heap.size w wx → Calls Tryd.prog 20 #[.int .i64 n, .int .i64 v] wx fun e w' => e = .returned (.int .i64 (0)) ∧ Below wx.heap.size wx w'))
    (C4 : Hid (∀ wx, Below w.heap.size w wx → Calls Tryd.prog 20 #[.int .i64 n, .int .i64 (v + 1)] wx fun e w' => e = .returned (.int .i64 (-1)) ∧ Below wx.heap.size wx w')) :
    Calls Tryd.prog 8 #[.int .i64 n, .int .i64 v] w fun e w' => e = .returned (.bool true) ∧ Below w.heap.size w w' := by
  have C1 := Lib.hid (fun wx => at_any n wx)
  have t0 := decide_eq_false h1
  have t1 := decide_eq_false h2
  have t2 := decide_eq_false h3
  have t3 := decide_eq_false h4
  have f1 : (l == h) = true := beq_iff_eq.2 e
  have f2 := decide_eq_false (show ¬ l > v by omega)
  have f3 : (l == v) = true := by exact beq_iff_eq.2 (by omega)
  clear k e
  have HB := Lib.hid (Below.refl w.heap.size w)
  go_enter Tryd.func8, Tryd.ntmps8
  go_wp2_with fail
  refine (C0.out _ HB.out).mono ?_
  rintro e w1 ⟨rfl, hb⟩
  have HB := Lib.hid (bstep HB.out hb)
  clear hb
  go_wp2_with fail
  refine (C1.out _).mono ?_
  rintro e w2 ⟨rfl, hb⟩
  have HB := Lib.hid (bstep HB.out hb)
  clear hb
  go_wp2_with fail
  refine (C2.out _ HB.out).mono ?_
  rintro e w3 ⟨rfl, hb⟩
  have X := At2.new w3 (.int .i64 (l)) (.int .i64 (h)) 25
  have HB := Lib.hid (bstep (bstep HB.out hb) (below1 w3 (.cells #[.int .i64 (l), .int .i64 (h)] 25)))
  clear hb
  obtain ⟨X0, X1, -, -, -⟩ := id X
  go_wp2_with fail
  refine (C3.out _ HB.out).mono ?_
  rintro e w4 ⟨rfl, hb⟩
  have X := X.keep hb
  have HB := Lib.hid (bstep HB.out hb)
  clear hb
  clear X0 X1
  obtain ⟨X0, X1, -, -, -⟩ := id X
  go_wp2_with fail
  refine (C4.out _ HB.out).mono ?_
  rintro e w5 ⟨rfl, hb⟩
  have X := X.keep hb
  have HB := Lib.hid (bstep HB.out hb)
  clear hb
  clear X0 X1
  obtain ⟨X0, X1, -, -, -⟩ := id X
  go_wp2_with fail
  go_ret
  exact ⟨ret_bool (by first | rfl | simp), HB.out⟩

set_option maxHeartbeats 1000000 in
theorem order_em1_m1 (w : World) (n v l h : Int) (h1 : ¬ n < -274877906944) (h2 : ¬ n > 274877906944) (h3 : ¬ v < -1099511627776) (h4 : ¬ v > 1099511627776) (k : l < v) (e : l = h)
    (C0 : Hid (∀ wx, Below w.heap.size w wx → Calls Tryd.prog 12 #[] wx fun e w' => e = .returned (.bool true) ∧ Below wx.heap.size wx w'))
    (C2 : Hid (∀ wx, Below w.heap.size w wx → Calls Tryd.prog 13 #[.agg #[.int .i64 n, .int .i64 n]] wx fun e w' => e = .returned (.tuple #[.agg #[.int .i64 l, .int .i64 h], .int .i64 0]) ∧ Below wx.heap.size wx w'))
    (C3 : Hid (∀ wx, Below w.heap.size w wx → Calls Tryd.prog 20 #[.int .i64 n, .int .i64 v] wx fun e w' => e = .returned (.int .i64 (-1)) ∧ Below wx.heap.size wx w'))
    (C4 : Hid (∀ wx, Below w.heap.size w wx → Calls Tryd.prog 20 #[.int .i64 n, .int .i64 (v + 1)] wx fun e w' => e = .returned (.int .i64 (-1)) ∧ Below wx.heap.size wx w')) :
    Calls Tryd.prog 8 #[.int .i64 n, .int .i64 v] w fun e w' => e = .returned (.bool true) ∧ Below w.heap.size w w' := by
  have C1 := Lib.hid (fun wx => at_any n wx)
  have t0 := decide_eq_false h1
  have t1 := decide_eq_false h2
  have t2 := decide_eq_false h3
  have t3 := decide_eq_false h4
  have f1 : (l == h) = true := beq_iff_eq.2 e
  have f2 := decide_eq_false (show ¬ l > v by omega)
  have f3 : (l == v) = false := by exact beq_eq_false_iff_ne.2 (by omega)
  clear k e
  have HB := Lib.hid (Below.refl w.heap.size w)
  go_enter Tryd.func8, Tryd.ntmps8
  go_wp2_with fail
  refine (C0.out _ HB.out).mono ?_
  rintro e w1 ⟨rfl, hb⟩
  have HB := Lib.hid (bstep HB.out hb)
  clear hb
  go_wp2_with fail
  refine (C1.out _).mono ?_
  rintro e w2 ⟨rfl, hb⟩
  have HB := Lib.hid (bstep HB.out hb)
  clear hb
  go_wp2_with fail
  refine (C2.out _ HB.out).mono ?_
  rintro e w3 ⟨rfl, hb⟩
  have X := At2.new w3 (.int .i64 (l)) (.int .i64 (h)) 25
  have HB := Lib.hid (bstep (bstep HB.out hb) (below1 w3 (.cells #[.int .i64 (l), .int .i64 (h)] 25)))
  clear hb
  obtain ⟨X0, X1, -, -, -⟩ := id X
  go_wp2_with fail
  refine (C3.out _ HB.out).mono ?_
  rintro e w4 ⟨rfl, hb⟩
  have X := X.keep hb
  have HB := Lib.hid (bstep HB.out hb)
  clear hb
  clear X0 X1
  obtain ⟨X0, X1, -, -, -⟩ := id X
  go_wp2_with fail
  refine (C4.out _ HB.out).mono ?_
  rintro e w5 ⟨rfl, hb⟩
  have X := X.keep hb
  have HB := Lib.hid (bstep HB.out hb)
  clear hb
  clear X0 X1
  obtain ⟨X0, X1, -, -, -⟩ := id X
  go_wp2_with fail
  go_ret
  exact ⟨ret_bool (by first | rfl | simp), HB.out⟩

set_option maxHeartbeats 1000000 in
theorem order_w1_1 (w : World) (n v l h : Int) (h1 : ¬ n < -274877906944) (h2 : ¬ n > 274877906944) (h3 : ¬ v < -1099511627776) (h4 : ¬ v > 1099511627776) (k : v ≤ l) (e : l ≠ h)
    (C0 : Hid (∀ wx, Below w.heap.size w wx → Calls Tryd.prog 12 #[] wx fun e w' => e = .returned (.bool true) ∧ Below wx.heap.size wx w'))
    (C2 : Hid (∀ wx, Below w.heap.size w wx → Calls Tryd.prog 13 #[.agg #[.int .i64 n, .int .i64 n]] wx fun e w' => e = .returned (.tuple #[.agg #[.int .i64 l, .int .i64 h], .int .i64 0]) ∧ Below wx.heap.size wx w'))
    (C3 : Hid (∀ wx, Below w.heap.size w wx → Calls Tryd.prog 20 #[.int .i64 n, .int .i64 v] wx fun e w' => e = .returned (.int .i64 (1)) ∧ Below wx.heap.size wx w'))
    (C4 : Hid (∀ wx, Below w.heap.size w wx → Calls Tryd.prog 20 #[.int .i64 n, .int .i64 (v + 1)] wx fun e w' => e = .returned (.int .i64 (1)) ∧ Below wx.heap.size wx w')) :
    Calls Tryd.prog 8 #[.int .i64 n, .int .i64 v] w fun e w' => e = .returned (.bool true) ∧ Below w.heap.size w w' := by
  have C1 := Lib.hid (fun wx => at_any n wx)
  have t0 := decide_eq_false h1
  have t1 := decide_eq_false h2
  have t2 := decide_eq_false h3
  have t3 := decide_eq_false h4
  have f1 : (l == h) = false := beq_eq_false_iff_ne.2 e
  have f2 := decide_eq_true (show l ≥ v by omega)
  clear k e
  have HB := Lib.hid (Below.refl w.heap.size w)
  go_enter Tryd.func8, Tryd.ntmps8
  go_wp2_with fail
  refine (C0.out _ HB.out).mono ?_
  rintro e w1 ⟨rfl, hb⟩
  have HB := Lib.hid (bstep HB.out hb)
  clear hb
  go_wp2_with fail
  refine (C1.out _).mono ?_
  rintro e w2 ⟨rfl, hb⟩
  have HB := Lib.hid (bstep HB.out hb)
  clear hb
  go_wp2_with fail
  refine (C2.out _ HB.out).mono ?_
  rintro e w3 ⟨rfl, hb⟩
  have X := At2.new w3 (.int .i64 (l)) (.int .i64 (h)) 25
  have HB := Lib.hid (bstep (bstep HB.out hb) (below1 w3 (.cells #[.int .i64 (l), .int .i64 (h)] 25)))
  clear hb
  obtain ⟨X0, X1, -, -, -⟩ := id X
  go_wp2_with fail
  refine (C3.out _ HB.out).mono ?_
  rintro e w4 ⟨rfl, hb⟩
  have X := X.keep hb
  have HB := Lib.hid (bstep HB.out hb)
  clear hb
  clear X0 X1
  obtain ⟨X0, X1, -, -, -⟩ := id X
  go_wp2_with fail
  refine (C4.out _ HB.out).mono ?_
  rintro e w5 ⟨rfl, hb⟩
  have X := X.keep hb
  have HB := Lib.hid (bstep HB.out hb)
  clear hb
  clear X0 X1
  obtain ⟨X0, X1, -, -, -⟩ := id X
  go_wp2_with fail
  go_ret
  exact ⟨ret_bool (by first | rfl | simp), HB.out⟩

set_option maxHeartbeats 1000000 in
theorem order_w1_m1 (w : World) (n v l h : Int) (h1 : ¬ n < -274877906944) (h2 : ¬ n > 274877906944) (h3 : ¬ v < -1099511627776) (h4 : ¬ v > 1099511627776) (k : v ≤ l) (e : l ≠ h)
    (C0 : Hid (∀ wx, Below w.heap.size w wx → Calls Tryd.prog 12 #[] wx fun e w' => e = .returned (.bool true) ∧ Below wx.heap.size wx w'))
    (C2 : Hid (∀ wx, Below w.heap.size w wx → Calls Tryd.prog 13 #[.agg #[.int .i64 n, .int .i64 n]] wx fun e w' => e = .returned (.tuple #[.agg #[.int .i64 l, .int .i64 h], .int .i64 0]) ∧ Below wx.heap.size wx w'))
    (C3 : Hid (∀ wx, Below w.heap.size w wx → Calls Tryd.prog 20 #[.int .i64 n, .int .i64 v] wx fun e w' => e = .returned (.int .i64 (1)) ∧ Below wx.heap.size wx w'))
    (C4 : Hid (∀ wx, Below w.heap.size w wx → Calls Tryd.prog 20 #[.int .i64 n, .int .i64 (v + 1)] wx fun e w' => e = .returned (.int .i64 (-1)) ∧ Below wx.heap.size wx w')) :
    Calls Tryd.prog 8 #[.int .i64 n, .int .i64 v] w fun e w' => e = .returned (.bool true) ∧ Below w.heap.size w w' := by
  have C1 := Lib.hid (fun wx => at_any n wx)
  have t0 := decide_eq_false h1
  have t1 := decide_eq_false h2
  have t2 := decide_eq_false h3
  have t3 := decide_eq_false h4
  have f1 : (l == h) = false := beq_eq_false_iff_ne.2 e
  have f2 := decide_eq_true (show l ≥ v by omega)
  clear k e
  have HB := Lib.hid (Below.refl w.heap.size w)
  go_enter Tryd.func8, Tryd.ntmps8
  go_wp2_with fail
  refine (C0.out _ HB.out).mono ?_
  rintro e w1 ⟨rfl, hb⟩
  have HB := Lib.hid (bstep HB.out hb)
  clear hb
  go_wp2_with fail
  refine (C1.out _).mono ?_
  rintro e w2 ⟨rfl, hb⟩
  have HB := Lib.hid (bstep HB.out hb)
  clear hb
  go_wp2_with fail
  refine (C2.out _ HB.out).mono ?_
  rintro e w3 ⟨rfl, hb⟩
  have X := At2.new w3 (.int .i64 (l)) (.int .i64 (h)) 25
  have HB := Lib.hid (bstep (bstep HB.out hb) (below1 w3 (.cells #[.int .i64 (l), .int .i64 (h)] 25)))
  clear hb
  obtain ⟨X0, X1, -, -, -⟩ := id X
  go_wp2_with fail
  refine (C3.out _ HB.out).mono ?_
  rintro e w4 ⟨rfl, hb⟩
  have X := X.keep hb
  have HB := Lib.hid (bstep HB.out hb)
  clear hb
  clear X0 X1
  obtain ⟨X0, X1, -, -, -⟩ := id X
  go_wp2_with fail
  refine (C4.out _ HB.out).mono ?_
  rintro e w5 ⟨rfl, hb⟩
  have X := X.keep hb
  have HB := Lib.hid (bstep HB.out hb)
  clear hb
  clear X0 X1
  obtain ⟨X0, X1, -, -, -⟩ := id X
  go_wp2_with fail
  go_ret
  exact ⟨ret_bool (by first | rfl | simp), HB.out⟩

set_option maxHeartbeats 1000000 in
theorem order_wm1_m1 (w : World) (n v l h : Int) (h1 : ¬ n < -274877906944) (h2 : ¬ n > 274877906944) (h3 : ¬ v < -1099511627776) (h4 : ¬ v > 1099511627776) (k : l < v) (e : l ≠ h)
    (C0 : Hid (∀ wx, Below w.heap.size w wx → Calls Tryd.prog 12 #[] wx fun e w' => e = .returned (.bool true) ∧ Below wx.heap.size wx w'))
    (C2 : Hid (∀ wx, Below w.heap.size w wx → Calls Tryd.prog 13 #[.agg #[.int .i64 n, .int .i64 n]] wx fun e w' => e = .returned (.tuple #[.agg #[.int .i64 l, .int .i64 h], .int .i64 0]) ∧ Below wx.heap.size wx w'))
    (C3 : Hid (∀ wx, Below w.heap.size w wx → Calls Tryd.prog 20 #[.int .i64 n, .int .i64 v] wx fun e w' => e = .returned (.int .i64 (-1)) ∧ Below wx.heap.size wx w'))
    (C4 : Hid (∀ wx, Below w.heap.size w wx → Calls Tryd.prog 20 #[.int .i64 n, .int .i64 (v + 1)] wx fun e w' => e = .returned (.int .i64 (-1)) ∧ Below wx.heap.size wx w')) :
    Calls Tryd.prog 8 #[.int .i64 n, .int .i64 v] w fun e w' => e = .returned (.bool true) ∧ Below w.heap.size w w' := by
  have C1 := Lib.hid (fun wx => at_any n wx)
  have t0 := decide_eq_false h1
  have t1 := decide_eq_false h2
  have t2 := decide_eq_false h3
  have t3 := decide_eq_false h4
  have f1 : (l == h) = false := beq_eq_false_iff_ne.2 e
  have f2 := decide_eq_false (show ¬ l ≥ v by omega)
  clear k e
  have HB := Lib.hid (Below.refl w.heap.size w)
  go_enter Tryd.func8, Tryd.ntmps8
  go_wp2_with fail
  refine (C0.out _ HB.out).mono ?_
  rintro e w1 ⟨rfl, hb⟩
  have HB := Lib.hid (bstep HB.out hb)
  clear hb
  go_wp2_with fail
  refine (C1.out _).mono ?_
  rintro e w2 ⟨rfl, hb⟩
  have HB := Lib.hid (bstep HB.out hb)
  clear hb
  go_wp2_with fail
  refine (C2.out _ HB.out).mono ?_
  rintro e w3 ⟨rfl, hb⟩
  have X := At2.new w3 (.int .i64 (l)) (.int .i64 (h)) 25
  have HB := Lib.hid (bstep (bstep HB.out hb) (below1 w3 (.cells #[.int .i64 (l), .int .i64 (h)] 25)))
  clear hb
  obtain ⟨X0, X1, -, -, -⟩ := id X
  go_wp2_with fail
  refine (C3.out _ HB.out).mono ?_
  rintro e w4 ⟨rfl, hb⟩
  have X := X.keep hb
  have HB := Lib.hid (bstep HB.out hb)
  clear hb
  clear X0 X1
  obtain ⟨X0, X1, -, -, -⟩ := id X
  go_wp2_with fail
  refine (C4.out _ HB.out).mono ?_
  rintro e w5 ⟨rfl, hb⟩
  have X := X.keep hb
  have HB := Lib.hid (bstep HB.out hb)
  clear hb
  clear X0 X1
  obtain ⟨X0, X1, -, -, -⟩ := id X
  go_wp2_with fail
  go_ret
  exact ⟨ret_bool (by first | rfl | simp), HB.out⟩

theorem order_walk (w : World) (P : TrProg w) (n v : Int) (hn : I64 n) (hv : I64 v) :
    Calls Tryd.prog 8 #[.int .i64 n, .int .i64 v] w fun e w' => e = .returned (.bool true) ∧ Below w.heap.size w w' := by
  by_cases h1 : n < -274877906944
  · exact order_o0 w P n v h1
  by_cases h2 : n > 274877906944
  · exact order_o1 w P n v h1 h2
  by_cases h3 : v < -1099511627776
  · exact order_o2 w P n v h1 h2 h3
  by_cases h4 : v > 1099511627776
  · exact order_o3 w P n v h1 h2 h3 h4
  have C0 := Lib.hid (fun wx (hb : Below w.heap.size w wx) => awake_any w P wx hb)
  have C2 := Lib.hid (fun wx (hb : Below w.heap.size w wx) => sin_one w P n (by omega) (by omega) wx hb)
  have C3 := Lib.hid (fun wx (hb : Below w.heap.size w wx) => P.below n v wx hb hn hv)
  have C4 := Lib.hid (fun wx (hb : Below w.heap.size w wx) => P.below n (v + 1) wx hb hn ⟨by omega, by omega⟩)
  obtain ⟨b1, b2, b3, b4⟩ := blN_facts n v
  obtain ⟨c1, c2, c3, c4⟩ := blN_facts n (v + 1)
  cases hx : L6.ex n
  · obtain ⟨x1, x2⟩ := blN_wide n v hx
    obtain ⟨y1, y2⟩ := blN_wide n (v + 1) hx
    have hl : L6.lo n = L6.fl n := rfl
    have hh : L6.hi n = L6.fl n + 1 := by unfold L6.hi; rw [hx]; rfl
    rw [hl, hh] at C2
    obtain ⟨b, hb⟩ : ∃ b, blN n v = b := ⟨_, rfl⟩
    obtain ⟨c, hc⟩ : ∃ c, blN n (v + 1) = c := ⟨_, rfl⟩
    rw [hb] at b1 b2 b3 b4 x1 x2 C3
    rw [hc] at b1 b2 c1 c2 c3 c4 y1 y2 C4
    have hb3 : b = 1 ∨ b = -1 := by omega
    have hc3 : c = 1 ∨ c = -1 := by omega
    rcases hb3 with rfl | rfl <;> rcases hc3 with rfl | rfl
    · exact order_w1_1 w n v _ _ h1 h2 h3 h4 (by omega) (by omega) C0 C2 C3 C4
    · exact order_w1_m1 w n v _ _ h1 h2 h3 h4 (by omega) (by omega) C0 C2 C3 C4
    · omega
    · exact order_wm1_m1 w n v _ _ h1 h2 h3 h4 (by omega) (by omega) C0 C2 C3 C4
  · obtain ⟨x1, x2⟩ := blN_exact n v hx
    have hl : L6.lo n = L6.fl n := rfl
    have hh : L6.hi n = L6.fl n := by unfold L6.hi; rw [hx]; rfl
    rw [hl, hh] at C2
    obtain ⟨b, hb⟩ : ∃ b, blN n v = b := ⟨_, rfl⟩
    obtain ⟨c, hc⟩ : ∃ c, blN n (v + 1) = c := ⟨_, rfl⟩
    rw [hb] at b1 b2 b3 b4 x1 x2 C3
    rw [hc] at b1 b2 c1 c2 c3 c4 C4
    have hb3 : b = 1 ∨ b = 0 ∨ b = -1 := by omega
    have hc3 : c = 1 ∨ c = 0 ∨ c = -1 := by omega
    rcases hb3 with rfl | rfl | rfl <;> rcases hc3 with rfl | rfl | rfl
    · exact order_e1_1 w n v _ _ h1 h2 h3 h4 (by omega) (by omega) C0 C2 C3 C4
    · exact order_e1_0 w n v _ _ h1 h2 h3 h4 (by omega) (by omega) C0 C2 C3 C4
    · exact order_e1_m1 w n v _ _ h1 h2 h3 h4 (by omega) (by omega) C0 C2 C3 C4
    · omega
    · omega
    · exact order_e0_m1 w n v _ _ h1 h2 h3 h4 (by omega) (by omega) C0 C2 C3 C4
    · omega
    · omega
    · exact order_em1_m1 w n v _ _ h1 h2 h3 h4 (by omega) (by omega) C0 C2 C3 C4
end Go.Proofs.YtglmkpnnbgkndaaDoor
