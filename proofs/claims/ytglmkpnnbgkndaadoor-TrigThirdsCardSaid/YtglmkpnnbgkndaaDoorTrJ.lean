/- TrigThirds: the walk of the law. -/
import Derived.Test.YtglmkpnnbgkndaaDoorTrI
namespace Go.Proofs.YtglmkpnnbgkndaaDoor
open Go.RowKit
set_option linter.unusedVariables false
set_option maxRecDepth 100000

theorem third_0 : L6.ex (1800000 * 0) = true ∧ L6.fl (1800000 * 0) = 0 := by decide +kernel
theorem third_1 : L6.ex (1800000 * 1) = true ∧ L6.fl (1800000 * 1) = 536870912 := by decide +kernel
theorem third_2 : L6.ex (1800000 * 2) = false := by decide +kernel
theorem third_3 : L6.ex (1800000 * 3) = true ∧ L6.fl (1800000 * 3) = 1073741824 := by decide +kernel
theorem third_4 : L6.ex (1800000 * 4) = false := by decide +kernel
theorem third_5 : L6.ex (1800000 * 5) = true ∧ L6.fl (1800000 * 5) = 536870912 := by decide +kernel
theorem third_6 : L6.ex (1800000 * 6) = true ∧ L6.fl (1800000 * 6) = 0 := by decide +kernel
theorem third_7 : L6.ex (1800000 * 7) = true ∧ L6.fl (1800000 * 7) = -536870912 := by decide +kernel
theorem third_8 : L6.ex (1800000 * 8) = false := by decide +kernel
theorem third_9 : L6.ex (1800000 * 9) = true ∧ L6.fl (1800000 * 9) = -1073741824 := by decide +kernel
theorem third_10 : L6.ex (1800000 * 10) = false := by decide +kernel
theorem third_11 : L6.ex (1800000 * 11) = true ∧ L6.fl (1800000 * 11) = -536870912 := by decide +kernel

set_option maxHeartbeats 2000000 in
theorem thirds_0 (w : World) (k x n r r2 l h : Int) (k1 : -32768 ≤ k) (k2 : k ≤ 32767) (hx : k * 5400000 = x) (hn : x.tdiv 3 = n) (hr : k.tmod 12 = r) (hr2 : r + 12 = r2) (hm : r2.tmod 12 = 0) (n1 : -100000000000 ≤ n) (n2 : n ≤ 100000000000) (r1 : -12 ≤ r) (r3 : r ≤ 12) 
    (C0 : Hid (∀ wx, Below w.heap.size w wx → Calls Tryd.prog 12 #[] wx fun e w' => e = .returned (.bool true) ∧ Below wx.heap.size wx w'))
    (C2 : Hid (∀ wx, Below w.heap.size w wx → Calls Tryd.prog 13 #[.agg #[.int .i64 n, .int .i64 n]] wx fun e w' => e = .returned (.tuple #[.agg #[.int .i64 (0), .int .i64 (0)], .int .i64 0]) ∧ Below wx.heap.size wx w'))
    (C3 : Hid (∀ wx, Below w.heap.size w wx → Calls Tryd.prog 20 #[.int .i64 n, .int .i64 (0)] wx fun e w' => e = .returned (.int .i64 0) ∧ Below wx.heap.size wx w'))
     :
    Calls Tryd.prog 11 #[.int .i16 k] w fun e w' => e = .returned (.bool true) ∧ Below w.heap.size w w' := by
  have C1 := Lib.hid (fun wx => at_any n wx)
  have x1 : -9223372036854775808 ≤ x := by omega
  have x2 : x ≤ 9223372036854775807 := by omega
  have r4 : -9223372036854775808 ≤ r2 := by omega
  have r5 : r2 ≤ 9223372036854775807 := by omega
  have HB := Lib.hid (Below.refl w.heap.size w)
  go_enter Tryd.func11, Tryd.ntmps11
  go_wp2_with fail
  refine (C0.out _ HB.out).mono ?_
  rintro e w1 ⟨rfl, hb⟩
  have HB := Lib.hid (bstep HB.out hb)
  clear hb
  go_wp2_with fail
  refine (C1.out _).mono ?_
  rintro e w2 ⟨rfl, hb⟩
  have HB := Lib.hid (bstep HB.out hb)
  clear hb
  go_wp2_with fail
  refine (C2.out _ HB.out).mono ?_
  rintro e w3 ⟨rfl, hb⟩
  have X := At2.new w3 (.int .i64 ((0))) (.int .i64 ((0))) 25
  have HB := Lib.hid (bstep (bstep HB.out hb) (below1 w3 (.cells #[.int .i64 ((0)), .int .i64 ((0))] 25)))
  clear hb
  obtain ⟨X0, X1, -, -, -⟩ := id X
  go_wp2_with fail
  refine (C3.out _ (bstep HB.out (below1 _ _))).mono ?_
  rintro e w4 ⟨rfl, hb⟩
  have X := (X.alloc _).keep hb
  have HB := Lib.hid (bstep (bstep HB.out (below1 _ _)) hb)
  clear hb
  clear X0 X1
  obtain ⟨X0, X1, -, -, -⟩ := id X
  go_wp2_with fail
  go_ret
  exact ⟨ret_bool (by first | rfl | simp), HB.out⟩

set_option maxHeartbeats 2000000 in
theorem thirds_1 (w : World) (k x n r r2 l h : Int) (k1 : -32768 ≤ k) (k2 : k ≤ 32767) (hx : k * 5400000 = x) (hn : x.tdiv 3 = n) (hr : k.tmod 12 = r) (hr2 : r + 12 = r2) (hm : r2.tmod 12 = 1) (n1 : -100000000000 ≤ n) (n2 : n ≤ 100000000000) (r1 : -12 ≤ r) (r3 : r ≤ 12) 
    (C0 : Hid (∀ wx, Below w.heap.size w wx → Calls Tryd.prog 12 #[] wx fun e w' => e = .returned (.bool true) ∧ Below wx.heap.size wx w'))
    (C2 : Hid (∀ wx, Below w.heap.size w wx → Calls Tryd.prog 13 #[.agg #[.int .i64 n, .int .i64 n]] wx fun e w' => e = .returned (.tuple #[.agg #[.int .i64 (536870912), .int .i64 (536870912)], .int .i64 0]) ∧ Below wx.heap.size wx w'))
    (C3 : Hid (∀ wx, Below w.heap.size w wx → Calls Tryd.prog 20 #[.int .i64 n, .int .i64 (536870912)] wx fun e w' => e = .returned (.int .i64 0) ∧ Below wx.heap.size wx w'))
     :
    Calls Tryd.prog 11 #[.int .i16 k] w fun e w' => e = .returned (.bool true) ∧ Below w.heap.size w w' := by
  have C1 := Lib.hid (fun wx => at_any n wx)
  have x1 : -9223372036854775808 ≤ x := by omega
  have x2 : x ≤ 9223372036854775807 := by omega
  have r4 : -9223372036854775808 ≤ r2 := by omega
  have r5 : r2 ≤ 9223372036854775807 := by omega
  have HB := Lib.hid (Below.refl w.heap.size w)
  go_enter Tryd.func11, Tryd.ntmps11
  go_wp2_with fail
  refine (C0.out _ HB.out).mono ?_
  rintro e w1 ⟨rfl, hb⟩
  have HB := Lib.hid (bstep HB.out hb)
  clear hb
  go_wp2_with fail
  refine (C1.out _).mono ?_
  rintro e w2 ⟨rfl, hb⟩
  have HB := Lib.hid (bstep HB.out hb)
  clear hb
  go_wp2_with fail
  refine (C2.out _ HB.out).mono ?_
  rintro e w3 ⟨rfl, hb⟩
  have X := At2.new w3 (.int .i64 ((536870912))) (.int .i64 ((536870912))) 25
  have HB := Lib.hid (bstep (bstep HB.out hb) (below1 w3 (.cells #[.int .i64 ((536870912)), .int .i64 ((536870912))] 25)))
  clear hb
  obtain ⟨X0, X1, -, -, -⟩ := id X
  go_wp2_with fail
  refine (C3.out _ (bstep HB.out (below1 _ _))).mono ?_
  rintro e w4 ⟨rfl, hb⟩
  have X := (X.alloc _).keep hb
  have HB := Lib.hid (bstep (bstep HB.out (below1 _ _)) hb)
  clear hb
  clear X0 X1
  obtain ⟨X0, X1, -, -, -⟩ := id X
  go_wp2_with fail
  go_ret
  exact ⟨ret_bool (by first | rfl | simp), HB.out⟩

set_option maxHeartbeats 2000000 in
theorem thirds_2 (w : World) (k x n r r2 l h : Int) (k1 : -32768 ≤ k) (k2 : k ≤ 32767) (hx : k * 5400000 = x) (hn : x.tdiv 3 = n) (hr : k.tmod 12 = r) (hr2 : r + 12 = r2) (hm : r2.tmod 12 = 2) (n1 : -100000000000 ≤ n) (n2 : n ≤ 100000000000) (r1 : -12 ≤ r) (r3 : r ≤ 12) (l1 : -1073741824 ≤ l) (l2 : l ≤ 1073741824) (e : h = l + 1)
    (C0 : Hid (∀ wx, Below w.heap.size w wx → Calls Tryd.prog 12 #[] wx fun e w' => e = .returned (.bool true) ∧ Below wx.heap.size wx w'))
    (C2 : Hid (∀ wx, Below w.heap.size w wx → Calls Tryd.prog 13 #[.agg #[.int .i64 n, .int .i64 n]] wx fun e w' => e = .returned (.tuple #[.agg #[.int .i64 l, .int .i64 h], .int .i64 0]) ∧ Below wx.heap.size wx w'))
    (C3 : Hid (∀ wx, Below w.heap.size w wx → Calls Tryd.prog 20 #[.int .i64 n, .int .i64 l] wx fun e w' => e = .returned (.int .i64 1) ∧ Below wx.heap.size wx w'))
    (C4 : Hid (∀ wx, Below w.heap.size w wx → Calls Tryd.prog 20 #[.int .i64 n, .int .i64 h] wx fun e w' => e = .returned (.int .i64 (-1)) ∧ Below wx.heap.size wx w')) :
    Calls Tryd.prog 11 #[.int .i16 k] w fun e w' => e = .returned (.bool true) ∧ Below w.heap.size w w' := by
  have C1 := Lib.hid (fun wx => at_any n wx)
  have x1 : -9223372036854775808 ≤ x := by omega
  have x2 : x ≤ 9223372036854775807 := by omega
  have r4 : -9223372036854775808 ≤ r2 := by omega
  have r5 : r2 ≤ 9223372036854775807 := by omega
  have f1 : (h == l + 1) = true := beq_iff_eq.2 e
  have h1 : -9223372036854775808 ≤ h := by omega
  have h2 : h ≤ 9223372036854775807 := by omega
  have e2 : l + 1 = h := e.symm
  clear e
  have HB := Lib.hid (Below.refl w.heap.size w)
  go_enter Tryd.func11, Tryd.ntmps11
  go_wp2_with fail
  refine (C0.out _ HB.out).mono ?_
  rintro e w1 ⟨rfl, hb⟩
  have HB := Lib.hid (bstep HB.out hb)
  clear hb
  go_wp2_with fail
  refine (C1.out _).mono ?_
  rintro e w2 ⟨rfl, hb⟩
  have HB := Lib.hid (bstep HB.out hb)
  clear hb
  go_wp2_with fail
  refine (C2.out _ HB.out).mono ?_
  rintro e w3 ⟨rfl, hb⟩
  have X := At2.new w3 (.int .i64 (l)) (.int .i64 (h)) 25
  have HB := Lib.hid (bstep (bstep HB.out hb) (below1 w3 (.cells #[.int .i64 (l), .int .i64 (h)] 25)))
  clear hb
  obtain ⟨X0, X1, -, -, -⟩ := id X
  go_wp2_with fail
  refine (C3.out _ (bstep HB.out (below1 _ _))).mono ?_
  rintro e w4 ⟨rfl, hb⟩
  have X := (X.alloc _).keep hb
  have HB := Lib.hid (bstep (bstep HB.out (below1 _ _)) hb)
  clear hb
  clear X0 X1
  obtain ⟨X0, X1, -, -, -⟩ := id X
  go_wp2_with fail
  refine (C4.out _ HB.out).mono ?_
  rintro e w5 ⟨rfl, hb⟩
  have X := X.keep hb
  have HB := Lib.hid (bstep HB.out hb)
  clear hb
  clear X0 X1
  obtain ⟨X0, X1, -, -, -⟩ := id X
  go_wp2_with fail
  go_ret
  exact ⟨ret_bool (by first | rfl | simp), HB.out⟩

set_option maxHeartbeats 2000000 in
theorem thirds_3 (w : World) (k x n r r2 l h : Int) (k1 : -32768 ≤ k) (k2 : k ≤ 32767) (hx : k * 5400000 = x) (hn : x.tdiv 3 = n) (hr : k.tmod 12 = r) (hr2 : r + 12 = r2) (hm : r2.tmod 12 = 3) (n1 : -100000000000 ≤ n) (n2 : n ≤ 100000000000) (r1 : -12 ≤ r) (r3 : r ≤ 12) 
    (C0 : Hid (∀ wx, Below w.heap.size w wx → Calls Tryd.prog 12 #[] wx fun e w' => e = .returned (.bool true) ∧ Below wx.heap.size wx w'))
    (C2 : Hid (∀ wx, Below w.heap.size w wx → Calls Tryd.prog 13 #[.agg #[.int .i64 n, .int .i64 n]] wx fun e w' => e = .returned (.tuple #[.agg #[.int .i64 (1073741824), .int .i64 (1073741824)], .int .i64 0]) ∧ Below wx.heap.size wx w'))
    (C3 : Hid (∀ wx, Below w.heap.size w wx → Calls Tryd.prog 20 #[.int .i64 n, .int .i64 (1073741824)] wx fun e w' => e = .returned (.int .i64 0) ∧ Below wx.heap.size wx w'))
     :
    Calls Tryd.prog 11 #[.int .i16 k] w fun e w' => e = .returned (.bool true) ∧ Below w.heap.size w w' := by
  have C1 := Lib.hid (fun wx => at_any n wx)
  have x1 : -9223372036854775808 ≤ x := by omega
  have x2 : x ≤ 9223372036854775807 := by omega
  have r4 : -9223372036854775808 ≤ r2 := by omega
  have r5 : r2 ≤ 9223372036854775807 := by omega
  have HB := Lib.hid (Below.refl w.heap.size w)
  go_enter Tryd.func11, Tryd.ntmps11
  go_wp2_with fail
  refine (C0.out _ HB.out).mono ?_
  rintro e w1 ⟨rfl, hb⟩
  have HB := Lib.hid (bstep HB.out hb)
  clear hb
  go_wp2_with fail
  refine (C1.out _).mono ?_
  rintro e w2 ⟨rfl, hb⟩
  have HB := Lib.hid (bstep HB.out hb)
  clear hb
  go_wp2_with fail
  refine (C2.out _ HB.out).mono ?_
  rintro e w3 ⟨rfl, hb⟩
  have X := At2.new w3 (.int .i64 ((1073741824))) (.int .i64 ((1073741824))) 25
  have HB := Lib.hid (bstep (bstep HB.out hb) (below1 w3 (.cells #[.int .i64 ((1073741824)), .int .i64 ((1073741824))] 25)))
  clear hb
  obtain ⟨X0, X1, -, -, -⟩ := id X
  go_wp2_with fail
  refine (C3.out _ (bstep HB.out (below1 _ _))).mono ?_
  rintro e w4 ⟨rfl, hb⟩
  have X := (X.alloc _).keep hb
  have HB := Lib.hid (bstep (bstep HB.out (below1 _ _)) hb)
  clear hb
  clear X0 X1
  obtain ⟨X0, X1, -, -, -⟩ := id X
  go_wp2_with fail
  go_ret
  exact ⟨ret_bool (by first | rfl | simp), HB.out⟩

set_option maxHeartbeats 2000000 in
theorem thirds_4 (w : World) (k x n r r2 l h : Int) (k1 : -32768 ≤ k) (k2 : k ≤ 32767) (hx : k * 5400000 = x) (hn : x.tdiv 3 = n) (hr : k.tmod 12 = r) (hr2 : r + 12 = r2) (hm : r2.tmod 12 = 4) (n1 : -100000000000 ≤ n) (n2 : n ≤ 100000000000) (r1 : -12 ≤ r) (r3 : r ≤ 12) (l1 : -1073741824 ≤ l) (l2 : l ≤ 1073741824) (e : h = l + 1)
    (C0 : Hid (∀ wx, Below w.heap.size w wx → Calls Tryd.prog 12 #[] wx fun e w' => e = .returned (.bool true) ∧ Below wx.heap.size wx w'))
    (C2 : Hid (∀ wx, Below w.heap.size w wx → Calls Tryd.prog 13 #[.agg #[.int .i64 n, .int .i64 n]] wx fun e w' => e = .returned (.tuple #[.agg #[.int .i64 l, .int .i64 h], .int .i64 0]) ∧ Below wx.heap.size wx w'))
    (C3 : Hid (∀ wx, Below w.heap.size w wx → Calls Tryd.prog 20 #[.int .i64 n, .int .i64 l] wx fun e w' => e = .returned (.int .i64 1) ∧ Below wx.heap.size wx w'))
    (C4 : Hid (∀ wx, Below w.heap.size w wx → Calls Tryd.prog 20 #[.int .i64 n, .int .i64 h] wx fun e w' => e = .returned (.int .i64 (-1)) ∧ Below wx.heap.size wx w')) :
    Calls Tryd.prog 11 #[.int .i16 k] w fun e w' => e = .returned (.bool true) ∧ Below w.heap.size w w' := by
  have C1 := Lib.hid (fun wx => at_any n wx)
  have x1 : -9223372036854775808 ≤ x := by omega
  have x2 : x ≤ 9223372036854775807 := by omega
  have r4 : -9223372036854775808 ≤ r2 := by omega
  have r5 : r2 ≤ 9223372036854775807 := by omega
  have f1 : (h == l + 1) = true := beq_iff_eq.2 e
  have h1 : -9223372036854775808 ≤ h := by omega
  have h2 : h ≤ 9223372036854775807 := by omega
  have e2 : l + 1 = h := e.symm
  clear e
  have HB := Lib.hid (Below.refl w.heap.size w)
  go_enter Tryd.func11, Tryd.ntmps11
  go_wp2_with fail
  refine (C0.out _ HB.out).mono ?_
  rintro e w1 ⟨rfl, hb⟩
  have HB := Lib.hid (bstep HB.out hb)
  clear hb
  go_wp2_with fail
  refine (C1.out _).mono ?_
  rintro e w2 ⟨rfl, hb⟩
  have HB := Lib.hid (bstep HB.out hb)
  clear hb
  go_wp2_with fail
  refine (C2.out _ HB.out).mono ?_
  rintro e w3 ⟨rfl, hb⟩
  have X := At2.new w3 (.int .i64 (l)) (.int .i64 (h)) 25
  have HB := Lib.hid (bstep (bstep HB.out hb) (below1 w3 (.cells #[.int .i64 (l), .int .i64 (h)] 25)))
  clear hb
  obtain ⟨X0, X1, -, -, -⟩ := id X
  go_wp2_with fail
  refine (C3.out _ (bstep HB.out (below1 _ _))).mono ?_
  rintro e w4 ⟨rfl, hb⟩
  have X := (X.alloc _).keep hb
  have HB := Lib.hid (bstep (bstep HB.out (below1 _ _)) hb)
  clear hb
  clear X0 X1
  obtain ⟨X0, X1, -, -, -⟩ := id X
  go_wp2_with fail
  refine (C4.out _ HB.out).mono ?_
  rintro e w5 ⟨rfl, hb⟩
  have X := X.keep hb
  have HB := Lib.hid (bstep HB.out hb)
  clear hb
  clear X0 X1
  obtain ⟨X0, X1, -, -, -⟩ := id X
  go_wp2_with fail
  go_ret
  exact ⟨ret_bool (by first | rfl | simp), HB.out⟩

set_option maxHeartbeats 2000000 in
theorem thirds_5 (w : World) (k x n r r2 l h : Int) (k1 : -32768 ≤ k) (k2 : k ≤ 32767) (hx : k * 5400000 = x) (hn : x.tdiv 3 = n) (hr : k.tmod 12 = r) (hr2 : r + 12 = r2) (hm : r2.tmod 12 = 5) (n1 : -100000000000 ≤ n) (n2 : n ≤ 100000000000) (r1 : -12 ≤ r) (r3 : r ≤ 12) 
    (C0 : Hid (∀ wx, Below w.heap.size w wx → Calls Tryd.prog 12 #[] wx fun e w' => e = .returned (.bool true) ∧ Below wx.heap.size wx w'))
    (C2 : Hid (∀ wx, Below w.heap.size w wx → Calls Tryd.prog 13 #[.agg #[.int .i64 n, .int .i64 n]] wx fun e w' => e = .returned (.tuple #[.agg #[.int .i64 (536870912), .int .i64 (536870912)], .int .i64 0]) ∧ Below wx.heap.size wx w'))
    (C3 : Hid (∀ wx, Below w.heap.size w wx → Calls Tryd.prog 20 #[.int .i64 n, .int .i64 (536870912)] wx fun e w' => e = .returned (.int .i64 0) ∧ Below wx.heap.size wx w'))
     :
    Calls Tryd.prog 11 #[.int .i16 k] w fun e w' => e = .returned (.bool true) ∧ Below w.heap.size w w' := by
  have C1 := Lib.hid (fun wx => at_any n wx)
  have x1 : -9223372036854775808 ≤ x := by omega
  have x2 : x ≤ 9223372036854775807 := by omega
  have r4 : -9223372036854775808 ≤ r2 := by omega
  have r5 : r2 ≤ 9223372036854775807 := by omega
  have HB := Lib.hid (Below.refl w.heap.size w)
  go_enter Tryd.func11, Tryd.ntmps11
  go_wp2_with fail
  refine (C0.out _ HB.out).mono ?_
  rintro e w1 ⟨rfl, hb⟩
  have HB := Lib.hid (bstep HB.out hb)
  clear hb
  go_wp2_with fail
  refine (C1.out _).mono ?_
  rintro e w2 ⟨rfl, hb⟩
  have HB := Lib.hid (bstep HB.out hb)
  clear hb
  go_wp2_with fail
  refine (C2.out _ HB.out).mono ?_
  rintro e w3 ⟨rfl, hb⟩
  have X := At2.new w3 (.int .i64 ((536870912))) (.int .i64 ((536870912))) 25
  have HB := Lib.hid (bstep (bstep HB.out hb) (below1 w3 (.cells #[.int .i64 ((536870912)), .int .i64 ((536870912))] 25)))
  clear hb
  obtain ⟨X0, X1, -, -, -⟩ := id X
  go_wp2_with fail
  refine (C3.out _ (bstep HB.out (below1 _ _))).mono ?_
  rintro e w4 ⟨rfl, hb⟩
  have X := (X.alloc _).keep hb
  have HB := Lib.hid (bstep (bstep HB.out (below1 _ _)) hb)
  clear hb
  clear X0 X1
  obtain ⟨X0, X1, -, -, -⟩ := id X
  go_wp2_with fail
  go_ret
  exact ⟨ret_bool (by first | rfl | simp), HB.out⟩

set_option maxHeartbeats 2000000 in
theorem thirds_6 (w : World) (k x n r r2 l h : Int) (k1 : -32768 ≤ k) (k2 : k ≤ 32767) (hx : k * 5400000 = x) (hn : x.tdiv 3 = n) (hr : k.tmod 12 = r) (hr2 : r + 12 = r2) (hm : r2.tmod 12 = 6) (n1 : -100000000000 ≤ n) (n2 : n ≤ 100000000000) (r1 : -12 ≤ r) (r3 : r ≤ 12) 
    (C0 : Hid (∀ wx, Below w.heap.size w wx → Calls Tryd.prog 12 #[] wx fun e w' => e = .returned (.bool true) ∧ Below wx.heap.size wx w'))
    (C2 : Hid (∀ wx, Below w.heap.size w wx → Calls Tryd.prog 13 #[.agg #[.int .i64 n, .int .i64 n]] wx fun e w' => e = .returned (.tuple #[.agg #[.int .i64 (0), .int .i64 (0)], .int .i64 0]) ∧ Below wx.heap.size wx w'))
    (C3 : Hid (∀ wx, Below w.heap.size w wx → Calls Tryd.prog 20 #[.int .i64 n, .int .i64 (0)] wx fun e w' => e = .returned (.int .i64 0) ∧ Below wx.heap.size wx w'))
     :
    Calls Tryd.prog 11 #[.int .i16 k] w fun e w' => e = .returned (.bool true) ∧ Below w.heap.size w w' := by
  have C1 := Lib.hid (fun wx => at_any n wx)
  have x1 : -9223372036854775808 ≤ x := by omega
  have x2 : x ≤ 9223372036854775807 := by omega
  have r4 : -9223372036854775808 ≤ r2 := by omega
  have r5 : r2 ≤ 9223372036854775807 := by omega
  have HB := Lib.hid (Below.refl w.heap.size w)
  go_enter Tryd.func11, Tryd.ntmps11
  go_wp2_with fail
  refine (C0.out _ HB.out).mono ?_
  rintro e w1 ⟨rfl, hb⟩
  have HB := Lib.hid (bstep HB.out hb)
  clear hb
  go_wp2_with fail
  refine (C1.out _).mono ?_
  rintro e w2 ⟨rfl, hb⟩
  have HB := Lib.hid (bstep HB.out hb)
  clear hb
  go_wp2_with fail
  refine (C2.out _ HB.out).mono ?_
  rintro e w3 ⟨rfl, hb⟩
  have X := At2.new w3 (.int .i64 ((0))) (.int .i64 ((0))) 25
  have HB := Lib.hid (bstep (bstep HB.out hb) (below1 w3 (.cells #[.int .i64 ((0)), .int .i64 ((0))] 25)))
  clear hb
  obtain ⟨X0, X1, -, -, -⟩ := id X
  go_wp2_with fail
  refine (C3.out _ (bstep HB.out (below1 _ _))).mono ?_
  rintro e w4 ⟨rfl, hb⟩
  have X := (X.alloc _).keep hb
  have HB := Lib.hid (bstep (bstep HB.out (below1 _ _)) hb)
  clear hb
  clear X0 X1
  obtain ⟨X0, X1, -, -, -⟩ := id X
  go_wp2_with fail
  go_ret
  exact ⟨ret_bool (by first | rfl | simp), HB.out⟩

set_option maxHeartbeats 2000000 in
theorem thirds_7 (w : World) (k x n r r2 l h : Int) (k1 : -32768 ≤ k) (k2 : k ≤ 32767) (hx : k * 5400000 = x) (hn : x.tdiv 3 = n) (hr : k.tmod 12 = r) (hr2 : r + 12 = r2) (hm : r2.tmod 12 = 7) (n1 : -100000000000 ≤ n) (n2 : n ≤ 100000000000) (r1 : -12 ≤ r) (r3 : r ≤ 12) 
    (C0 : Hid (∀ wx, Below w.heap.size w wx → Calls Tryd.prog 12 #[] wx fun e w' => e = .returned (.bool true) ∧ Below wx.heap.size wx w'))
    (C2 : Hid (∀ wx, Below w.heap.size w wx → Calls Tryd.prog 13 #[.agg #[.int .i64 n, .int .i64 n]] wx fun e w' => e = .returned (.tuple #[.agg #[.int .i64 (-536870912), .int .i64 (-536870912)], .int .i64 0]) ∧ Below wx.heap.size wx w'))
    (C3 : Hid (∀ wx, Below w.heap.size w wx → Calls Tryd.prog 20 #[.int .i64 n, .int .i64 (-536870912)] wx fun e w' => e = .returned (.int .i64 0) ∧ Below wx.heap.size wx w'))
     :
    Calls Tryd.prog 11 #[.int .i16 k] w fun e w' => e = .returned (.bool true) ∧ Below w.heap.size w w' := by
  have C1 := Lib.hid (fun wx => at_any n wx)
  have x1 : -9223372036854775808 ≤ x := by omega
  have x2 : x ≤ 9223372036854775807 := by omega
  have r4 : -9223372036854775808 ≤ r2 := by omega
  have r5 : r2 ≤ 9223372036854775807 := by omega
  have HB := Lib.hid (Below.refl w.heap.size w)
  go_enter Tryd.func11, Tryd.ntmps11
  go_wp2_with fail
  refine (C0.out _ HB.out).mono ?_
  rintro e w1 ⟨rfl, hb⟩
  have HB := Lib.hid (bstep HB.out hb)
  clear hb
  go_wp2_with fail
  refine (C1.out _).mono ?_
  rintro e w2 ⟨rfl, hb⟩
  have HB := Lib.hid (bstep HB.out hb)
  clear hb
  go_wp2_with fail
  refine (C2.out _ HB.out).mono ?_
  rintro e w3 ⟨rfl, hb⟩
  have X := At2.new w3 (.int .i64 ((-536870912))) (.int .i64 ((-536870912))) 25
  have HB := Lib.hid (bstep (bstep HB.out hb) (below1 w3 (.cells #[.int .i64 ((-536870912)), .int .i64 ((-536870912))] 25)))
  clear hb
  obtain ⟨X0, X1, -, -, -⟩ := id X
  go_wp2_with fail
  refine (C3.out _ (bstep HB.out (below1 _ _))).mono ?_
  rintro e w4 ⟨rfl, hb⟩
  have X := (X.alloc _).keep hb
  have HB := Lib.hid (bstep (bstep HB.out (below1 _ _)) hb)
  clear hb
  clear X0 X1
  obtain ⟨X0, X1, -, -, -⟩ := id X
  go_wp2_with fail
  go_ret
  exact ⟨ret_bool (by first | rfl | simp), HB.out⟩

set_option maxHeartbeats 2000000 in
theorem thirds_8 (w : World) (k x n r r2 l h : Int) (k1 : -32768 ≤ k) (k2 : k ≤ 32767) (hx : k * 5400000 = x) (hn : x.tdiv 3 = n) (hr : k.tmod 12 = r) (hr2 : r + 12 = r2) (hm : r2.tmod 12 = 8) (n1 : -100000000000 ≤ n) (n2 : n ≤ 100000000000) (r1 : -12 ≤ r) (r3 : r ≤ 12) (l1 : -1073741824 ≤ l) (l2 : l ≤ 1073741824) (e : h = l + 1)
    (C0 : Hid (∀ wx, Below w.heap.size w wx → Calls Tryd.prog 12 #[] wx fun e w' => e = .returned (.bool true) ∧ Below wx.heap.size wx w'))
    (C2 : Hid (∀ wx, Below w.heap.size w wx → Calls Tryd.prog 13 #[.agg #[.int .i64 n, .int .i64 n]] wx fun e w' => e = .returned (.tuple #[.agg #[.int .i64 l, .int .i64 h], .int .i64 0]) ∧ Below wx.heap.size wx w'))
    (C3 : Hid (∀ wx, Below w.heap.size w wx → Calls Tryd.prog 20 #[.int .i64 n, .int .i64 l] wx fun e w' => e = .returned (.int .i64 1) ∧ Below wx.heap.size wx w'))
    (C4 : Hid (∀ wx, Below w.heap.size w wx → Calls Tryd.prog 20 #[.int .i64 n, .int .i64 h] wx fun e w' => e = .returned (.int .i64 (-1)) ∧ Below wx.heap.size wx w')) :
    Calls Tryd.prog 11 #[.int .i16 k] w fun e w' => e = .returned (.bool true) ∧ Below w.heap.size w w' := by
  have C1 := Lib.hid (fun wx => at_any n wx)
  have x1 : -9223372036854775808 ≤ x := by omega
  have x2 : x ≤ 9223372036854775807 := by omega
  have r4 : -9223372036854775808 ≤ r2 := by omega
  have r5 : r2 ≤ 9223372036854775807 := by omega
  have f1 : (h == l + 1) = true := beq_iff_eq.2 e
  have h1 : -9223372036854775808 ≤ h := by omega
  have h2 : h ≤ 9223372036854775807 := by omega
  have e2 : l + 1 = h := e.symm
  clear e
  have HB := Lib.hid (Below.refl w.heap.size w)
  go_enter Tryd.func11, Tryd.ntmps11
  go_wp2_with fail
  refine (C0.out _ HB.out).mono ?_
  rintro e w1 ⟨rfl, hb⟩
  have HB := Lib.hid (bstep HB.out hb)
  clear hb
  go_wp2_with fail
  refine (C1.out _).mono ?_
  rintro e w2 ⟨rfl, hb⟩
  have HB := Lib.hid (bstep HB.out hb)
  clear hb
  go_wp2_with fail
  refine (C2.out _ HB.out).mono ?_
  rintro e w3 ⟨rfl, hb⟩
  have X := At2.new w3 (.int .i64 (l)) (.int .i64 (h)) 25
  have HB := Lib.hid (bstep (bstep HB.out hb) (below1 w3 (.cells #[.int .i64 (l), .int .i64 (h)] 25)))
  clear hb
  obtain ⟨X0, X1, -, -, -⟩ := id X
  go_wp2_with fail
  refine (C3.out _ (bstep HB.out (below1 _ _))).mono ?_
  rintro e w4 ⟨rfl, hb⟩
  have X := (X.alloc _).keep hb
  have HB := Lib.hid (bstep (bstep HB.out (below1 _ _)) hb)
  clear hb
  clear X0 X1
  obtain ⟨X0, X1, -, -, -⟩ := id X
  go_wp2_with fail
  refine (C4.out _ HB.out).mono ?_
  rintro e w5 ⟨rfl, hb⟩
  have X := X.keep hb
  have HB := Lib.hid (bstep HB.out hb)
  clear hb
  clear X0 X1
  obtain ⟨X0, X1, -, -, -⟩ := id X
  go_wp2_with fail
  go_ret
  exact ⟨ret_bool (by first | rfl | simp), HB.out⟩

set_option maxHeartbeats 2000000 in
theorem thirds_9 (w : World) (k x n r r2 l h : Int) (k1 : -32768 ≤ k) (k2 : k ≤ 32767) (hx : k * 5400000 = x) (hn : x.tdiv 3 = n) (hr : k.tmod 12 = r) (hr2 : r + 12 = r2) (hm : r2.tmod 12 = 9) (n1 : -100000000000 ≤ n) (n2 : n ≤ 100000000000) (r1 : -12 ≤ r) (r3 : r ≤ 12) 
    (C0 : Hid (∀ wx, Below w.heap.size w wx → Calls Tryd.prog 12 #[] wx fun e w' => e = .returned (.bool true) ∧ Below wx.heap.size wx w'))
    (C2 : Hid (∀ wx, Below w.heap.size w wx → Calls Tryd.prog 13 #[.agg #[.int .i64 n, .int .i64 n]] wx fun e w' => e = .returned (.tuple #[.agg #[.int .i64 (-1073741824), .int .i64 (-1073741824)], .int .i64 0]) ∧ Below wx.heap.size wx w'))
    (C3 : Hid (∀ wx, Below w.heap.size w wx → Calls Tryd.prog 20 #[.int .i64 n, .int .i64 (-1073741824)] wx fun e w' => e = .returned (.int .i64 0) ∧ Below wx.heap.size wx w'))
     :
    Calls Tryd.prog 11 #[.int .i16 k] w fun e w' => e = .returned (.bool true) ∧ Below w.heap.size w w' := by
  have C1 := Lib.hid (fun wx => at_any n wx)
  have x1 : -9223372036854775808 ≤ x := by omega
  have x2 : x ≤ 9223372036854775807 := by omega
  have r4 : -9223372036854775808 ≤ r2 := by omega
  have r5 : r2 ≤ 9223372036854775807 := by omega
  have HB := Lib.hid (Below.refl w.heap.size w)
  go_enter Tryd.func11, Tryd.ntmps11
  go_wp2_with fail
  refine (C0.out _ HB.out).mono ?_
  rintro e w1 ⟨rfl, hb⟩
  have HB := Lib.hid (bstep HB.out hb)
  clear hb
  go_wp2_with fail
  refine (C1.out _).mono ?_
  rintro e w2 ⟨rfl, hb⟩
  have HB := Lib.hid (bstep HB.out hb)
  clear hb
  go_wp2_with fail
  refine (C2.out _ HB.out).mono ?_
  rintro e w3 ⟨rfl, hb⟩
  have X := At2.new w3 (.int .i64 ((-1073741824))) (.int .i64 ((-1073741824))) 25
  have HB := Lib.hid (bstep (bstep HB.out hb) (below1 w3 (.cells #[.int .i64 ((-1073741824)), .int .i64 ((-1073741824))] 25)))
  clear hb
  obtain ⟨X0, X1, -, -, -⟩ := id X
  go_wp2_with fail
  refine (C3.out _ (bstep HB.out (below1 _ _))).mono ?_
  rintro e w4 ⟨rfl, hb⟩
  have X := (X.alloc _).keep hb
  have HB := Lib.hid (bstep (bstep HB.out (below1 _ _)) hb)
  clear hb
  clear X0 X1
  obtain ⟨X0, X1, -, -, -⟩ := id X
  go_wp2_with fail
  go_ret
  exact ⟨ret_bool (by first | rfl | simp), HB.out⟩

set_option maxHeartbeats 2000000 in
theorem thirds_10 (w : World) (k x n r r2 l h : Int) (k1 : -32768 ≤ k) (k2 : k ≤ 32767) (hx : k * 5400000 = x) (hn : x.tdiv 3 = n) (hr : k.tmod 12 = r) (hr2 : r + 12 = r2) (hm : r2.tmod 12 = 10) (n1 : -100000000000 ≤ n) (n2 : n ≤ 100000000000) (r1 : -12 ≤ r) (r3 : r ≤ 12) (l1 : -1073741824 ≤ l) (l2 : l ≤ 1073741824) (e : h = l + 1)
    (C0 : Hid (∀ wx, Below w.heap.size w wx → Calls Tryd.prog 12 #[] wx fun e w' => e = .returned (.bool true) ∧ Below wx.heap.size wx w'))
    (C2 : Hid (∀ wx, Below w.heap.size w wx → Calls Tryd.prog 13 #[.agg #[.int .i64 n, .int .i64 n]] wx fun e w' => e = .returned (.tuple #[.agg #[.int .i64 l, .int .i64 h], .int .i64 0]) ∧ Below wx.heap.size wx w'))
    (C3 : Hid (∀ wx, Below w.heap.size w wx → Calls Tryd.prog 20 #[.int .i64 n, .int .i64 l] wx fun e w' => e = .returned (.int .i64 1) ∧ Below wx.heap.size wx w'))
    (C4 : Hid (∀ wx, Below w.heap.size w wx → Calls Tryd.prog 20 #[.int .i64 n, .int .i64 h] wx fun e w' => e = .returned (.int .i64 (-1)) ∧ Below wx.heap.size wx w')) :
    Calls Tryd.prog 11 #[.int .i16 k] w fun e w' => e = .returned (.bool true) ∧ Below w.heap.size w w' := by
  have C1 := Lib.hid (fun wx => at_any n wx)
  have x1 : -9223372036854775808 ≤ x := by omega
  have x2 : x ≤ 9223372036854775807 := by omega
  have r4 : -9223372036854775808 ≤ r2 := by omega
  have r5 : r2 ≤ 9223372036854775807 := by omega
  have f1 : (h == l + 1) = true := beq_iff_eq.2 e
  have h1 : -9223372036854775808 ≤ h := by omega
  have h2 : h ≤ 9223372036854775807 := by omega
  have e2 : l + 1 = h := e.symm
  clear e
  have HB := Lib.hid (Below.refl w.heap.size w)
  go_enter Tryd.func11, Tryd.ntmps11
  go_wp2_with fail
  refine (C0.out _ HB.out).mono ?_
  rintro e w1 ⟨rfl, hb⟩
  have HB := Lib.hid (bstep HB.out hb)
  clear hb
  go_wp2_with fail
  refine (C1.out _).mono ?_
  rintro e w2 ⟨rfl, hb⟩
  have HB := Lib.hid (bstep HB.out hb)
  clear hb
  go_wp2_with fail
  refine (C2.out _ HB.out).mono ?_
  rintro e w3 ⟨rfl, hb⟩
  have X := At2.new w3 (.int .i64 (l)) (.int .i64 (h)) 25
  have HB := Lib.hid (bstep (bstep HB.out hb) (below1 w3 (.cells #[.int .i64 (l), .int .i64 (h)] 25)))
  clear hb
  obtain ⟨X0, X1, -, -, -⟩ := id X
  go_wp2_with fail
  refine (C3.out _ (bstep HB.out (below1 _ _))).mono ?_
  rintro e w4 ⟨rfl, hb⟩
  have X := (X.alloc _).keep hb
  have HB := Lib.hid (bstep (bstep HB.out (below1 _ _)) hb)
  clear hb
  clear X0 X1
  obtain ⟨X0, X1, -, -, -⟩ := id X
  go_wp2_with fail
  refine (C4.out _ HB.out).mono ?_
  rintro e w5 ⟨rfl, hb⟩
  have X := X.keep hb
  have HB := Lib.hid (bstep HB.out hb)
  clear hb
  clear X0 X1
  obtain ⟨X0, X1, -, -, -⟩ := id X
  go_wp2_with fail
  go_ret
  exact ⟨ret_bool (by first | rfl | simp), HB.out⟩

set_option maxHeartbeats 2000000 in
theorem thirds_11 (w : World) (k x n r r2 l h : Int) (k1 : -32768 ≤ k) (k2 : k ≤ 32767) (hx : k * 5400000 = x) (hn : x.tdiv 3 = n) (hr : k.tmod 12 = r) (hr2 : r + 12 = r2) (hm : r2.tmod 12 = 11) (n1 : -100000000000 ≤ n) (n2 : n ≤ 100000000000) (r1 : -12 ≤ r) (r3 : r ≤ 12) 
    (C0 : Hid (∀ wx, Below w.heap.size w wx → Calls Tryd.prog 12 #[] wx fun e w' => e = .returned (.bool true) ∧ Below wx.heap.size wx w'))
    (C2 : Hid (∀ wx, Below w.heap.size w wx → Calls Tryd.prog 13 #[.agg #[.int .i64 n, .int .i64 n]] wx fun e w' => e = .returned (.tuple #[.agg #[.int .i64 (-536870912), .int .i64 (-536870912)], .int .i64 0]) ∧ Below wx.heap.size wx w'))
    (C3 : Hid (∀ wx, Below w.heap.size w wx → Calls Tryd.prog 20 #[.int .i64 n, .int .i64 (-536870912)] wx fun e w' => e = .returned (.int .i64 0) ∧ Below wx.heap.size wx w'))
     :
    Calls Tryd.prog 11 #[.int .i16 k] w fun e w' => e = .returned (.bool true) ∧ Below w.heap.size w w' := by
  have C1 := Lib.hid (fun wx => at_any n wx)
  have x1 : -9223372036854775808 ≤ x := by omega
  have x2 : x ≤ 9223372036854775807 := by omega
  have r4 : -9223372036854775808 ≤ r2 := by omega
  have r5 : r2 ≤ 9223372036854775807 := by omega
  have HB := Lib.hid (Below.refl w.heap.size w)
  go_enter Tryd.func11, Tryd.ntmps11
  go_wp2_with fail
  refine (C0.out _ HB.out).mono ?_
  rintro e w1 ⟨rfl, hb⟩
  have HB := Lib.hid (bstep HB.out hb)
  clear hb
  go_wp2_with fail
  refine (C1.out _).mono ?_
  rintro e w2 ⟨rfl, hb⟩
  have HB := Lib.hid (bstep HB.out hb)
  clear hb
  go_wp2_with fail
  refine (C2.out _ HB.out).mono ?_
  rintro e w3 ⟨rfl, hb⟩
  have X := At2.new w3 (.int .i64 ((-536870912))) (.int .i64 ((-536870912))) 25
  have HB := Lib.hid (bstep (bstep HB.out hb) (below1 w3 (.cells #[.int .i64 ((-536870912)), .int .i64 ((-536870912))] 25)))
  clear hb
  obtain ⟨X0, X1, -, -, -⟩ := id X
  go_wp2_with fail
  refine (C3.out _ (bstep HB.out (below1 _ _))).mono ?_
  rintro e w4 ⟨rfl, hb⟩
  have X := (X.alloc _).keep hb
  have HB := Lib.hid (bstep (bstep HB.out (below1 _ _)) hb)
  clear hb
  clear X0 X1
  obtain ⟨X0, X1, -, -, -⟩ := id X
  go_wp2_with fail
  go_ret
  exact ⟨ret_bool (by first | rfl | simp), HB.out⟩

theorem third_tmod (k : Int) (k1 : -32768 ≤ k) (k2 : k ≤ 32767) : k.tmod 12 + 12 = k.tmod 12 + 12 ∧ -12 ≤ k.tmod 12 ∧ k.tmod 12 ≤ 12 ∧ (k.tmod 12 + 12).tmod 12 = k % 12 ∧ (k * 5400000).tdiv 3 = k * 1800000 := by
  have e := Int.tmod_add_mul_tdiv k 12
  have b1 := Int.tmod_lt_of_pos k (show (0 : Int) < 12 by omega)
  have b2 := Int.lt_tmod_of_pos k (show (0 : Int) < 12 by omega)
  have c : (k * 5400000).tdiv 3 = k * 1800000 := by
    rw [show k * 5400000 = k * 1800000 * 3 by omega]
    exact Int.mul_tdiv_cancel _ (by omega)
  generalize k.tmod 12 = r at *
  generalize k.tdiv 12 = q at *
  refine ⟨rfl, by omega, by omega, ?_, c⟩
  rw [Int.tmod_eq_emod_of_nonneg (by omega)]
  omega
theorem thirds_walk (w : World) (P : TrProg w) (k : Int) (k1 : -32768 ≤ k) (k2 : k ≤ 32767) :
    Calls Tryd.prog 11 #[.int .i16 k] w fun e w' => e = .returned (.bool true) ∧ Below w.heap.size w w' := by
  obtain ⟨-, r1, r3, hm, hn⟩ := third_tmod k k1 k2
  have C0 := Lib.hid (fun wx (hb : Below w.heap.size w wx) => awake_any w P wx hb)
  have C2 := Lib.hid (fun wx (hb : Below w.heap.size w wx) => sin_one w P (k * 1800000) (by omega) (by omega) wx hb)
  have C3 := Lib.hid (fun v (hv : I64 v) wx (hb : Below w.heap.size w wx) => P.below (k * 1800000) v wx hb ⟨by omega, by omega⟩ hv)
  obtain ⟨m, hk⟩ : ∃ m, k % 12 = m := ⟨_, rfl⟩
  have hf := fl_in (k * 1800000)
  obtain ⟨f, x⟩ := fl_mod (k * 1800000)
  rw [hk] at hm
  have m1 : 0 ≤ m ∧ m < 12 := by omega
  have e : k * 1800000 % 21600000 = 1800000 * m := by omega
  rw [e] at f x
  have ll : L6.lo (k * 1800000) = L6.fl (k * 1800000) := rfl
  have hw : L6.ex (k * 1800000) = false → L6.hi (k * 1800000) = L6.fl (k * 1800000) + 1 := fun h => by unfold L6.hi; rw [h]; rfl
  have he : L6.ex (k * 1800000) = true → L6.hi (k * 1800000) = L6.fl (k * 1800000) := fun h => by unfold L6.hi; rw [h]; rfl
  rcases (show m = 0 ∨ m = 1 ∨ m = 2 ∨ m = 3 ∨ m = 4 ∨ m = 5 ∨ m = 6 ∨ m = 7 ∨ m = 8 ∨ m = 9 ∨ m = 10 ∨ m = 11 by omega) with rfl | rfl | rfl | rfl | rfl | rfl | rfl | rfl | rfl | rfl | rfl | rfl
  · have hx := x.symm.trans third_0.1
    have hv := f.symm.trans third_0.2
    have D3 : blN (k * 1800000) (0) = 0 := (by obtain ⟨p, q⟩ := blN_exact (k * 1800000) (0) hx; exact q.2 hv)
    rw [ll, he hx, hv] at C2
    exact thirds_0 w k _ _ _ _ 0 0 k1 k2 rfl hn rfl rfl hm (by omega) (by omega) r1 r3 C0 C2 (fun wx hb => toldI 0 D3 (C3.out _ ⟨by omega, by omega⟩ wx hb))
  · have hx := x.symm.trans third_1.1
    have hv := f.symm.trans third_1.2
    have D3 : blN (k * 1800000) (536870912) = 0 := (by obtain ⟨p, q⟩ := blN_exact (k * 1800000) (536870912) hx; exact q.2 hv)
    rw [ll, he hx, hv] at C2
    exact thirds_1 w k _ _ _ _ 0 0 k1 k2 rfl hn rfl rfl hm (by omega) (by omega) r1 r3 C0 C2 (fun wx hb => toldI 0 D3 (C3.out _ ⟨by omega, by omega⟩ wx hb))
  · have hx := x.symm.trans third_2
    have D3 : blN (k * 1800000) (L6.fl (k * 1800000)) = 1 := (by obtain ⟨p, q⟩ := blN_wide (k * 1800000) (L6.fl (k * 1800000)) hx; have := blN_facts (k * 1800000) (L6.fl (k * 1800000)); omega)
    have D4 : blN (k * 1800000) (L6.fl (k * 1800000) + 1) = -1 := (by obtain ⟨p, q⟩ := blN_wide (k * 1800000) (L6.fl (k * 1800000) + 1) hx; have := blN_facts (k * 1800000) (L6.fl (k * 1800000) + 1); omega)
    rw [ll, hw hx] at C2
    exact thirds_2 w k _ _ _ _ _ _ k1 k2 rfl hn rfl rfl hm (by omega) (by omega) r1 r3 hf.1 hf.2 rfl C0 C2 (fun wx hb => toldI 1 D3 (C3.out _ ⟨by omega, by omega⟩ wx hb)) (fun wx hb => toldI (-1) D4 (C3.out _ ⟨by omega, by omega⟩ wx hb))
  · have hx := x.symm.trans third_3.1
    have hv := f.symm.trans third_3.2
    have D3 : blN (k * 1800000) (1073741824) = 0 := (by obtain ⟨p, q⟩ := blN_exact (k * 1800000) (1073741824) hx; exact q.2 hv)
    rw [ll, he hx, hv] at C2
    exact thirds_3 w k _ _ _ _ 0 0 k1 k2 rfl hn rfl rfl hm (by omega) (by omega) r1 r3 C0 C2 (fun wx hb => toldI 0 D3 (C3.out _ ⟨by omega, by omega⟩ wx hb))
  · have hx := x.symm.trans third_4
    have D3 : blN (k * 1800000) (L6.fl (k * 1800000)) = 1 := (by obtain ⟨p, q⟩ := blN_wide (k * 1800000) (L6.fl (k * 1800000)) hx; have := blN_facts (k * 1800000) (L6.fl (k * 1800000)); omega)
    have D4 : blN (k * 1800000) (L6.fl (k * 1800000) + 1) = -1 := (by obtain ⟨p, q⟩ := blN_wide (k * 1800000) (L6.fl (k * 1800000) + 1) hx; have := blN_facts (k * 1800000) (L6.fl (k * 1800000) + 1); omega)
    rw [ll, hw hx] at C2
    exact thirds_4 w k _ _ _ _ _ _ k1 k2 rfl hn rfl rfl hm (by omega) (by omega) r1 r3 hf.1 hf.2 rfl C0 C2 (fun wx hb => toldI 1 D3 (C3.out _ ⟨by omega, by omega⟩ wx hb)) (fun wx hb => toldI (-1) D4 (C3.out _ ⟨by omega, by omega⟩ wx hb))
  · have hx := x.symm.trans third_5.1
    have hv := f.symm.trans third_5.2
    have D3 : blN (k * 1800000) (536870912) = 0 := (by obtain ⟨p, q⟩ := blN_exact (k * 1800000) (536870912) hx; exact q.2 hv)
    rw [ll, he hx, hv] at C2
    exact thirds_5 w k _ _ _ _ 0 0 k1 k2 rfl hn rfl rfl hm (by omega) (by omega) r1 r3 C0 C2 (fun wx hb => toldI 0 D3 (C3.out _ ⟨by omega, by omega⟩ wx hb))
  · have hx := x.symm.trans third_6.1
    have hv := f.symm.trans third_6.2
    have D3 : blN (k * 1800000) (0) = 0 := (by obtain ⟨p, q⟩ := blN_exact (k * 1800000) (0) hx; exact q.2 hv)
    rw [ll, he hx, hv] at C2
    exact thirds_6 w k _ _ _ _ 0 0 k1 k2 rfl hn rfl rfl hm (by omega) (by omega) r1 r3 C0 C2 (fun wx hb => toldI 0 D3 (C3.out _ ⟨by omega, by omega⟩ wx hb))
  · have hx := x.symm.trans third_7.1
    have hv := f.symm.trans third_7.2
    have D3 : blN (k * 1800000) (-536870912) = 0 := (by obtain ⟨p, q⟩ := blN_exact (k * 1800000) (-536870912) hx; exact q.2 hv)
    rw [ll, he hx, hv] at C2
    exact thirds_7 w k _ _ _ _ 0 0 k1 k2 rfl hn rfl rfl hm (by omega) (by omega) r1 r3 C0 C2 (fun wx hb => toldI 0 D3 (C3.out _ ⟨by omega, by omega⟩ wx hb))
  · have hx := x.symm.trans third_8
    have D3 : blN (k * 1800000) (L6.fl (k * 1800000)) = 1 := (by obtain ⟨p, q⟩ := blN_wide (k * 1800000) (L6.fl (k * 1800000)) hx; have := blN_facts (k * 1800000) (L6.fl (k * 1800000)); omega)
    have D4 : blN (k * 1800000) (L6.fl (k * 1800000) + 1) = -1 := (by obtain ⟨p, q⟩ := blN_wide (k * 1800000) (L6.fl (k * 1800000) + 1) hx; have := blN_facts (k * 1800000) (L6.fl (k * 1800000) + 1); omega)
    rw [ll, hw hx] at C2
    exact thirds_8 w k _ _ _ _ _ _ k1 k2 rfl hn rfl rfl hm (by omega) (by omega) r1 r3 hf.1 hf.2 rfl C0 C2 (fun wx hb => toldI 1 D3 (C3.out _ ⟨by omega, by omega⟩ wx hb)) (fun wx hb => toldI (-1) D4 (C3.out _ ⟨by omega, by omega⟩ wx hb))
  · have hx := x.symm.trans third_9.1
    have hv := f.symm.trans third_9.2
    have D3 : blN (k * 1800000) (-1073741824) = 0 := (by obtain ⟨p, q⟩ := blN_exact (k * 1800000) (-1073741824) hx; exact q.2 hv)
    rw [ll, he hx, hv] at C2
    exact thirds_9 w k _ _ _ _ 0 0 k1 k2 rfl hn rfl rfl hm (by omega) (by omega) r1 r3 C0 C2 (fun wx hb => toldI 0 D3 (C3.out _ ⟨by omega, by omega⟩ wx hb))
  · have hx := x.symm.trans third_10
    have D3 : blN (k * 1800000) (L6.fl (k * 1800000)) = 1 := (by obtain ⟨p, q⟩ := blN_wide (k * 1800000) (L6.fl (k * 1800000)) hx; have := blN_facts (k * 1800000) (L6.fl (k * 1800000)); omega)
    have D4 : blN (k * 1800000) (L6.fl (k * 1800000) + 1) = -1 := (by obtain ⟨p, q⟩ := blN_wide (k * 1800000) (L6.fl (k * 1800000) + 1) hx; have := blN_facts (k * 1800000) (L6.fl (k * 1800000) + 1); omega)
    rw [ll, hw hx] at C2
    exact thirds_10 w k _ _ _ _ _ _ k1 k2 rfl hn rfl rfl hm (by omega) (by omega) r1 r3 hf.1 hf.2 rfl C0 C2 (fun wx hb => toldI 1 D3 (C3.out _ ⟨by omega, by omega⟩ wx hb)) (fun wx hb => toldI (-1) D4 (C3.out _ ⟨by omega, by omega⟩ wx hb))
  · have hx := x.symm.trans third_11.1
    have hv := f.symm.trans third_11.2
    have D3 : blN (k * 1800000) (-536870912) = 0 := (by obtain ⟨p, q⟩ := blN_exact (k * 1800000) (-536870912) hx; exact q.2 hv)
    rw [ll, he hx, hv] at C2
    exact thirds_11 w k _ _ _ _ 0 0 k1 k2 rfl hn rfl rfl hm (by omega) (by omega) r1 r3 C0 C2 (fun wx hb => toldI 0 D3 (C3.out _ ⟨by omega, by omega⟩ wx hb))
end Go.Proofs.YtglmkpnnbgkndaaDoor
