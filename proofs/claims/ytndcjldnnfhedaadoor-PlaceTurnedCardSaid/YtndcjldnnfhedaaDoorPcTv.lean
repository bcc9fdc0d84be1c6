/- Place: PlaceTurned: the walk of both places that are moved. -/
import Derived.Test.YtndcjldnnfhedaaDoorPcTu
import Derived.Test.YtndcjldnnfhedaaDoorInv
namespace Go.Proofs.YtndcjldnnfhedaaDoor
open Go.RowKit
set_option linter.unusedVariables false
set_option maxRecDepth 100000

theorem keepS {W : World} {b0 b1 b2 : Nat} {x y z t x' y' z' t' u v : Value} (A : At4 W b0 x y z t) (B : At4 W b1 x' y' z' t') (Q : At2 W b2 u v) : W.cell? ⟨b0, 0, none⟩ = some x ∧ W.cell? ⟨b0, 1, none⟩ = some y ∧ W.cell? ⟨b0, 2, none⟩ = some z ∧ W.cell? ⟨b0, 3, none⟩ = some t ∧ W.cell? ⟨b1, 0, none⟩ = some x' ∧ W.cell? ⟨b1, 1, none⟩ = some y' ∧ W.cell? ⟨b1, 2, none⟩ = some z' ∧ W.cell? ⟨b1, 3, none⟩ = some t' ∧ W.cell? ⟨b2, 0, none⟩ = some u ∧ W.cell? ⟨b2, 1, none⟩ = some v := ⟨A.c0, A.c1, A.c2, A.c3, B.c0, B.c1, B.c2, B.c3, Q.c0, Q.c1⟩
theorem At2.new2z (w : World) (o p : Obj) (x y : Value) (T : Nat) : At2 (((w.alloc o).alloc p).alloc (.cells #[x, y] T)) (w.heap.size + 1 + 1) x y := by
  have h := At2.new ((w.alloc o).alloc p) x y T
  simp at h; exact h
theorem At2.new1z (w : World) (o : Obj) (x y : Value) (T : Nat) : At2 ((w.alloc o).alloc (.cells #[x, y] T)) (w.heap.size + 1) x y := by
  have h := At2.new (w.alloc o) x y T
  simp at h; exact h
theorem At4.new2z (w : World) (o p : Obj) (x y z t : Value) (T : Nat) : At4 (((w.alloc o).alloc p).alloc (.cells #[x, y, z, t] T)) (w.heap.size + 1 + 1) x y z t := by
  have h := At4.new ((w.alloc o).alloc p) x y z t T
  simp at h; exact h
theorem At4.new1z (w : World) (o : Obj) (x y z t : Value) (T : Nat) : At4 ((w.alloc o).alloc (.cells #[x, y, z, t] T)) (w.heap.size + 1) x y z t := by
  have h := At4.new (w.alloc o) x y z t T
  simp at h; exact h
theorem At4.far2 {w : World} {b c : Nat} {x y z t : Value} (h : At4 w b x y z t) (hne : b ≠ c) (x' y' : Value) : At4 ((w.setCell ⟨c, 0, none⟩ x').setCell ⟨c, 1, none⟩ y') b x y z t := by
  have o : ∀ (i j : Nat) (wx : World) (s : Value), (wx.setCell ⟨c, j, none⟩ s).cell? ⟨b, i, none⟩ = wx.cell? ⟨b, i, none⟩ := fun i j wx s => World.cell?_setCell_other _ _ _ s (by simp; try omega)
  have f : ∀ (p q : Addr) (wx : World) (s : Value), (wx.setCell p s).frozen? q = wx.frozen? q := fun p q wx s => World.frozen?_setCell _ _ _ _
  exact ⟨by rw [o, o]; exact h.c0, by rw [o, o]; exact h.c1, by rw [o, o]; exact h.c2, by rw [o, o]; exact h.c3, by rw [f, f]; exact h.f0, by rw [f, f]; exact h.f1, by rw [f, f]; exact h.f2, by rw [f, f]; exact h.f3, by simpa [World.setCell] using h.lt⟩
theorem At2.far4 {w : World} {b c : Nat} {x y : Value} (h : At2 w b x y) (hne : b ≠ c) (x' y' z' t' : Value) : At2 ((((w.setCell ⟨c, 0, none⟩ x').setCell ⟨c, 1, none⟩ y').setCell ⟨c, 2, none⟩ z').setCell ⟨c, 3, none⟩ t') b x y := by
  have o : ∀ (i j : Nat) (wx : World) (s : Value), (wx.setCell ⟨c, j, none⟩ s).cell? ⟨b, i, none⟩ = wx.cell? ⟨b, i, none⟩ := fun i j wx s => World.cell?_setCell_other _ _ _ s (by simp; try omega)
  have f : ∀ (p q : Addr) (wx : World) (s : Value), (wx.setCell p s).frozen? q = wx.frozen? q := fun p q wx s => World.frozen?_setCell _ _ _ _
  exact ⟨by rw [o, o, o, o]; exact h.c0, by rw [o, o, o, o]; exact h.c1, by rw [f, f, f, f]; exact h.f0, by rw [f, f, f, f]; exact h.f1, by simpa [World.setCell] using h.lt⟩
structure PTInv (a b c d e f g h x y t xc xd yc yd py : Int) (w w4 : World) (listed : Array Bool) (wx : World) (x9 x10 x11 x35 x36 x37 x38 x39 x40 x41 x42 x43 x44 x45 x46 x47 x48 x49 x50 x51 : Value) (q1 q2 q3 : Nat) : Prop where
  size : listed.size = 23
  hw : Below w4.heap.size w4 wx
  f0 : listed.getD 0 false = true → x35 = .agg #[.int .i64 a, .int .i64 b, .int .i64 c, .int .i64 d]
  f1 : listed.getD 1 false = true → x36 = .int .i32 t
  f2 : listed.getD 2 false = true → x37 = .int .i64 t
  f3 : listed.getD 3 false = true → x38 = .agg #[.int .i64 a, .int .i64 b, .int .i64 xc, .int .i64 xd]
  f4 : listed.getD 4 false = true → x39 = .agg #[.int .i64 e, .int .i64 f, .int .i64 g, .int .i64 h]
  f5 : listed.getD 5 false = true → x40 = .int .i32 t
  f6 : listed.getD 6 false = true → x41 = .int .i64 t
  f7 : listed.getD 7 false = true → x42 = .agg #[.int .i64 e, .int .i64 f, .int .i64 yc, .int .i64 yd]
  f8 : listed.getD 8 false = true → x43 = .pointer (some ⟨w.heap.size + 1 + 1, 0, none⟩)
  f9 : listed.getD 9 false = true → x44 = .int .i64 x
  f10 : listed.getD 10 false = true → x45 = .pointer (some ⟨w.heap.size + 1 + 1, 1, none⟩)
  f11 : listed.getD 11 false = true → x46 = .int .i64 y
  f12 : listed.getD 12 false = true → x47 = .int .i32 t
  f13 : listed.getD 13 false = true → x48 = .int .i64 t
  f14 : listed.getD 14 false = true → x49 = .int .i64 (y + t)
  f15 : listed.getD 15 false = true → x50 = .int .i64 py
  f16 : listed.getD 16 false = true → x51 = .agg #[.int .i64 x, .int .i64 py]
  p1 : listed.getD 17 false = true → x9 = .pointer (some ⟨q1, 0, none⟩) ∧ w4.heap.size ≤ q1 ∧ ∃ s0 s1 s2 s3 : Value, At4 wx q1 s0 s1 s2 s3
  p2 : listed.getD 18 false = true → x10 = .pointer (some ⟨q2, 0, none⟩) ∧ w4.heap.size ≤ q2 ∧ ∃ s0 s1 s2 s3 : Value, At4 wx q2 s0 s1 s2 s3
  p3 : listed.getD 19 false = true → x11 = .pointer (some ⟨q3, 0, none⟩) ∧ w4.heap.size ≤ q3 ∧ ∃ s0 s1 : Value, At2 wx q3 s0 s1
  s1 : listed.getD 20 false = true → listed.getD 17 false = true ∧ At4 wx q1 (.int .i64 a) (.int .i64 b) (.int .i64 xc) (.int .i64 xd)
  s2 : listed.getD 21 false = true → listed.getD 18 false = true ∧ At4 wx q2 (.int .i64 e) (.int .i64 f) (.int .i64 yc) (.int .i64 yd)
  s3 : listed.getD 22 false = true → listed.getD 19 false = true ∧ At2 wx q3 (.int .i64 x) (.int .i64 py)
  d12 : listed.getD 17 false = true → listed.getD 18 false = true → q1 ≠ q2
  d13 : listed.getD 17 false = true → listed.getD 19 false = true → q1 ≠ q3
  d23 : listed.getD 18 false = true → listed.getD 19 false = true → q2 ≠ q3
set_option maxHeartbeats 40000000 in
theorem turned_walk (a b c d e f g h x y t xc xd yc yd py s1 s2 s3 s4 s5 s6 : Int) (iv cb : Bool) (w : World) (H : Pc8 w) (t1 : -2147483648 ≤ t) (t2 : t ≤ 2147483647) (y1 : -10800000 ≤ y) (y2 : y < 10800000) (hs1 : -100000000 ≤ s3 ∧ s4 ≤ 100000000) (hs2 : -100000000 ≤ s5 ∧ s6 ≤ 100000000) (hs3 : s3 ≤ s4 ∧ s5 ≤ s6) (hs : s4 - s3 = s6 - s5)
    (CW : Hid (∀ wx, Pc8 wx → Calls Tryd.prog 8 #[] wx fun e w' => e = .returned (.bool true) ∧ Below wx.heap.size wx w'))
    (V1 : Hid (∀ wx, HasAll wx → Calls Tryd.prog 9 #[.agg #[.int .i64 a, .int .i64 b, .int .i64 c, .int .i64 d]] wx fun r w' => r = .returned (.bool true) ∧ Below wx.heap.size wx w'))
    (V2 : Hid (∀ wx, HasAll wx → Calls Tryd.prog 9 #[.agg #[.int .i64 e, .int .i64 f, .int .i64 g, .int .i64 h]] wx fun r w' => r = .returned (.bool true) ∧ Below wx.heap.size wx w'))
    (VP : Hid (∀ wx, Calls Tryd.prog 10 #[.agg #[.int .i64 x, .int .i64 y]] wx fun r w' => r = .returned (.bool true) ∧ Below wx.heap.size wx w'))
    (CX : Hid (∀ wx, Calls Tryd.prog 11 #[.agg #[.int .i64 a, .int .i64 b, .int .i64 c, .int .i64 d], .int .i64 t] wx fun r w' => r = .returned (.agg #[.int .i64 a, .int .i64 b, .int .i64 xc, .int .i64 xd]) ∧ Below wx.heap.size wx w'))
    (CY : Hid (∀ wx, Calls Tryd.prog 11 #[.agg #[.int .i64 e, .int .i64 f, .int .i64 g, .int .i64 h], .int .i64 t] wx fun r w' => r = .returned (.agg #[.int .i64 e, .int .i64 f, .int .i64 yc, .int .i64 yd]) ∧ Below wx.heap.size wx w'))
    (CP : Hid (∀ wx, Calls Tryd.prog 12 #[.int .i64 (y + t)] wx fun r w' => r = .returned (.int .i64 py) ∧ w' = wx))
    (V3 : Hid (∀ wx, HasAll wx → Calls Tryd.prog 9 #[.agg #[.int .i64 a, .int .i64 b, .int .i64 xc, .int .i64 xd]] wx fun r w' => r = .returned (.bool true) ∧ Below wx.heap.size wx w'))
    (V4 : Hid (∀ wx, HasAll wx → Calls Tryd.prog 9 #[.agg #[.int .i64 e, .int .i64 f, .int .i64 yc, .int .i64 yd]] wx fun r w' => r = .returned (.bool true) ∧ Below wx.heap.size wx w'))
    (VQ : Hid (∀ wx, Calls Tryd.prog 10 #[.agg #[.int .i64 x, .int .i64 py]] wx fun r w' => r = .returned (.bool true) ∧ Below wx.heap.size wx w'))
    (I1 : Hid (∀ wx, HasAll wx → Calls Tryd.prog 13 #[.agg #[.int .i64 a, .int .i64 b, .int .i64 c, .int .i64 d], .agg #[.int .i64 e, .int .i64 f, .int .i64 g, .int .i64 h]] wx fun r w' => r = .returned (.bool iv) ∧ Below wx.heap.size wx w'))
    (I2 : Hid (∀ wx, HasAll wx → Calls Tryd.prog 13 #[.agg #[.int .i64 a, .int .i64 b, .int .i64 xc, .int .i64 xd], .agg #[.int .i64 e, .int .i64 f, .int .i64 yc, .int .i64 yd]] wx fun r w' => r = .returned (.bool iv) ∧ Below wx.heap.size wx w'))
    (C1 : Hid (∀ wx, HasAll wx → Calls Tryd.prog 14 #[.agg #[.int .i64 a, .int .i64 b, .int .i64 c, .int .i64 d], .agg #[.int .i64 x, .int .i64 y]] wx fun r w' => r = .returned (.tuple #[.bool cb, .int .i64 0]) ∧ Below wx.heap.size wx w'))
    (C2 : Hid (∀ wx, HasAll wx → Calls Tryd.prog 14 #[.agg #[.int .i64 a, .int .i64 b, .int .i64 xc, .int .i64 xd], .agg #[.int .i64 x, .int .i64 py]] wx fun r w' => r = .returned (.tuple #[.bool cb, .int .i64 0]) ∧ Below wx.heap.size wx w'))
    (H1 : Hid (∀ wx, HasAll wx → Calls Tryd.prog 15 #[.agg #[.int .i64 a, .int .i64 b, .int .i64 c, .int .i64 d], .agg #[.int .i64 e, .int .i64 f, .int .i64 g, .int .i64 h]] wx fun r w' => r = .returned (.tuple #[.agg #[.int .i64 s1, .int .i64 s2, .int .i64 s3, .int .i64 s4], .int .i64 0]) ∧ Below wx.heap.size wx w'))
    (H2 : Hid (∀ wx, HasAll wx → Calls Tryd.prog 15 #[.agg #[.int .i64 a, .int .i64 b, .int .i64 xc, .int .i64 xd], .agg #[.int .i64 e, .int .i64 f, .int .i64 yc, .int .i64 yd]] wx fun r w' => r = .returned (.tuple #[.agg #[.int .i64 s1, .int .i64 s2, .int .i64 s5, .int .i64 s6], .int .i64 0]) ∧ Below wx.heap.size wx w')) :
    Calls Tryd.prog 4 #[.agg #[.int .i64 a, .int .i64 b, .int .i64 c, .int .i64 d], .agg #[.int .i64 e, .int .i64 f, .int .i64 g, .int .i64 h], .agg #[.int .i64 x, .int .i64 y], .int .i32 t] w fun r w' => r = .returned (.bool true) ∧ Below w.heap.size w w' := by
  have A := ((At4.new w (.int .i64 a) (.int .i64 b) (.int .i64 c) (.int .i64 d) 33).alloc (.cells #[.int .i64 e, .int .i64 f, .int .i64 g, .int .i64 h] 33)).alloc (.cells #[.int .i64 x, .int .i64 y] 35)
  have B := (At4.new (w.alloc (.cells #[.int .i64 a, .int .i64 b, .int .i64 c, .int .i64 d] 33)) (.int .i64 e) (.int .i64 f) (.int .i64 g) (.int .i64 h) 33).alloc (.cells #[.int .i64 x, .int .i64 y] 35)
  have Q := At2.new ((w.alloc (.cells #[.int .i64 a, .int .i64 b, .int .i64 c, .int .i64 d] 33)).alloc (.cells #[.int .i64 e, .int .i64 f, .int .i64 g, .int .i64 h] 33)) (.int .i64 x) (.int .i64 y) 35
  have HB := Lib.hid (below3 w (.cells #[.int .i64 a, .int .i64 b, .int .i64 c, .int .i64 d] 33) (.cells #[.int .i64 e, .int .i64 f, .int .i64 g, .int .i64 h] 33) (.cells #[.int .i64 x, .int .i64 y] 35))
  simp at B Q
  have G := H.below HB.out
  obtain ⟨A0, A1, A2, A3, -, -, -, -, -⟩ := id A
  obtain ⟨B0, B1, B2, B3, -, -, -, -, -⟩ := id B
  obtain ⟨Q0, Q1, -, -, -⟩ := id Q
  go_enter Tryd.func4, Tryd.ntmps4
  go_wp2_with fail
  refine ((CW).out _ G).mono ?_
  rintro e w1 ⟨rfl, hb⟩
  clear A0 A1 A2 A3 B0 B1 B2 B3 Q0 Q1
  have A := A.keep hb
  have B := B.keep hb
  have Q := Q.keep hb
  have G := G.below hb
  have HB := Lib.hid (bstep HB.out hb)
  clear hb
  obtain ⟨A0, A1, A2, A3, -, -, -, -, -⟩ := id A
  obtain ⟨B0, B1, B2, B3, -, -, -, -, -⟩ := id B
  obtain ⟨Q0, Q1, -, -, -⟩ := id Q
  go_wp2_with fail
  refine ((V1).out _ G.all).mono ?_
  rintro e w2 ⟨rfl, hb⟩
  clear A0 A1 A2 A3 B0 B1 B2 B3 Q0 Q1
  have A := A.keep hb
  have B := B.keep hb
  have Q := Q.keep hb
  have G := G.below hb
  have HB := Lib.hid (bstep HB.out hb)
  clear hb
  obtain ⟨A0, A1, A2, A3, -, -, -, -, -⟩ := id A
  obtain ⟨B0, B1, B2, B3, -, -, -, -, -⟩ := id B
  obtain ⟨Q0, Q1, -, -, -⟩ := id Q
  go_wp2_with fail
  refine ((V2).out _ G.all).mono ?_
  rintro e w3 ⟨rfl, hb⟩
  clear A0 A1 A2 A3 B0 B1 B2 B3 Q0 Q1
  have A := A.keep hb
  have B := B.keep hb
  have Q := Q.keep hb
  have G := G.below hb
  have HB := Lib.hid (bstep HB.out hb)
  clear hb
  obtain ⟨A0, A1, A2, A3, -, -, -, -, -⟩ := id A
  obtain ⟨B0, B1, B2, B3, -, -, -, -, -⟩ := id B
  obtain ⟨Q0, Q1, -, -, -⟩ := id Q
  go_wp2_with fail
  refine ((VP).out _).mono ?_
  rintro e w4 ⟨rfl, hb⟩
  clear A0 A1 A2 A3 B0 B1 B2 B3 Q0 Q1
  have A := A.keep hb
  have B := B.keep hb
  have Q := Q.keep hb
  have G := G.below hb
  have HB := Lib.hid (bstep HB.out hb)
  clear hb
  obtain ⟨A0, A1, A2, A3, -, -, -, -, -⟩ := id A
  obtain ⟨B0, B1, B2, B3, -, -, -, -, -⟩ := id B
  obtain ⟨Q0, Q1, -, -, -⟩ := id Q
  have wt : IntKind.i64.wrap t = t := i64_is (by omega) (by omega)
  have wy : IntKind.i64.wrap (y + t) = y + t := i64_is (by omega) (by omega)
  go_upto_region 5 with fail
  go_cut [9, 10, 11] from 35 to 51 (fun v9 v10 v11 wx => ∃ q1 q2 q3 : Nat, v9 = .pointer (some ⟨q1, 0, none⟩) ∧ v10 = .pointer (some ⟨q2, 0, none⟩) ∧ v11 = .pointer (some ⟨q3, 0, none⟩) ∧ Hid (At4 wx q1 (.int .i64 a) (.int .i64 b) (.int .i64 xc) (.int .i64 xd)) ∧ Hid (At4 wx q2 (.int .i64 e) (.int .i64 f) (.int .i64 yc) (.int .i64 yd)) ∧ Hid (At2 wx q3 (.int .i64 x) (.int .i64 py)) ∧ Hid (At4 wx w.heap.size (.int .i64 a) (.int .i64 b) (.int .i64 c) (.int .i64 d)) ∧ Hid (At4 wx (w.heap.size + 1) (.int .i64 e) (.int .i64 f) (.int .i64 g) (.int .i64 h)) ∧ Hid (At2 wx (w.heap.size + 1 + 1) (.int .i64 x) (.int .i64 y)) ∧ Hid (Below w.heap.size w wx))
  case first =>
    clear CW V1 V2 VP V3 V4 VQ I1 I2 C1 C2 H1 H2 hs hs1 hs2 hs3 G H
    clear A0 A1 A2 A3 B0 B1 B2 B3 Q0 Q1
    refine wp_region_inv (by kernel_rfl) (by kernel_rfl) (fun (listed : Array Bool) (ac : Act) (wx : World) => ∃ (x9 x10 x11 x35 x36 x37 x38 x39 x40 x41 x42 x43 x44 x45 x46 x47 x48 x49 x50 x51 : Value) (q1 q2 q3 : Nat), ac = { tmps := #[.agg #[.int .i64 a, .int .i64 b, .int .i64 c, .int .i64 d], .agg #[.int .i64 e, .int .i64 f, .int .i64 g, .int .i64 h], .agg #[.int .i64 x, .int .i64 y], .int .i32 t, .pointer (some ⟨w.heap.size, 0, none⟩), .pointer (some ⟨w.heap.size + 1, 0, none⟩), .pointer (some ⟨w.heap.size + 1 + 1, 0, none⟩), undef, .bool false, x9, x10, x11, undef, undef, undef, undef, undef, undef, undef, undef, .bool true, .bool false, .agg #[.int .i64 a, .int .i64 b, .int .i64 c, .int .i64 d], .bool true, .bool false, .bool false, .agg #[.int .i64 e, .int .i64 f, .int .i64 g, .int .i64 h], .bool true, .bool false, .bool false, .bool false, .agg #[.int .i64 x, .int .i64 y], .bool true, .bool false, .bool false, x35, x36, x37, x38, x39, x40, x41, x42, x43, x44, x45, x46, x47, x48, x49, x50, x51, undef, undef, undef, undef, undef, undef, undef, undef, undef, undef, undef, undef, undef, undef, undef, undef, undef, undef, undef, undef, undef, undef, undef, undef, undef, undef, undef, undef, undef, undef, undef, undef, undef, undef, undef, undef, undef, undef, undef, undef, undef, undef, undef, undef, undef, undef, undef, undef, undef, undef, undef, undef, undef, undef, undef, undef, undef, undef, undef, undef, undef, undef, undef, undef, undef, undef, undef, undef, undef, undef, undef, undef, undef, undef, undef, undef, undef, undef, undef, undef, undef, undef, undef, undef, undef, undef, undef, undef, undef], defers := [] } ∧ PTInv a b c d e f g h x y t xc xd yc yd py w w4 listed wx x9 x10 x11 x35 x36 x37 x38 x39 x40 x41 x42 x43 x44 x45 x46 x47 x48 x49 x50 x51 q1 q2 q3) ?_ ?_ ?_ ?_
    · exact ⟨undef, undef, undef, undef, undef, undef, undef, undef, undef, undef, undef, undef, undef, undef, undef, undef, undef, undef, undef, undef, 0, 0, 0, rfl, { size := by simp, hw := (Below.refl _ _).drew, f0 := no_rep, f1 := no_rep, f2 := no_rep, f3 := no_rep, f4 := no_rep, f5 := no_rep, f6 := no_rep, f7 := no_rep, f8 := no_rep, f9 := no_rep, f10 := no_rep, f11 := no_rep, f12 := no_rep, f13 := no_rep, f14 := no_rep, f15 := no_rep, f16 := no_rep, p1 := no_rep, p2 := no_rep, p3 := no_rep, s1 := no_rep, s2 := no_rep, s3 := no_rep, d12 := fun h => no_rep h, d13 := fun h => no_rep h, d23 := fun h => no_rep h }⟩
    · rintro listed a wx ⟨x9, x10, x11, x35, x36, x37, x38, x39, x40, x41, x42, x43, x44, x45, x46, x47, x48, x49, x50, x51, q1, q2, q3, -, H⟩
      exact H.size
    · intro i listed ac wx hI hi
      have hlt : i < 23 := ready_lt hi
      rcases (show i = 0 ∨ i = 1 ∨ i = 2 ∨ i = 3 ∨ i = 4 ∨ i = 5 ∨ i = 6 ∨ i = 7 ∨ i = 8 ∨ i = 9 ∨ i = 10 ∨ i = 11 ∨ i = 12 ∨ i = 13 ∨ i = 14 ∨ i = 15 ∨ i = 16 ∨ i = 17 ∨ i = 18 ∨ i = 19 ∨ i = 20 ∨ i = 21 ∨ i = 22 by omega) with rfl | rfl | rfl | rfl | rfl | rfl | rfl | rfl | rfl | rfl | rfl | rfl | rfl | rfl | rfl | rfl | rfl | rfl | rfl | rfl | rfl | rfl | rfl
      · obtain ⟨x9, x10, x11, x35, x36, x37, x38, x39, x40, x41, x42, x43, x44, x45, x46, x47, x48, x49, x50, x51, q1, q2, q3, rfl, H⟩ := hI
        clear hi
        refine wpOp_stepL rfl (fun K hK => ?_)
        obtain ⟨A0, A1, A2, A3, -, -, -, -, -⟩ := A.keep H.hw
        rw [if_pos (by rfl)]
        go_simp
        exact hK _ _ ⟨x9, x10, x11, _, x36, x37, x38, x39, x40, x41, x42, x43, x44, x45, x46, x47, x48, x49, x50, x51, q1, q2, q3, rfl, { size := by simpa using H.size, hw := H.hw, f0 := fun _ => rfl, f1 := upd (k := 0) (j := 1) (by decide) (fun h => h) H.f1, f2 := upd (k := 0) (j := 2) (by decide) (fun h => h) H.f2, f3 := upd (k := 0) (j := 3) (by decide) (fun h => h) H.f3, f4 := upd (k := 0) (j := 4) (by decide) (fun h => h) H.f4, f5 := upd (k := 0) (j := 5) (by decide) (fun h => h) H.f5, f6 := upd (k := 0) (j := 6) (by decide) (fun h => h) H.f6, f7 := upd (k := 0) (j := 7) (by decide) (fun h => h) H.f7, f8 := upd (k := 0) (j := 8) (by decide) (fun h => h) H.f8, f9 := upd (k := 0) (j := 9) (by decide) (fun h => h) H.f9, f10 := upd (k := 0) (j := 10) (by decide) (fun h => h) H.f10, f11 := upd (k := 0) (j := 11) (by decide) (fun h => h) H.f11, f12 := upd (k := 0) (j := 12) (by decide) (fun h => h) H.f12, f13 := upd (k := 0) (j := 13) (by decide) (fun h => h) H.f13, f14 := upd (k := 0) (j := 14) (by decide) (fun h => h) H.f14, f15 := upd (k := 0) (j := 15) (by decide) (fun h => h) H.f15, f16 := upd (k := 0) (j := 16) (by decide) (fun h => h) H.f16, p1 := upd (k := 0) (j := 17) (by decide) (fun h => h) H.p1, p2 := upd (k := 0) (j := 18) (by decide) (fun h => h) H.p2, p3 := upd (k := 0) (j := 19) (by decide) (fun h => h) H.p3, s1 := upd (k := 0) (j := 20) (by decide) (fun h => ⟨set_mono h.1, h.2⟩) H.s1, s2 := upd (k := 0) (j := 21) (by decide) (fun h => ⟨set_mono h.1, h.2⟩) H.s2, s3 := upd (k := 0) (j := 22) (by decide) (fun h => ⟨set_mono h.1, h.2⟩) H.s3, d12 := fun h h' => H.d12 (by rw [getD_set_ne false (by decide)] at h; exact h) (by rw [getD_set_ne false (by decide)] at h'; exact h'), d13 := fun h h' => H.d13 (by rw [getD_set_ne false (by decide)] at h; exact h) (by rw [getD_set_ne false (by decide)] at h'; exact h'), d23 := fun h h' => H.d23 (by rw [getD_set_ne false (by decide)] at h; exact h) (by rw [getD_set_ne false (by decide)] at h'; exact h') }⟩
      · obtain ⟨x9, x10, x11, x35, x36, x37, x38, x39, x40, x41, x42, x43, x44, x45, x46, x47, x48, x49, x50, x51, q1, q2, q3, rfl, H⟩ := hI
        clear hi
        refine wpOp_stepL rfl (fun K hK => ?_)
        rw [if_pos (by rfl)]
        go_simp
        exact hK _ _ ⟨x9, x10, x11, x35, _, x37, x38, x39, x40, x41, x42, x43, x44, x45, x46, x47, x48, x49, x50, x51, q1, q2, q3, rfl, { size := by simpa using H.size, hw := H.hw, f0 := upd (k := 1) (j := 0) (by decide) (fun h => h) H.f0, f1 := fun _ => rfl, f2 := upd (k := 1) (j := 2) (by decide) (fun h => h) H.f2, f3 := upd (k := 1) (j := 3) (by decide) (fun h => h) H.f3, f4 := upd (k := 1) (j := 4) (by decide) (fun h => h) H.f4, f5 := upd (k := 1) (j := 5) (by decide) (fun h => h) H.f5, f6 := upd (k := 1) (j := 6) (by decide) (fun h => h) H.f6, f7 := upd (k := 1) (j := 7) (by decide) (fun h => h) H.f7, f8 := upd (k := 1) (j := 8) (by decide) (fun h => h) H.f8, f9 := upd (k := 1) (j := 9) (by decide) (fun h => h) H.f9, f10 := upd (k := 1) (j := 10) (by decide) (fun h => h) H.f10, f11 := upd (k := 1) (j := 11) (by decide) (fun h => h) H.f11, f12 := upd (k := 1) (j := 12) (by decide) (fun h => h) H.f12, f13 := upd (k := 1) (j := 13) (by decide) (fun h => h) H.f13, f14 := upd (k := 1) (j := 14) (by decide) (fun h => h) H.f14, f15 := upd (k := 1) (j := 15) (by decide) (fun h => h) H.f15, f16 := upd (k := 1) (j := 16) (by decide) (fun h => h) H.f16, p1 := upd (k := 1) (j := 17) (by decide) (fun h => h) H.p1, p2 := upd (k := 1) (j := 18) (by decide) (fun h => h) H.p2, p3 := upd (k := 1) (j := 19) (by decide) (fun h => h) H.p3, s1 := upd (k := 1) (j := 20) (by decide) (fun h => ⟨set_mono h.1, h.2⟩) H.s1, s2 := upd (k := 1) (j := 21) (by decide) (fun h => ⟨set_mono h.1, h.2⟩) H.s2, s3 := upd (k := 1) (j := 22) (by decide) (fun h => ⟨set_mono h.1, h.2⟩) H.s3, d12 := fun h h' => H.d12 (by rw [getD_set_ne false (by decide)] at h; exact h) (by rw [getD_set_ne false (by decide)] at h'; exact h'), d13 := fun h h' => H.d13 (by rw [getD_set_ne false (by decide)] at h; exact h) (by rw [getD_set_ne false (by decide)] at h'; exact h'), d23 := fun h h' => H.d23 (by rw [getD_set_ne false (by decide)] at h; exact h) (by rw [getD_set_ne false (by decide)] at h'; exact h') }⟩
      · obtain ⟨x9, x10, x11, x35, x36, x37, x38, x39, x40, x41, x42, x43, x44, x45, x46, x47, x48, x49, x50, x51, q1, q2, q3, rfl, H⟩ := hI
        have hd := ready_depL hi rfl
        have d1 : listed.getD 1 false = true := hd ⟨1, .data⟩ (by simp) (by rfl)
        clear hd
        clear hi
        obtain rfl := H.f1 d1
        refine wpOp_stepL rfl (fun K hK => ?_)
        rw [if_pos (by rfl)]
        go_simp
        exact hK _ _ ⟨x9, x10, x11, x35, _, _, x38, x39, x40, x41, x42, x43, x44, x45, x46, x47, x48, x49, x50, x51, q1, q2, q3, rfl, { size := by simpa using H.size, hw := H.hw, f0 := upd (k := 2) (j := 0) (by decide) (fun h => h) H.f0, f1 := upd (k := 2) (j := 1) (by decide) (fun h => h) H.f1, f2 := fun _ => rfl, f3 := upd (k := 2) (j := 3) (by decide) (fun h => h) H.f3, f4 := upd (k := 2) (j := 4) (by decide) (fun h => h) H.f4, f5 := upd (k := 2) (j := 5) (by decide) (fun h => h) H.f5, f6 := upd (k := 2) (j := 6) (by decide) (fun h => h) H.f6, f7 := upd (k := 2) (j := 7) (by decide) (fun h => h) H.f7, f8 := upd (k := 2) (j := 8) (by decide) (fun h => h) H.f8, f9 := upd (k := 2) (j := 9) (by decide) (fun h => h) H.f9, f10 := upd (k := 2) (j := 10) (by decide) (fun h => h) H.f10, f11 := upd (k := 2) (j := 11) (by decide) (fun h => h) H.f11, f12 := upd (k := 2) (j := 12) (by decide) (fun h => h) H.f12, f13 := upd (k := 2) (j := 13) (by decide) (fun h => h) H.f13, f14 := upd (k := 2) (j := 14) (by decide) (fun h => h) H.f14, f15 := upd (k := 2) (j := 15) (by decide) (fun h => h) H.f15, f16 := upd (k := 2) (j := 16) (by decide) (fun h => h) H.f16, p1 := upd (k := 2) (j := 17) (by decide) (fun h => h) H.p1, p2 := upd (k := 2) (j := 18) (by decide) (fun h => h) H.p2, p3 := upd (k := 2) (j := 19) (by decide) (fun h => h) H.p3, s1 := upd (k := 2) (j := 20) (by decide) (fun h => ⟨set_mono h.1, h.2⟩) H.s1, s2 := upd (k := 2) (j := 21) (by decide) (fun h => ⟨set_mono h.1, h.2⟩) H.s2, s3 := upd (k := 2) (j := 22) (by decide) (fun h => ⟨set_mono h.1, h.2⟩) H.s3, d12 := fun h h' => H.d12 (by rw [getD_set_ne false (by decide)] at h; exact h) (by rw [getD_set_ne false (by decide)] at h'; exact h'), d13 := fun h h' => H.d13 (by rw [getD_set_ne false (by decide)] at h; exact h) (by rw [getD_set_ne false (by decide)] at h'; exact h'), d23 := fun h h' => H.d23 (by rw [getD_set_ne false (by decide)] at h; exact h) (by rw [getD_set_ne false (by decide)] at h'; exact h') }⟩
      · obtain ⟨x9, x10, x11, x35, x36, x37, x38, x39, x40, x41, x42, x43, x44, x45, x46, x47, x48, x49, x50, x51, q1, q2, q3, rfl, H⟩ := hI
        have hd := ready_depL hi rfl
        have d0 : listed.getD 0 false = true := hd ⟨0, .data⟩ (by simp) (by rfl)
        have d2 : listed.getD 2 false = true := hd ⟨2, .data⟩ (by simp) (by rfl)
        clear hd
        clear hi
        obtain rfl := H.f0 d0
        obtain rfl := H.f2 d2
        refine wpOp_stepL rfl (fun K hK => ?_)
        rw [if_pos (by rfl)]
        go_simp
        refine ((CX).out wx).mono ?_
        rintro e w' ⟨rfl, hb⟩
        exact hK _ _ ⟨x9, x10, x11, _, x36, _, _, x39, x40, x41, x42, x43, x44, x45, x46, x47, x48, x49, x50, x51, q1, q2, q3, rfl, { size := by simpa using H.size, hw := H.hw.trans (hb.mono H.hw.size), f0 := upd (k := 3) (j := 0) (by decide) (fun h => h) H.f0, f1 := upd (k := 3) (j := 1) (by decide) (fun h => h) H.f1, f2 := upd (k := 3) (j := 2) (by decide) (fun h => h) H.f2, f3 := fun _ => rfl, f4 := upd (k := 3) (j := 4) (by decide) (fun h => h) H.f4, f5 := upd (k := 3) (j := 5) (by decide) (fun h => h) H.f5, f6 := upd (k := 3) (j := 6) (by decide) (fun h => h) H.f6, f7 := upd (k := 3) (j := 7) (by decide) (fun h => h) H.f7, f8 := upd (k := 3) (j := 8) (by decide) (fun h => h) H.f8, f9 := upd (k := 3) (j := 9) (by decide) (fun h => h) H.f9, f10 := upd (k := 3) (j := 10) (by decide) (fun h => h) H.f10, f11 := upd (k := 3) (j := 11) (by decide) (fun h => h) H.f11, f12 := upd (k := 3) (j := 12) (by decide) (fun h => h) H.f12, f13 := upd (k := 3) (j := 13) (by decide) (fun h => h) H.f13, f14 := upd (k := 3) (j := 14) (by decide) (fun h => h) H.f14, f15 := upd (k := 3) (j := 15) (by decide) (fun h => h) H.f15, f16 := upd (k := 3) (j := 16) (by decide) (fun h => h) H.f16, p1 := upd (k := 3) (j := 17) (by decide) (fun ⟨h1, h2, s0, s1, s2, s3, hA⟩ => ⟨h1, h2, s0, s1, s2, s3, hA.keep hb⟩) H.p1, p2 := upd (k := 3) (j := 18) (by decide) (fun ⟨h1, h2, s0, s1, s2, s3, hA⟩ => ⟨h1, h2, s0, s1, s2, s3, hA.keep hb⟩) H.p2, p3 := upd (k := 3) (j := 19) (by decide) (fun ⟨h1, h2, s0, s1, hA⟩ => ⟨h1, h2, s0, s1, hA.keep hb⟩) H.p3, s1 := upd (k := 3) (j := 20) (by decide) (fun h => ⟨set_mono h.1, h.2.keep hb⟩) H.s1, s2 := upd (k := 3) (j := 21) (by decide) (fun h => ⟨set_mono h.1, h.2.keep hb⟩) H.s2, s3 := upd (k := 3) (j := 22) (by decide) (fun h => ⟨set_mono h.1, h.2.keep hb⟩) H.s3, d12 := fun h h' => H.d12 (by rw [getD_set_ne false (by decide)] at h; exact h) (by rw [getD_set_ne false (by decide)] at h'; exact h'), d13 := fun h h' => H.d13 (by rw [getD_set_ne false (by decide)] at h; exact h) (by rw [getD_set_ne false (by decide)] at h'; exact h'), d23 := fun h h' => H.d23 (by rw [getD_set_ne false (by decide)] at h; exact h) (by rw [getD_set_ne false (by decide)] at h'; exact h') }⟩
      · obtain ⟨x9, x10, x11, x35, x36, x37, x38, x39, x40, x41, x42, x43, x44, x45, x46, x47, x48, x49, x50, x51, q1, q2, q3, rfl, H⟩ := hI
        clear hi
        refine wpOp_stepL rfl (fun K hK => ?_)
        obtain ⟨B0, B1, B2, B3, -, -, -, -, -⟩ := B.keep H.hw
        rw [if_pos (by rfl)]
        go_simp
        exact hK _ _ ⟨x9, x10, x11, x35, x36, x37, x38, _, x40, x41, x42, x43, x44, x45, x46, x47, x48, x49, x50, x51, q1, q2, q3, rfl, { size := by simpa using H.size, hw := H.hw, f0 := upd (k := 4) (j := 0) (by decide) (fun h => h) H.f0, f1 := upd (k := 4) (j := 1) (by decide) (fun h => h) H.f1, f2 := upd (k := 4) (j := 2) (by decide) (fun h => h) H.f2, f3 := upd (k := 4) (j := 3) (by decide) (fun h => h) H.f3, f4 := fun _ => rfl, f5 := upd (k := 4) (j := 5) (by decide) (fun h => h) H.f5, f6 := upd (k := 4) (j := 6) (by decide) (fun h => h) H.f6, f7 := upd (k := 4) (j := 7) (by decide) (fun h => h) H.f7, f8 := upd (k := 4) (j := 8) (by decide) (fun h => h) H.f8, f9 := upd (k := 4) (j := 9) (by decide) (fun h => h) H.f9, f10 := upd (k := 4) (j := 10) (by decide) (fun h => h) H.f10, f11 := upd (k := 4) (j := 11) (by decide) (fun h => h) H.f11, f12 := upd (k := 4) (j := 12) (by decide) (fun h => h) H.f12, f13 := upd (k := 4) (j := 13) (by decide) (fun h => h) H.f13, f14 := upd (k := 4) (j := 14) (by decide) (fun h => h) H.f14, f15 := upd (k := 4) (j := 15) (by decide) (fun h => h) H.f15, f16 := upd (k := 4) (j := 16) (by decide) (fun h => h) H.f16, p1 := upd (k := 4) (j := 17) (by decide) (fun h => h) H.p1, p2 := upd (k := 4) (j := 18) (by decide) (fun h => h) H.p2, p3 := upd (k := 4) (j := 19) (by decide) (fun h => h) H.p3, s1 := upd (k := 4) (j := 20) (by decide) (fun h => ⟨set_mono h.1, h.2⟩) H.s1, s2 := upd (k := 4) (j := 21) (by decide) (fun h => ⟨set_mono h.1, h.2⟩) H.s2, s3 := upd (k := 4) (j := 22) (by decide) (fun h => ⟨set_mono h.1, h.2⟩) H.s3, d12 := fun h h' => H.d12 (by rw [getD_set_ne false (by decide)] at h; exact h) (by rw [getD_set_ne false (by decide)] at h'; exact h'), d13 := fun h h' => H.d13 (by rw [getD_set_ne false (by decide)] at h; exact h) (by rw [getD_set_ne false (by decide)] at h'; exact h'), d23 := fun h h' => H.d23 (by rw [getD_set_ne false (by decide)] at h; exact h) (by rw [getD_set_ne false (by decide)] at h'; exact h') }⟩
      · obtain ⟨x9, x10, x11, x35, x36, x37, x38, x39, x40, x41, x42, x43, x44, x45, x46, x47, x48, x49, x50, x51, q1, q2, q3, rfl, H⟩ := hI
        clear hi
        refine wpOp_stepL rfl (fun K hK => ?_)
        rw [if_pos (by rfl)]
        go_simp
        exact hK _ _ ⟨x9, x10, x11, x35, x36, x37, x38, x39, _, x41, x42, x43, x44, x45, x46, x47, x48, x49, x50, x51, q1, q2, q3, rfl, { size := by simpa using H.size, hw := H.hw, f0 := upd (k := 5) (j := 0) (by decide) (fun h => h) H.f0, f1 := upd (k := 5) (j := 1) (by decide) (fun h => h) H.f1, f2 := upd (k := 5) (j := 2) (by decide) (fun h => h) H.f2, f3 := upd (k := 5) (j := 3) (by decide) (fun h => h) H.f3, f4 := upd (k := 5) (j := 4) (by decide) (fun h => h) H.f4, f5 := fun _ => rfl, f6 := upd (k := 5) (j := 6) (by decide) (fun h => h) H.f6, f7 := upd (k := 5) (j := 7) (by decide) (fun h => h) H.f7, f8 := upd (k := 5) (j := 8) (by decide) (fun h => h) H.f8, f9 := upd (k := 5) (j := 9) (by decide) (fun h => h) H.f9, f10 := upd (k := 5) (j := 10) (by decide) (fun h => h) H.f10, f11 := upd (k := 5) (j := 11) (by decide) (fun h => h) H.f11, f12 := upd (k := 5) (j := 12) (by decide) (fun h => h) H.f12, f13 := upd (k := 5) (j := 13) (by decide) (fun h => h) H.f13, f14 := upd (k := 5) (j := 14) (by decide) (fun h => h) H.f14, f15 := upd (k := 5) (j := 15) (by decide) (fun h => h) H.f15, f16 := upd (k := 5) (j := 16) (by decide) (fun h => h) H.f16, p1 := upd (k := 5) (j := 17) (by decide) (fun h => h) H.p1, p2 := upd (k := 5) (j := 18) (by decide) (fun h => h) H.p2, p3 := upd (k := 5) (j := 19) (by decide) (fun h => h) H.p3, s1 := upd (k := 5) (j := 20) (by decide) (fun h => ⟨set_mono h.1, h.2⟩) H.s1, s2 := upd (k := 5) (j := 21) (by decide) (fun h => ⟨set_mono h.1, h.2⟩) H.s2, s3 := upd (k := 5) (j := 22) (by decide) (fun h => ⟨set_mono h.1, h.2⟩) H.s3, d12 := fun h h' => H.d12 (by rw [getD_set_ne false (by decide)] at h; exact h) (by rw [getD_set_ne false (by decide)] at h'; exact h'), d13 := fun h h' => H.d13 (by rw [getD_set_ne false (by decide)] at h; exact h) (by rw [getD_set_ne false (by decide)] at h'; exact h'), d23 := fun h h' => H.d23 (by rw [getD_set_ne false (by decide)] at h; exact h) (by rw [getD_set_ne false (by decide)] at h'; exact h') }⟩
      · obtain ⟨x9, x10, x11, x35, x36, x37, x38, x39, x40, x41, x42, x43, x44, x45, x46, x47, x48, x49, x50, x51, q1, q2, q3, rfl, H⟩ := hI
        have hd := ready_depL hi rfl
        have d5 : listed.getD 5 false = true := hd ⟨5, .data⟩ (by simp) (by rfl)
        clear hd
        clear hi
        obtain rfl := H.f5 d5
        refine wpOp_stepL rfl (fun K hK => ?_)
        rw [if_pos (by rfl)]
        go_simp
        exact hK _ _ ⟨x9, x10, x11, x35, x36, x37, x38, x39, _, _, x42, x43, x44, x45, x46, x47, x48, x49, x50, x51, q1, q2, q3, rfl, { size := by simpa using H.size, hw := H.hw, f0 := upd (k := 6) (j := 0) (by decide) (fun h => h) H.f0, f1 := upd (k := 6) (j := 1) (by decide) (fun h => h) H.f1, f2 := upd (k := 6) (j := 2) (by decide) (fun h => h) H.f2, f3 := upd (k := 6) (j := 3) (by decide) (fun h => h) H.f3, f4 := upd (k := 6) (j := 4) (by decide) (fun h => h) H.f4, f5 := upd (k := 6) (j := 5) (by decide) (fun h => h) H.f5, f6 := fun _ => rfl, f7 := upd (k := 6) (j := 7) (by decide) (fun h => h) H.f7, f8 := upd (k := 6) (j := 8) (by decide) (fun h => h) H.f8, f9 := upd (k := 6) (j := 9) (by decide) (fun h => h) H.f9, f10 := upd (k := 6) (j := 10) (by decide) (fun h => h) H.f10, f11 := upd (k := 6) (j := 11) (by decide) (fun h => h) H.f11, f12 := upd (k := 6) (j := 12) (by decide) (fun h => h) H.f12, f13 := upd (k := 6) (j := 13) (by decide) (fun h => h) H.f13, f14 := upd (k := 6) (j := 14) (by decide) (fun h => h) H.f14, f15 := upd (k := 6) (j := 15) (by decide) (fun h => h) H.f15, f16 := upd (k := 6) (j := 16) (by decide) (fun h => h) H.f16, p1 := upd (k := 6) (j := 17) (by decide) (fun h => h) H.p1, p2 := upd (k := 6) (j := 18) (by decide) (fun h => h) H.p2, p3 := upd (k := 6) (j := 19) (by decide) (fun h => h) H.p3, s1 := upd (k := 6) (j := 20) (by decide) (fun h => ⟨set_mono h.1, h.2⟩) H.s1, s2 := upd (k := 6) (j := 21) (by decide) (fun h => ⟨set_mono h.1, h.2⟩) H.s2, s3 := upd (k := 6) (j := 22) (by decide) (fun h => ⟨set_mono h.1, h.2⟩) H.s3, d12 := fun h h' => H.d12 (by rw [getD_set_ne false (by decide)] at h; exact h) (by rw [getD_set_ne false (by decide)] at h'; exact h'), d13 := fun h h' => H.d13 (by rw [getD_set_ne false (by decide)] at h; exact h) (by rw [getD_set_ne false (by decide)] at h'; exact h'), d23 := fun h h' => H.d23 (by rw [getD_set_ne false (by decide)] at h; exact h) (by rw [getD_set_ne false (by decide)] at h'; exact h') }⟩
      · obtain ⟨x9, x10, x11, x35, x36, x37, x38, x39, x40, x41, x42, x43, x44, x45, x46, x47, x48, x49, x50, x51, q1, q2, q3, rfl, H⟩ := hI
        have hd := ready_depL hi rfl
        have d4 : listed.getD 4 false = true := hd ⟨4, .data⟩ (by simp) (by rfl)
        have d6 : listed.getD 6 false = true := hd ⟨6, .data⟩ (by simp) (by rfl)
        clear hd
        clear hi
        obtain rfl := H.f4 d4
        obtain rfl := H.f6 d6
        refine wpOp_stepL rfl (fun K hK => ?_)
        rw [if_pos (by rfl)]
        go_simp
        refine ((CY).out wx).mono ?_
        rintro e w' ⟨rfl, hb⟩
        exact hK _ _ ⟨x9, x10, x11, x35, x36, x37, x38, _, x40, _, _, x43, x44, x45, x46, x47, x48, x49, x50, x51, q1, q2, q3, rfl, { size := by simpa using H.size, hw := H.hw.trans (hb.mono H.hw.size), f0 := upd (k := 7) (j := 0) (by decide) (fun h => h) H.f0, f1 := upd (k := 7) (j := 1) (by decide) (fun h => h) H.f1, f2 := upd (k := 7) (j := 2) (by decide) (fun h => h) H.f2, f3 := upd (k := 7) (j := 3) (by decide) (fun h => h) H.f3, f4 := upd (k := 7) (j := 4) (by decide) (fun h => h) H.f4, f5 := upd (k := 7) (j := 5) (by decide) (fun h => h) H.f5, f6 := upd (k := 7) (j := 6) (by decide) (fun h => h) H.f6, f7 := fun _ => rfl, f8 := upd (k := 7) (j := 8) (by decide) (fun h => h) H.f8, f9 := upd (k := 7) (j := 9) (by decide) (fun h => h) H.f9, f10 := upd (k := 7) (j := 10) (by decide) (fun h => h) H.f10, f11 := upd (k := 7) (j := 11) (by decide) (fun h => h) H.f11, f12 := upd (k := 7) (j := 12) (by decide) (fun h => h) H.f12, f13 := upd (k := 7) (j := 13) (by decide) (fun h => h) H.f13, f14 := upd (k := 7) (j := 14) (by decide) (fun h => h) H.f14, f15 := upd (k := 7) (j := 15) (by decide) (fun h => h) H.f15, f16 := upd (k := 7) (j := 16) (by decide) (fun h => h) H.f16, p1 := upd (k := 7) (j := 17) (by decide) (fun ⟨h1, h2, s0, s1, s2, s3, hA⟩ => ⟨h1, h2, s0, s1, s2, s3, hA.keep hb⟩) H.p1, p2 := upd (k := 7) (j := 18) (by decide) (fun ⟨h1, h2, s0, s1, s2, s3, hA⟩ => ⟨h1, h2, s0, s1, s2, s3, hA.keep hb⟩) H.p2, p3 := upd (k := 7) (j := 19) (by decide) (fun ⟨h1, h2, s0, s1, hA⟩ => ⟨h1, h2, s0, s1, hA.keep hb⟩) H.p3, s1 := upd (k := 7) (j := 20) (by decide) (fun h => ⟨set_mono h.1, h.2.keep hb⟩) H.s1, s2 := upd (k := 7) (j := 21) (by decide) (fun h => ⟨set_mono h.1, h.2.keep hb⟩) H.s2, s3 := upd (k := 7) (j := 22) (by decide) (fun h => ⟨set_mono h.1, h.2.keep hb⟩) H.s3, d12 := fun h h' => H.d12 (by rw [getD_set_ne false (by decide)] at h; exact h) (by rw [getD_set_ne false (by decide)] at h'; exact h'), d13 := fun h h' => H.d13 (by rw [getD_set_ne false (by decide)] at h; exact h) (by rw [getD_set_ne false (by decide)] at h'; exact h'), d23 := fun h h' => H.d23 (by rw [getD_set_ne false (by decide)] at h; exact h) (by rw [getD_set_ne false (by decide)] at h'; exact h') }⟩
      · obtain ⟨x9, x10, x11, x35, x36, x37, x38, x39, x40, x41, x42, x43, x44, x45, x46, x47, x48, x49, x50, x51, q1, q2, q3, rfl, H⟩ := hI
        clear hi
        refine wpOp_stepL rfl (fun K hK => ?_)
        rw [if_pos (by rfl)]
        go_simp
        exact hK _ _ ⟨x9, x10, x11, x35, x36, x37, x38, x39, x40, x41, x42, _, x44, x45, x46, x47, x48, x49, x50, x51, q1, q2, q3, rfl, { size := by simpa using H.size, hw := H.hw, f0 := upd (k := 8) (j := 0) (by decide) (fun h => h) H.f0, f1 := upd (k := 8) (j := 1) (by decide) (fun h => h) H.f1, f2 := upd (k := 8) (j := 2) (by decide) (fun h => h) H.f2, f3 := upd (k := 8) (j := 3) (by decide) (fun h => h) H.f3, f4 := upd (k := 8) (j := 4) (by decide) (fun h => h) H.f4, f5 := upd (k := 8) (j := 5) (by decide) (fun h => h) H.f5, f6 := upd (k := 8) (j := 6) (by decide) (fun h => h) H.f6, f7 := upd (k := 8) (j := 7) (by decide) (fun h => h) H.f7, f8 := fun _ => rfl, f9 := upd (k := 8) (j := 9) (by decide) (fun h => h) H.f9, f10 := upd (k := 8) (j := 10) (by decide) (fun h => h) H.f10, f11 := upd (k := 8) (j := 11) (by decide) (fun h => h) H.f11, f12 := upd (k := 8) (j := 12) (by decide) (fun h => h) H.f12, f13 := upd (k := 8) (j := 13) (by decide) (fun h => h) H.f13, f14 := upd (k := 8) (j := 14) (by decide) (fun h => h) H.f14, f15 := upd (k := 8) (j := 15) (by decide) (fun h => h) H.f15, f16 := upd (k := 8) (j := 16) (by decide) (fun h => h) H.f16, p1 := upd (k := 8) (j := 17) (by decide) (fun h => h) H.p1, p2 := upd (k := 8) (j := 18) (by decide) (fun h => h) H.p2, p3 := upd (k := 8) (j := 19) (by decide) (fun h => h) H.p3, s1 := upd (k := 8) (j := 20) (by decide) (fun h => ⟨set_mono h.1, h.2⟩) H.s1, s2 := upd (k := 8) (j := 21) (by decide) (fun h => ⟨set_mono h.1, h.2⟩) H.s2, s3 := upd (k := 8) (j := 22) (by decide) (fun h => ⟨set_mono h.1, h.2⟩) H.s3, d12 := fun h h' => H.d12 (by rw [getD_set_ne false (by decide)] at h; exact h) (by rw [getD_set_ne false (by decide)] at h'; exact h'), d13 := fun h h' => H.d13 (by rw [getD_set_ne false (by decide)] at h; exact h) (by rw [getD_set_ne false (by decide)] at h'; exact h'), d23 := fun h h' => H.d23 (by rw [getD_set_ne false (by decide)] at h; exact h) (by rw [getD_set_ne false (by decide)] at h'; exact h') }⟩
      · obtain ⟨x9, x10, x11, x35, x36, x37, x38, x39, x40, x41, x42, x43, x44, x45, x46, x47, x48, x49, x50, x51, q1, q2, q3, rfl, H⟩ := hI
        have hd := ready_depL hi rfl
        have d8 : listed.getD 8 false = true := hd ⟨8, .data⟩ (by simp) (by rfl)
        clear hd
        clear hi
        obtain rfl := H.f8 d8
        refine wpOp_stepL rfl (fun K hK => ?_)
        obtain ⟨Q0, Q1, -, -, -⟩ := Q.keep H.hw
        rw [if_pos (by rfl)]
        go_simp
        exact hK _ _ ⟨x9, x10, x11, x35, x36, x37, x38, x39, x40, x41, x42, _, _, x45, x46, x47, x48, x49, x50, x51, q1, q2, q3, rfl, { size := by simpa using H.size, hw := H.hw, f0 := upd (k := 9) (j := 0) (by decide) (fun h => h) H.f0, f1 := upd (k := 9) (j := 1) (by decide) (fun h => h) H.f1, f2 := upd (k := 9) (j := 2) (by decide) (fun h => h) H.f2, f3 := upd (k := 9) (j := 3) (by decide) (fun h => h) H.f3, f4 := upd (k := 9) (j := 4) (by decide) (fun h => h) H.f4, f5 := upd (k := 9) (j := 5) (by decide) (fun h => h) H.f5, f6 := upd (k := 9) (j := 6) (by decide) (fun h => h) H.f6, f7 := upd (k := 9) (j := 7) (by decide) (fun h => h) H.f7, f8 := upd (k := 9) (j := 8) (by decide) (fun h => h) H.f8, f9 := fun _ => rfl, f10 := upd (k := 9) (j := 10) (by decide) (fun h => h) H.f10, f11 := upd (k := 9) (j := 11) (by decide) (fun h => h) H.f11, f12 := upd (k := 9) (j := 12) (by decide) (fun h => h) H.f12, f13 := upd (k := 9) (j := 13) (by decide) (fun h => h) H.f13, f14 := upd (k := 9) (j := 14) (by decide) (fun h => h) H.f14, f15 := upd (k := 9) (j := 15) (by decide) (fun h => h) H.f15, f16 := upd (k := 9) (j := 16) (by decide) (fun h => h) H.f16, p1 := upd (k := 9) (j := 17) (by decide) (fun h => h) H.p1, p2 := upd (k := 9) (j := 18) (by decide) (fun h => h) H.p2, p3 := upd (k := 9) (j := 19) (by decide) (fun h => h) H.p3, s1 := upd (k := 9) (j := 20) (by decide) (fun h => ⟨set_mono h.1, h.2⟩) H.s1, s2 := upd (k := 9) (j := 21) (by decide) (fun h => ⟨set_mono h.1, h.2⟩) H.s2, s3 := upd (k := 9) (j := 22) (by decide) (fun h => ⟨set_mono h.1, h.2⟩) H.s3, d12 := fun h h' => H.d12 (by rw [getD_set_ne false (by decide)] at h; exact h) (by rw [getD_set_ne false (by decide)] at h'; exact h'), d13 := fun h h' => H.d13 (by rw [getD_set_ne false (by decide)] at h; exact h) (by rw [getD_set_ne false (by decide)] at h'; exact h'), d23 := fun h h' => H.d23 (by rw [getD_set_ne false (by decide)] at h; exact h) (by rw [getD_set_ne false (by decide)] at h'; exact h') }⟩
      · obtain ⟨x9, x10, x11, x35, x36, x37, x38, x39, x40, x41, x42, x43, x44, x45, x46, x47, x48, x49, x50, x51, q1, q2, q3, rfl, H⟩ := hI
        clear hi
        refine wpOp_stepL rfl (fun K hK => ?_)
        rw [if_pos (by rfl)]
        go_simp
        exact hK _ _ ⟨x9, x10, x11, x35, x36, x37, x38, x39, x40, x41, x42, x43, x44, _, x46, x47, x48, x49, x50, x51, q1, q2, q3, rfl, { size := by simpa using H.size, hw := H.hw, f0 := upd (k := 10) (j := 0) (by decide) (fun h => h) H.f0, f1 := upd (k := 10) (j := 1) (by decide) (fun h => h) H.f1, f2 := upd (k := 10) (j := 2) (by decide) (fun h => h) H.f2, f3 := upd (k := 10) (j := 3) (by decide) (fun h => h) H.f3, f4 := upd (k := 10) (j := 4) (by decide) (fun h => h) H.f4, f5 := upd (k := 10) (j := 5) (by decide) (fun h => h) H.f5, f6 := upd (k := 10) (j := 6) (by decide) (fun h => h) H.f6, f7 := upd (k := 10) (j := 7) (by decide) (fun h => h) H.f7, f8 := upd (k := 10) (j := 8) (by decide) (fun h => h) H.f8, f9 := upd (k := 10) (j := 9) (by decide) (fun h => h) H.f9, f10 := fun _ => rfl, f11 := upd (k := 10) (j := 11) (by decide) (fun h => h) H.f11, f12 := upd (k := 10) (j := 12) (by decide) (fun h => h) H.f12, f13 := upd (k := 10) (j := 13) (by decide) (fun h => h) H.f13, f14 := upd (k := 10) (j := 14) (by decide) (fun h => h) H.f14, f15 := upd (k := 10) (j := 15) (by decide) (fun h => h) H.f15, f16 := upd (k := 10) (j := 16) (by decide) (fun h => h) H.f16, p1 := upd (k := 10) (j := 17) (by decide) (fun h => h) H.p1, p2 := upd (k := 10) (j := 18) (by decide) (fun h => h) H.p2, p3 := upd (k := 10) (j := 19) (by decide) (fun h => h) H.p3, s1 := upd (k := 10) (j := 20) (by decide) (fun h => ⟨set_mono h.1, h.2⟩) H.s1, s2 := upd (k := 10) (j := 21) (by decide) (fun h => ⟨set_mono h.1, h.2⟩) H.s2, s3 := upd (k := 10) (j := 22) (by decide) (fun h => ⟨set_mono h.1, h.2⟩) H.s3, d12 := fun h h' => H.d12 (by rw [getD_set_ne false (by decide)] at h; exact h) (by rw [getD_set_ne false (by decide)] at h'; exact h'), d13 := fun h h' => H.d13 (by rw [getD_set_ne false (by decide)] at h; exact h) (by rw [getD_set_ne false (by decide)] at h'; exact h'), d23 := fun h h' => H.d23 (by rw [getD_set_ne false (by decide)] at h; exact h) (by rw [getD_set_ne false (by decide)] at h'; exact h') }⟩
      · obtain ⟨x9, x10, x11, x35, x36, x37, x38, x39, x40, x41, x42, x43, x44, x45, x46, x47, x48, x49, x50, x51, q1, q2, q3, rfl, H⟩ := hI
        have hd := ready_depL hi rfl
        have d10 : listed.getD 10 false = true := hd ⟨10, .data⟩ (by simp) (by rfl)
        clear hd
        clear hi
        obtain rfl := H.f10 d10
        refine wpOp_stepL rfl (fun K hK => ?_)
        obtain ⟨Q0, Q1, -, -, -⟩ := Q.keep H.hw
        rw [if_pos (by rfl)]
        go_simp
        exact hK _ _ ⟨x9, x10, x11, x35, x36, x37, x38, x39, x40, x41, x42, x43, x44, _, _, x47, x48, x49, x50, x51, q1, q2, q3, rfl, { size := by simpa using H.size, hw := H.hw, f0 := upd (k := 11) (j := 0) (by decide) (fun h => h) H.f0, f1 := upd (k := 11) (j := 1) (by decide) (fun h => h) H.f1, f2 := upd (k := 11) (j := 2) (by decide) (fun h => h) H.f2, f3 := upd (k := 11) (j := 3) (by decide) (fun h => h) H.f3, f4 := upd (k := 11) (j := 4) (by decide) (fun h => h) H.f4, f5 := upd (k := 11) (j := 5) (by decide) (fun h => h) H.f5, f6 := upd (k := 11) (j := 6) (by decide) (fun h => h) H.f6, f7 := upd (k := 11) (j := 7) (by decide) (fun h => h) H.f7, f8 := upd (k := 11) (j := 8) (by decide) (fun h => h) H.f8, f9 := upd (k := 11) (j := 9) (by decide) (fun h => h) H.f9, f10 := upd (k := 11) (j := 10) (by decide) (fun h => h) H.f10, f11 := fun _ => rfl, f12 := upd (k := 11) (j := 12) (by decide) (fun h => h) H.f12, f13 := upd (k := 11) (j := 13) (by decide) (fun h => h) H.f13, f14 := upd (k := 11) (j := 14) (by decide) (fun h => h) H.f14, f15 := upd (k := 11) (j := 15) (by decide) (fun h => h) H.f15, f16 := upd (k := 11) (j := 16) (by decide) (fun h => h) H.f16, p1 := upd (k := 11) (j := 17) (by decide) (fun h => h) H.p1, p2 := upd (k := 11) (j := 18) (by decide) (fun h => h) H.p2, p3 := upd (k := 11) (j := 19) (by decide) (fun h => h) H.p3, s1 := upd (k := 11) (j := 20) (by decide) (fun h => ⟨set_mono h.1, h.2⟩) H.s1, s2 := upd (k := 11) (j := 21) (by decide) (fun h => ⟨set_mono h.1, h.2⟩) H.s2, s3 := upd (k := 11) (j := 22) (by decide) (fun h => ⟨set_mono h.1, h.2⟩) H.s3, d12 := fun h h' => H.d12 (by rw [getD_set_ne false (by decide)] at h; exact h) (by rw [getD_set_ne false (by decide)] at h'; exact h'), d13 := fun h h' => H.d13 (by rw [getD_set_ne false (by decide)] at h; exact h) (by rw [getD_set_ne false (by decide)] at h'; exact h'), d23 := fun h h' => H.d23 (by rw [getD_set_ne false (by decide)] at h; exact h) (by rw [getD_set_ne false (by decide)] at h'; exact h') }⟩
      · obtain ⟨x9, x10, x11, x35, x36, x37, x38, x39, x40, x41, x42, x43, x44, x45, x46, x47, x48, x49, x50, x51, q1, q2, q3, rfl, H⟩ := hI
        clear hi
        refine wpOp_stepL rfl (fun K hK => ?_)
        rw [if_pos (by rfl)]
        go_simp
        exact hK _ _ ⟨x9, x10, x11, x35, x36, x37, x38, x39, x40, x41, x42, x43, x44, x45, x46, _, x48, x49, x50, x51, q1, q2, q3, rfl, { size := by simpa using H.size, hw := H.hw, f0 := upd (k := 12) (j := 0) (by decide) (fun h => h) H.f0, f1 := upd (k := 12) (j := 1) (by decide) (fun h => h) H.f1, f2 := upd (k := 12) (j := 2) (by decide) (fun h => h) H.f2, f3 := upd (k := 12) (j := 3) (by decide) (fun h => h) H.f3, f4 := upd (k := 12) (j := 4) (by decide) (fun h => h) H.f4, f5 := upd (k := 12) (j := 5) (by decide) (fun h => h) H.f5, f6 := upd (k := 12) (j := 6) (by decide) (fun h => h) H.f6, f7 := upd (k := 12) (j := 7) (by decide) (fun h => h) H.f7, f8 := upd (k := 12) (j := 8) (by decide) (fun h => h) H.f8, f9 := upd (k := 12) (j := 9) (by decide) (fun h => h) H.f9, f10 := upd (k := 12) (j := 10) (by decide) (fun h => h) H.f10, f11 := upd (k := 12) (j := 11) (by decide) (fun h => h) H.f11, f12 := fun _ => rfl, f13 := upd (k := 12) (j := 13) (by decide) (fun h => h) H.f13, f14 := upd (k := 12) (j := 14) (by decide) (fun h => h) H.f14, f15 := upd (k := 12) (j := 15) (by decide) (fun h => h) H.f15, f16 := upd (k := 12) (j := 16) (by decide) (fun h => h) H.f16, p1 := upd (k := 12) (j := 17) (by decide) (fun h => h) H.p1, p2 := upd (k := 12) (j := 18) (by decide) (fun h => h) H.p2, p3 := upd (k := 12) (j := 19) (by decide) (fun h => h) H.p3, s1 := upd (k := 12) (j := 20) (by decide) (fun h => ⟨set_mono h.1, h.2⟩) H.s1, s2 := upd (k := 12) (j := 21) (by decide) (fun h => ⟨set_mono h.1, h.2⟩) H.s2, s3 := upd (k := 12) (j := 22) (by decide) (fun h => ⟨set_mono h.1, h.2⟩) H.s3, d12 := fun h h' => H.d12 (by rw [getD_set_ne false (by decide)] at h; exact h) (by rw [getD_set_ne false (by decide)] at h'; exact h'), d13 := fun h h' => H.d13 (by rw [getD_set_ne false (by decide)] at h; exact h) (by rw [getD_set_ne false (by decide)] at h'; exact h'), d23 := fun h h' => H.d23 (by rw [getD_set_ne false (by decide)] at h; exact h) (by rw [getD_set_ne false (by decide)] at h'; exact h') }⟩
      · obtain ⟨x9, x10, x11, x35, x36, x37, x38, x39, x40, x41, x42, x43, x44, x45, x46, x47, x48, x49, x50, x51, q1, q2, q3, rfl, H⟩ := hI
        have hd := ready_depL hi rfl
        have d12 : listed.getD 12 false = true := hd ⟨12, .data⟩ (by simp) (by rfl)
        clear hd
        clear hi
        obtain rfl := H.f12 d12
        refine wpOp_stepL rfl (fun K hK => ?_)
        rw [if_pos (by rfl)]
        go_simp
        exact hK _ _ ⟨x9, x10, x11, x35, x36, x37, x38, x39, x40, x41, x42, x43, x44, x45, x46, _, _, x49, x50, x51, q1, q2, q3, rfl, { size := by simpa using H.size, hw := H.hw, f0 := upd (k := 13) (j := 0) (by decide) (fun h => h) H.f0, f1 := upd (k := 13) (j := 1) (by decide) (fun h => h) H.f1, f2 := upd (k := 13) (j := 2) (by decide) (fun h => h) H.f2, f3 := upd (k := 13) (j := 3) (by decide) (fun h => h) H.f3, f4 := upd (k := 13) (j := 4) (by decide) (fun h => h) H.f4, f5 := upd (k := 13) (j := 5) (by decide) (fun h => h) H.f5, f6 := upd (k := 13) (j := 6) (by decide) (fun h => h) H.f6, f7 := upd (k := 13) (j := 7) (by decide) (fun h => h) H.f7, f8 := upd (k := 13) (j := 8) (by decide) (fun h => h) H.f8, f9 := upd (k := 13) (j := 9) (by decide) (fun h => h) H.f9, f10 := upd (k := 13) (j := 10) (by decide) (fun h => h) H.f10, f11 := upd (k := 13) (j := 11) (by decide) (fun h => h) H.f11, f12 := upd (k := 13) (j := 12) (by decide) (fun h => h) H.f12, f13 := fun _ => rfl, f14 := upd (k := 13) (j := 14) (by decide) (fun h => h) H.f14, f15 := upd (k := 13) (j := 15) (by decide) (fun h => h) H.f15, f16 := upd (k := 13) (j := 16) (by decide) (fun h => h) H.f16, p1 := upd (k := 13) (j := 17) (by decide) (fun h => h) H.p1, p2 := upd (k := 13) (j := 18) (by decide) (fun h => h) H.p2, p3 := upd (k := 13) (j := 19) (by decide) (fun h => h) H.p3, s1 := upd (k := 13) (j := 20) (by decide) (fun h => ⟨set_mono h.1, h.2⟩) H.s1, s2 := upd (k := 13) (j := 21) (by decide) (fun h => ⟨set_mono h.1, h.2⟩) H.s2, s3 := upd (k := 13) (j := 22) (by decide) (fun h => ⟨set_mono h.1, h.2⟩) H.s3, d12 := fun h h' => H.d12 (by rw [getD_set_ne false (by decide)] at h; exact h) (by rw [getD_set_ne false (by decide)] at h'; exact h'), d13 := fun h h' => H.d13 (by rw [getD_set_ne false (by decide)] at h; exact h) (by rw [getD_set_ne false (by decide)] at h'; exact h'), d23 := fun h h' => H.d23 (by rw [getD_set_ne false (by decide)] at h; exact h) (by rw [getD_set_ne false (by decide)] at h'; exact h') }⟩
      · obtain ⟨x9, x10, x11, x35, x36, x37, x38, x39, x40, x41, x42, x43, x44, x45, x46, x47, x48, x49, x50, x51, q1, q2, q3, rfl, H⟩ := hI
        have hd := ready_depL hi rfl
        have d11 : listed.getD 11 false = true := hd ⟨11, .data⟩ (by simp) (by rfl)
        have d13 : listed.getD 13 false = true := hd ⟨13, .data⟩ (by simp) (by rfl)
        clear hd
        clear hi
        obtain rfl := H.f11 d11
        obtain rfl := H.f13 d13
        refine wpOp_stepL rfl (fun K hK => ?_)
        rw [if_pos (by rfl)]
        go_simp
        exact hK _ _ ⟨x9, x10, x11, x35, x36, x37, x38, x39, x40, x41, x42, x43, x44, x45, _, x47, _, _, x50, x51, q1, q2, q3, rfl, { size := by simpa using H.size, hw := H.hw, f0 := upd (k := 14) (j := 0) (by decide) (fun h => h) H.f0, f1 := upd (k := 14) (j := 1) (by decide) (fun h => h) H.f1, f2 := upd (k := 14) (j := 2) (by decide) (fun h => h) H.f2, f3 := upd (k := 14) (j := 3) (by decide) (fun h => h) H.f3, f4 := upd (k := 14) (j := 4) (by decide) (fun h => h) H.f4, f5 := upd (k := 14) (j := 5) (by decide) (fun h => h) H.f5, f6 := upd (k := 14) (j := 6) (by decide) (fun h => h) H.f6, f7 := upd (k := 14) (j := 7) (by decide) (fun h => h) H.f7, f8 := upd (k := 14) (j := 8) (by decide) (fun h => h) H.f8, f9 := upd (k := 14) (j := 9) (by decide) (fun h => h) H.f9, f10 := upd (k := 14) (j := 10) (by decide) (fun h => h) H.f10, f11 := upd (k := 14) (j := 11) (by decide) (fun h => h) H.f11, f12 := upd (k := 14) (j := 12) (by decide) (fun h => h) H.f12, f13 := upd (k := 14) (j := 13) (by decide) (fun h => h) H.f13, f14 := fun _ => rfl, f15 := upd (k := 14) (j := 15) (by decide) (fun h => h) H.f15, f16 := upd (k := 14) (j := 16) (by decide) (fun h => h) H.f16, p1 := upd (k := 14) (j := 17) (by decide) (fun h => h) H.p1, p2 := upd (k := 14) (j := 18) (by decide) (fun h => h) H.p2, p3 := upd (k := 14) (j := 19) (by decide) (fun h => h) H.p3, s1 := upd (k := 14) (j := 20) (by decide) (fun h => ⟨set_mono h.1, h.2⟩) H.s1, s2 := upd (k := 14) (j := 21) (by decide) (fun h => ⟨set_mono h.1, h.2⟩) H.s2, s3 := upd (k := 14) (j := 22) (by decide) (fun h => ⟨set_mono h.1, h.2⟩) H.s3, d12 := fun h h' => H.d12 (by rw [getD_set_ne false (by decide)] at h; exact h) (by rw [getD_set_ne false (by decide)] at h'; exact h'), d13 := fun h h' => H.d13 (by rw [getD_set_ne false (by decide)] at h; exact h) (by rw [getD_set_ne false (by decide)] at h'; exact h'), d23 := fun h h' => H.d23 (by rw [getD_set_ne false (by decide)] at h; exact h) (by rw [getD_set_ne false (by decide)] at h'; exact h') }⟩
      · obtain ⟨x9, x10, x11, x35, x36, x37, x38, x39, x40, x41, x42, x43, x44, x45, x46, x47, x48, x49, x50, x51, q1, q2, q3, rfl, H⟩ := hI
        have hd := ready_depL hi rfl
        have d14 : listed.getD 14 false = true := hd ⟨14, .data⟩ (by simp) (by rfl)
        clear hd
        clear hi
        obtain rfl := H.f14 d14
        refine wpOp_stepL rfl (fun K hK => ?_)
        rw [if_pos (by rfl)]
        go_simp
        refine ((CP).out wx).mono ?_
        rintro e w' ⟨rfl, rfl⟩
        exact hK _ _ ⟨x9, x10, x11, x35, x36, x37, x38, x39, x40, x41, x42, x43, x44, x45, x46, x47, x48, _, _, x51, q1, q2, q3, rfl, { size := by simpa using H.size, hw := H.hw, f0 := upd (k := 15) (j := 0) (by decide) (fun h => h) H.f0, f1 := upd (k := 15) (j := 1) (by decide) (fun h => h) H.f1, f2 := upd (k := 15) (j := 2) (by decide) (fun h => h) H.f2, f3 := upd (k := 15) (j := 3) (by decide) (fun h => h) H.f3, f4 := upd (k := 15) (j := 4) (by decide) (fun h => h) H.f4, f5 := upd (k := 15) (j := 5) (by decide) (fun h => h) H.f5, f6 := upd (k := 15) (j := 6) (by decide) (fun h => h) H.f6, f7 := upd (k := 15) (j := 7) (by decide) (fun h => h) H.f7, f8 := upd (k := 15) (j := 8) (by decide) (fun h => h) H.f8, f9 := upd (k := 15) (j := 9) (by decide) (fun h => h) H.f9, f10 := upd (k := 15) (j := 10) (by decide) (fun h => h) H.f10, f11 := upd (k := 15) (j := 11) (by decide) (fun h => h) H.f11, f12 := upd (k := 15) (j := 12) (by decide) (fun h => h) H.f12, f13 := upd (k := 15) (j := 13) (by decide) (fun h => h) H.f13, f14 := upd (k := 15) (j := 14) (by decide) (fun h => h) H.f14, f15 := fun _ => rfl, f16 := upd (k := 15) (j := 16) (by decide) (fun h => h) H.f16, p1 := upd (k := 15) (j := 17) (by decide) (fun h => h) H.p1, p2 := upd (k := 15) (j := 18) (by decide) (fun h => h) H.p2, p3 := upd (k := 15) (j := 19) (by decide) (fun h => h) H.p3, s1 := upd (k := 15) (j := 20) (by decide) (fun h => ⟨set_mono h.1, h.2⟩) H.s1, s2 := upd (k := 15) (j := 21) (by decide) (fun h => ⟨set_mono h.1, h.2⟩) H.s2, s3 := upd (k := 15) (j := 22) (by decide) (fun h => ⟨set_mono h.1, h.2⟩) H.s3, d12 := fun h h' => H.d12 (by rw [getD_set_ne false (by decide)] at h; exact h) (by rw [getD_set_ne false (by decide)] at h'; exact h'), d13 := fun h h' => H.d13 (by rw [getD_set_ne false (by decide)] at h; exact h) (by rw [getD_set_ne false (by decide)] at h'; exact h'), d23 := fun h h' => H.d23 (by rw [getD_set_ne false (by decide)] at h; exact h) (by rw [getD_set_ne false (by decide)] at h'; exact h') }⟩
      · obtain ⟨x9, x10, x11, x35, x36, x37, x38, x39, x40, x41, x42, x43, x44, x45, x46, x47, x48, x49, x50, x51, q1, q2, q3, rfl, H⟩ := hI
        have hd := ready_depL hi rfl
        have d9 : listed.getD 9 false = true := hd ⟨9, .data⟩ (by simp) (by rfl)
        have d15 : listed.getD 15 false = true := hd ⟨15, .data⟩ (by simp) (by rfl)
        clear hd
        clear hi
        obtain rfl := H.f9 d9
        obtain rfl := H.f15 d15
        refine wpOp_stepL rfl (fun K hK => ?_)
        rw [if_pos (by rfl)]
        go_simp
        exact hK _ _ ⟨x9, x10, x11, x35, x36, x37, x38, x39, x40, x41, x42, x43, _, x45, x46, x47, x48, x49, _, _, q1, q2, q3, rfl, { size := by simpa using H.size, hw := H.hw, f0 := upd (k := 16) (j := 0) (by decide) (fun h => h) H.f0, f1 := upd (k := 16) (j := 1) (by decide) (fun h => h) H.f1, f2 := upd (k := 16) (j := 2) (by decide) (fun h => h) H.f2, f3 := upd (k := 16) (j := 3) (by decide) (fun h => h) H.f3, f4 := upd (k := 16) (j := 4) (by decide) (fun h => h) H.f4, f5 := upd (k := 16) (j := 5) (by decide) (fun h => h) H.f5, f6 := upd (k := 16) (j := 6) (by decide) (fun h => h) H.f6, f7 := upd (k := 16) (j := 7) (by decide) (fun h => h) H.f7, f8 := upd (k := 16) (j := 8) (by decide) (fun h => h) H.f8, f9 := upd (k := 16) (j := 9) (by decide) (fun h => h) H.f9, f10 := upd (k := 16) (j := 10) (by decide) (fun h => h) H.f10, f11 := upd (k := 16) (j := 11) (by decide) (fun h => h) H.f11, f12 := upd (k := 16) (j := 12) (by decide) (fun h => h) H.f12, f13 := upd (k := 16) (j := 13) (by decide) (fun h => h) H.f13, f14 := upd (k := 16) (j := 14) (by decide) (fun h => h) H.f14, f15 := upd (k := 16) (j := 15) (by decide) (fun h => h) H.f15, f16 := fun _ => rfl, p1 := upd (k := 16) (j := 17) (by decide) (fun h => h) H.p1, p2 := upd (k := 16) (j := 18) (by decide) (fun h => h) H.p2, p3 := upd (k := 16) (j := 19) (by decide) (fun h => h) H.p3, s1 := upd (k := 16) (j := 20) (by decide) (fun h => ⟨set_mono h.1, h.2⟩) H.s1, s2 := upd (k := 16) (j := 21) (by decide) (fun h => ⟨set_mono h.1, h.2⟩) H.s2, s3 := upd (k := 16) (j := 22) (by decide) (fun h => ⟨set_mono h.1, h.2⟩) H.s3, d12 := fun h h' => H.d12 (by rw [getD_set_ne false (by decide)] at h; exact h) (by rw [getD_set_ne false (by decide)] at h'; exact h'), d13 := fun h h' => H.d13 (by rw [getD_set_ne false (by decide)] at h; exact h) (by rw [getD_set_ne false (by decide)] at h'; exact h'), d23 := fun h h' => H.d23 (by rw [getD_set_ne false (by decide)] at h; exact h) (by rw [getD_set_ne false (by decide)] at h'; exact h') }⟩
      · obtain ⟨x9, x10, x11, x35, x36, x37, x38, x39, x40, x41, x42, x43, x44, x45, x46, x47, x48, x49, x50, x51, q1, q2, q3, rfl, H⟩ := hI
        have hno := ready_no hi
        clear hi
        refine wpOp_stepL rfl (fun K hK => ?_)
        rw [if_pos (by rfl)]
        go_simp
        exact hK _ _ ⟨_, x10, x11, x35, x36, x37, x38, x39, x40, x41, x42, x43, x44, x45, x46, x47, x48, x49, x50, x51, _, q2, q3, rfl, { size := by simpa using H.size, hw := H.hw.alloc H.hw.size _, f0 := upd (k := 17) (j := 0) (by decide) (fun h => h) H.f0, f1 := upd (k := 17) (j := 1) (by decide) (fun h => h) H.f1, f2 := upd (k := 17) (j := 2) (by decide) (fun h => h) H.f2, f3 := upd (k := 17) (j := 3) (by decide) (fun h => h) H.f3, f4 := upd (k := 17) (j := 4) (by decide) (fun h => h) H.f4, f5 := upd (k := 17) (j := 5) (by decide) (fun h => h) H.f5, f6 := upd (k := 17) (j := 6) (by decide) (fun h => h) H.f6, f7 := upd (k := 17) (j := 7) (by decide) (fun h => h) H.f7, f8 := upd (k := 17) (j := 8) (by decide) (fun h => h) H.f8, f9 := upd (k := 17) (j := 9) (by decide) (fun h => h) H.f9, f10 := upd (k := 17) (j := 10) (by decide) (fun h => h) H.f10, f11 := upd (k := 17) (j := 11) (by decide) (fun h => h) H.f11, f12 := upd (k := 17) (j := 12) (by decide) (fun h => h) H.f12, f13 := upd (k := 17) (j := 13) (by decide) (fun h => h) H.f13, f14 := upd (k := 17) (j := 14) (by decide) (fun h => h) H.f14, f15 := upd (k := 17) (j := 15) (by decide) (fun h => h) H.f15, f16 := upd (k := 17) (j := 16) (by decide) (fun h => h) H.f16, p1 := fun _ => ⟨rfl, H.hw.size, _, _, _, _, At4.new _ _ _ _ _ _⟩, p2 := upd (k := 17) (j := 18) (by decide) (fun ⟨h1, h2, s0, s1, s2, s3, hA⟩ => ⟨h1, h2, s0, s1, s2, s3, hA.alloc _⟩) H.p2, p3 := upd (k := 17) (j := 19) (by decide) (fun ⟨h1, h2, s0, s1, hA⟩ => ⟨h1, h2, s0, s1, hA.alloc _⟩) H.p3, s1 := fun h => absurd (H.s1 (by rw [getD_set_ne false (by decide)] at h; exact h)).1 (by rw [hno]; simp), s2 := upd (k := 17) (j := 21) (by decide) (fun h => ⟨set_mono h.1, h.2.alloc _⟩) H.s2, s3 := upd (k := 17) (j := 22) (by decide) (fun h => ⟨set_mono h.1, h.2.alloc _⟩) H.s3, d12 := fun _ h e => by obtain ⟨-, -, s0, s1, s2, s3, hA⟩ := H.p2 (by rw [getD_set_ne false (by decide)] at h; exact h); have := hA.lt; omega, d13 := fun _ h e => by obtain ⟨-, -, s0, s1, hA⟩ := H.p3 (by rw [getD_set_ne false (by decide)] at h; exact h); have := hA.lt; omega, d23 := fun h h' => H.d23 (by rw [getD_set_ne false (by decide)] at h; exact h) (by rw [getD_set_ne false (by decide)] at h'; exact h') }⟩
      · obtain ⟨x9, x10, x11, x35, x36, x37, x38, x39, x40, x41, x42, x43, x44, x45, x46, x47, x48, x49, x50, x51, q1, q2, q3, rfl, H⟩ := hI
        have hno := ready_no hi
        clear hi
        refine wpOp_stepL rfl (fun K hK => ?_)
        rw [if_pos (by rfl)]
        go_simp
        exact hK _ _ ⟨x9, _, x11, x35, x36, x37, x38, x39, x40, x41, x42, x43, x44, x45, x46, x47, x48, x49, x50, x51, q1, _, q3, rfl, { size := by simpa using H.size, hw := H.hw.alloc H.hw.size _, f0 := upd (k := 18) (j := 0) (by decide) (fun h => h) H.f0, f1 := upd (k := 18) (j := 1) (by decide) (fun h => h) H.f1, f2 := upd (k := 18) (j := 2) (by decide) (fun h => h) H.f2, f3 := upd (k := 18) (j := 3) (by decide) (fun h => h) H.f3, f4 := upd (k := 18) (j := 4) (by decide) (fun h => h) H.f4, f5 := upd (k := 18) (j := 5) (by decide) (fun h => h) H.f5, f6 := upd (k := 18) (j := 6) (by decide) (fun h => h) H.f6, f7 := upd (k := 18) (j := 7) (by decide) (fun h => h) H.f7, f8 := upd (k := 18) (j := 8) (by decide) (fun h => h) H.f8, f9 := upd (k := 18) (j := 9) (by decide) (fun h => h) H.f9, f10 := upd (k := 18) (j := 10) (by decide) (fun h => h) H.f10, f11 := upd (k := 18) (j := 11) (by decide) (fun h => h) H.f11, f12 := upd (k := 18) (j := 12) (by decide) (fun h => h) H.f12, f13 := upd (k := 18) (j := 13) (by decide) (fun h => h) H.f13, f14 := upd (k := 18) (j := 14) (by decide) (fun h => h) H.f14, f15 := upd (k := 18) (j := 15) (by decide) (fun h => h) H.f15, f16 := upd (k := 18) (j := 16) (by decide) (fun h => h) H.f16, p1 := upd (k := 18) (j := 17) (by decide) (fun ⟨h1, h2, s0, s1, s2, s3, hA⟩ => ⟨h1, h2, s0, s1, s2, s3, hA.alloc _⟩) H.p1, p2 := fun _ => ⟨rfl, H.hw.size, _, _, _, _, At4.new _ _ _ _ _ _⟩, p3 := upd (k := 18) (j := 19) (by decide) (fun ⟨h1, h2, s0, s1, hA⟩ => ⟨h1, h2, s0, s1, hA.alloc _⟩) H.p3, s1 := upd (k := 18) (j := 20) (by decide) (fun h => ⟨set_mono h.1, h.2.alloc _⟩) H.s1, s2 := fun h => absurd (H.s2 (by rw [getD_set_ne false (by decide)] at h; exact h)).1 (by rw [hno]; simp), s3 := upd (k := 18) (j := 22) (by decide) (fun h => ⟨set_mono h.1, h.2.alloc _⟩) H.s3, d12 := fun h _ e => by obtain ⟨-, -, s0, s1, s2, s3, hA⟩ := H.p1 (by rw [getD_set_ne false (by decide)] at h; exact h); have := hA.lt; omega, d13 := fun h h' => H.d13 (by rw [getD_set_ne false (by decide)] at h; exact h) (by rw [getD_set_ne false (by decide)] at h'; exact h'), d23 := fun _ h e => by obtain ⟨-, -, s0, s1, hA⟩ := H.p3 (by rw [getD_set_ne false (by decide)] at h; exact h); have := hA.lt; omega }⟩
      · obtain ⟨x9, x10, x11, x35, x36, x37, x38, x39, x40, x41, x42, x43, x44, x45, x46, x47, x48, x49, x50, x51, q1, q2, q3, rfl, H⟩ := hI
        have hno := ready_no hi
        clear hi
        refine wpOp_stepL rfl (fun K hK => ?_)
        rw [if_pos (by rfl)]
        go_simp
        exact hK _ _ ⟨x9, x10, _, x35, x36, x37, x38, x39, x40, x41, x42, x43, x44, x45, x46, x47, x48, x49, x50, x51, q1, q2, _, rfl, { size := by simpa using H.size, hw := H.hw.alloc H.hw.size _, f0 := upd (k := 19) (j := 0) (by decide) (fun h => h) H.f0, f1 := upd (k := 19) (j := 1) (by decide) (fun h => h) H.f1, f2 := upd (k := 19) (j := 2) (by decide) (fun h => h) H.f2, f3 := upd (k := 19) (j := 3) (by decide) (fun h => h) H.f3, f4 := upd (k := 19) (j := 4) (by decide) (fun h => h) H.f4, f5 := upd (k := 19) (j := 5) (by decide) (fun h => h) H.f5, f6 := upd (k := 19) (j := 6) (by decide) (fun h => h) H.f6, f7 := upd (k := 19) (j := 7) (by decide) (fun h => h) H.f7, f8 := upd (k := 19) (j := 8) (by decide) (fun h => h) H.f8, f9 := upd (k := 19) (j := 9) (by decide) (fun h => h) H.f9, f10 := upd (k := 19) (j := 10) (by decide) (fun h => h) H.f10, f11 := upd (k := 19) (j := 11) (by decide) (fun h => h) H.f11, f12 := upd (k := 19) (j := 12) (by decide) (fun h => h) H.f12, f13 := upd (k := 19) (j := 13) (by decide) (fun h => h) H.f13, f14 := upd (k := 19) (j := 14) (by decide) (fun h => h) H.f14, f15 := upd (k := 19) (j := 15) (by decide) (fun h => h) H.f15, f16 := upd (k := 19) (j := 16) (by decide) (fun h => h) H.f16, p1 := upd (k := 19) (j := 17) (by decide) (fun ⟨h1, h2, s0, s1, s2, s3, hA⟩ => ⟨h1, h2, s0, s1, s2, s3, hA.alloc _⟩) H.p1, p2 := upd (k := 19) (j := 18) (by decide) (fun ⟨h1, h2, s0, s1, s2, s3, hA⟩ => ⟨h1, h2, s0, s1, s2, s3, hA.alloc _⟩) H.p2, p3 := fun _ => ⟨rfl, H.hw.size, _, _, At2.new _ _ _ _⟩, s1 := upd (k := 19) (j := 20) (by decide) (fun h => ⟨set_mono h.1, h.2.alloc _⟩) H.s1, s2 := upd (k := 19) (j := 21) (by decide) (fun h => ⟨set_mono h.1, h.2.alloc _⟩) H.s2, s3 := fun h => absurd (H.s3 (by rw [getD_set_ne false (by decide)] at h; exact h)).1 (by rw [hno]; simp), d12 := fun h h' => H.d12 (by rw [getD_set_ne false (by decide)] at h; exact h) (by rw [getD_set_ne false (by decide)] at h'; exact h'), d13 := fun h _ e => by obtain ⟨-, -, s0, s1, s2, s3, hA⟩ := H.p1 (by rw [getD_set_ne false (by decide)] at h; exact h); have := hA.lt; omega, d23 := fun h _ e => by obtain ⟨-, -, s0, s1, s2, s3, hA⟩ := H.p2 (by rw [getD_set_ne false (by decide)] at h; exact h); have := hA.lt; omega }⟩
      · obtain ⟨x9, x10, x11, x35, x36, x37, x38, x39, x40, x41, x42, x43, x44, x45, x46, x47, x48, x49, x50, x51, q1, q2, q3, rfl, H⟩ := hI
        have hd := ready_depL hi rfl
        have d17 : listed.getD 17 false = true := hd ⟨17, .data⟩ (by simp) (by rfl)
        have d3 : listed.getD 3 false = true := hd ⟨3, .data⟩ (by simp) (by rfl)
        clear hd hi
        obtain rfl := H.f3 d3
        obtain ⟨rfl, hq, z0, z1, z2, z3, hA⟩ := H.p1 d17
        have HW2 := below_set4 H.hw hq (.int .i64 a) (.int .i64 b) (.int .i64 xc) (.int .i64 xd)
        have PN1 := fun (h : (listed.setIfInBounds 20 true).getD 17 false = true) => show Value.pointer (some ⟨q1, 0, none⟩) = .pointer (some ⟨q1, 0, none⟩) ∧ w4.heap.size ≤ q1 ∧ ∃ s0 s1 s2 s3 : Value, At4 _ q1 s0 s1 s2 s3 from ⟨rfl, hq, _, _, _, _, hA.put (.int .i64 a) (.int .i64 b) (.int .i64 xc) (.int .i64 xd)⟩
        have SN1 := fun (h : (listed.setIfInBounds 20 true).getD 20 false = true) => (⟨set_mono d17, hA.put (.int .i64 a) (.int .i64 b) (.int .i64 xc) (.int .i64 xd)⟩ : (listed.setIfInBounds 20 true).getD 17 false = true ∧ _)
        have PN2 := fun (h : (listed.setIfInBounds 20 true).getD 18 false = true) => have h0 : listed.getD 18 false = true := (by rw [getD_set_ne false (by decide)] at h; exact h); have ⟨h1, h2, s0, s1, s2, s3, hB⟩ := H.p2 h0; (⟨h1, h2, s0, s1, s2, s3, hB.far ((H.d12 d17 h0).symm) (.int .i64 a) (.int .i64 b) (.int .i64 xc) (.int .i64 xd)⟩ : x10 = Value.pointer (some ⟨q2, 0, none⟩) ∧ w4.heap.size ≤ q2 ∧ ∃ s0 s1 s2 s3 : Value, At4 _ q2 s0 s1 s2 s3)
        have SN2 := fun (h : (listed.setIfInBounds 20 true).getD 21 false = true) => have ⟨h0, hB⟩ := H.s2 (by rw [getD_set_ne false (by decide)] at h; exact h); (⟨set_mono h0, hB.far ((H.d12 d17 h0).symm) (.int .i64 a) (.int .i64 b) (.int .i64 xc) (.int .i64 xd)⟩ : (listed.setIfInBounds 20 true).getD 18 false = true ∧ _)
        have PN3 := fun (h : (listed.setIfInBounds 20 true).getD 19 false = true) => have h0 : listed.getD 19 false = true := (by rw [getD_set_ne false (by decide)] at h; exact h); have ⟨h1, h2, s0, s1, hB⟩ := H.p3 h0; (⟨h1, h2, s0, s1, hB.far4 ((H.d13 d17 h0).symm) (.int .i64 a) (.int .i64 b) (.int .i64 xc) (.int .i64 xd)⟩ : x11 = Value.pointer (some ⟨q3, 0, none⟩) ∧ w4.heap.size ≤ q3 ∧ ∃ s0 s1 : Value, At2 _ q3 s0 s1)
        have SN3 := fun (h : (listed.setIfInBounds 20 true).getD 22 false = true) => have ⟨h0, hB⟩ := H.s3 (by rw [getD_set_ne false (by decide)] at h; exact h); (⟨set_mono h0, hB.far4 ((H.d13 d17 h0).symm) (.int .i64 a) (.int .i64 b) (.int .i64 xc) (.int .i64 xd)⟩ : (listed.setIfInBounds 20 true).getD 19 false = true ∧ _)
        refine wpOp_stepL rfl (fun K hK => ?_)
        obtain ⟨h0, h1, h2, h3, f0, f1, f2, f3, -⟩ := hA
        rw [if_pos (by rfl)]
        go_simp
        exact hK _ _ ⟨_, x10, x11, x35, x36, x37, _, x39, x40, x41, x42, x43, x44, x45, x46, x47, x48, x49, x50, x51, q1, q2, q3, rfl, { size := by simpa using H.size, hw := HW2, f0 := upd (k := 20) (j := 0) (by decide) (fun h => h) H.f0, f1 := upd (k := 20) (j := 1) (by decide) (fun h => h) H.f1, f2 := upd (k := 20) (j := 2) (by decide) (fun h => h) H.f2, f3 := upd (k := 20) (j := 3) (by decide) (fun h => h) H.f3, f4 := upd (k := 20) (j := 4) (by decide) (fun h => h) H.f4, f5 := upd (k := 20) (j := 5) (by decide) (fun h => h) H.f5, f6 := upd (k := 20) (j := 6) (by decide) (fun h => h) H.f6, f7 := upd (k := 20) (j := 7) (by decide) (fun h => h) H.f7, f8 := upd (k := 20) (j := 8) (by decide) (fun h => h) H.f8, f9 := upd (k := 20) (j := 9) (by decide) (fun h => h) H.f9, f10 := upd (k := 20) (j := 10) (by decide) (fun h => h) H.f10, f11 := upd (k := 20) (j := 11) (by decide) (fun h => h) H.f11, f12 := upd (k := 20) (j := 12) (by decide) (fun h => h) H.f12, f13 := upd (k := 20) (j := 13) (by decide) (fun h => h) H.f13, f14 := upd (k := 20) (j := 14) (by decide) (fun h => h) H.f14, f15 := upd (k := 20) (j := 15) (by decide) (fun h => h) H.f15, f16 := upd (k := 20) (j := 16) (by decide) (fun h => h) H.f16, p1 := PN1, p2 := PN2, p3 := PN3, s1 := SN1, s2 := SN2, s3 := SN3, d12 := fun h h' => H.d12 (by rw [getD_set_ne false (by decide)] at h; exact h) (by rw [getD_set_ne false (by decide)] at h'; exact h'), d13 := fun h h' => H.d13 (by rw [getD_set_ne false (by decide)] at h; exact h) (by rw [getD_set_ne false (by decide)] at h'; exact h'), d23 := fun h h' => H.d23 (by rw [getD_set_ne false (by decide)] at h; exact h) (by rw [getD_set_ne false (by decide)] at h'; exact h') }⟩
      · obtain ⟨x9, x10, x11, x35, x36, x37, x38, x39, x40, x41, x42, x43, x44, x45, x46, x47, x48, x49, x50, x51, q1, q2, q3, rfl, H⟩ := hI
        have hd := ready_depL hi rfl
        have d18 : listed.getD 18 false = true := hd ⟨18, .data⟩ (by simp) (by rfl)
        have d7 : listed.getD 7 false = true := hd ⟨7, .data⟩ (by simp) (by rfl)
        clear hd hi
        obtain rfl := H.f7 d7
        obtain ⟨rfl, hq, z0, z1, z2, z3, hA⟩ := H.p2 d18
        have HW2 := below_set4 H.hw hq (.int .i64 e) (.int .i64 f) (.int .i64 yc) (.int .i64 yd)
        have PN1 := fun (h : (listed.setIfInBounds 21 true).getD 17 false = true) => have h0 : listed.getD 17 false = true := (by rw [getD_set_ne false (by decide)] at h; exact h); have ⟨h1, h2, s0, s1, s2, s3, hB⟩ := H.p1 h0; (⟨h1, h2, s0, s1, s2, s3, hB.far (H.d12 h0 d18) (.int .i64 e) (.int .i64 f) (.int .i64 yc) (.int .i64 yd)⟩ : x9 = Value.pointer (some ⟨q1, 0, none⟩) ∧ w4.heap.size ≤ q1 ∧ ∃ s0 s1 s2 s3 : Value, At4 _ q1 s0 s1 s2 s3)
        have SN1 := fun (h : (listed.setIfInBounds 21 true).getD 20 false = true) => have ⟨h0, hB⟩ := H.s1 (by rw [getD_set_ne false (by decide)] at h; exact h); (⟨set_mono h0, hB.far (H.d12 h0 d18) (.int .i64 e) (.int .i64 f) (.int .i64 yc) (.int .i64 yd)⟩ : (listed.setIfInBounds 21 true).getD 17 false = true ∧ _)
        have PN2 := fun (h : (listed.setIfInBounds 21 true).getD 18 false = true) => show Value.pointer (some ⟨q2, 0, none⟩) = .pointer (some ⟨q2, 0, none⟩) ∧ w4.heap.size ≤ q2 ∧ ∃ s0 s1 s2 s3 : Value, At4 _ q2 s0 s1 s2 s3 from ⟨rfl, hq, _, _, _, _, hA.put (.int .i64 e) (.int .i64 f) (.int .i64 yc) (.int .i64 yd)⟩
        have SN2 := fun (h : (listed.setIfInBounds 21 true).getD 21 false = true) => (⟨set_mono d18, hA.put (.int .i64 e) (.int .i64 f) (.int .i64 yc) (.int .i64 yd)⟩ : (listed.setIfInBounds 21 true).getD 18 false = true ∧ _)
        have PN3 := fun (h : (listed.setIfInBounds 21 true).getD 19 false = true) => have h0 : listed.getD 19 false = true := (by rw [getD_set_ne false (by decide)] at h; exact h); have ⟨h1, h2, s0, s1, hB⟩ := H.p3 h0; (⟨h1, h2, s0, s1, hB.far4 ((H.d23 d18 h0).symm) (.int .i64 e) (.int .i64 f) (.int .i64 yc) (.int .i64 yd)⟩ : x11 = Value.pointer (some ⟨q3, 0, none⟩) ∧ w4.heap.size ≤ q3 ∧ ∃ s0 s1 : Value, At2 _ q3 s0 s1)
        have SN3 := fun (h : (listed.setIfInBounds 21 true).getD 22 false = true) => have ⟨h0, hB⟩ := H.s3 (by rw [getD_set_ne false (by decide)] at h; exact h); (⟨set_mono h0, hB.far4 ((H.d23 d18 h0).symm) (.int .i64 e) (.int .i64 f) (.int .i64 yc) (.int .i64 yd)⟩ : (listed.setIfInBounds 21 true).getD 19 false = true ∧ _)
        refine wpOp_stepL rfl (fun K hK => ?_)
        obtain ⟨h0, h1, h2, h3, f0, f1, f2, f3, -⟩ := hA
        rw [if_pos (by rfl)]
        go_simp
        exact hK _ _ ⟨x9, _, x11, x35, x36, x37, x38, x39, x40, x41, _, x43, x44, x45, x46, x47, x48, x49, x50, x51, q1, q2, q3, rfl, { size := by simpa using H.size, hw := HW2, f0 := upd (k := 21) (j := 0) (by decide) (fun h => h) H.f0, f1 := upd (k := 21) (j := 1) (by decide) (fun h => h) H.f1, f2 := upd (k := 21) (j := 2) (by decide) (fun h => h) H.f2, f3 := upd (k := 21) (j := 3) (by decide) (fun h => h) H.f3, f4 := upd (k := 21) (j := 4) (by decide) (fun h => h) H.f4, f5 := upd (k := 21) (j := 5) (by decide) (fun h => h) H.f5, f6 := upd (k := 21) (j := 6) (by decide) (fun h => h) H.f6, f7 := upd (k := 21) (j := 7) (by decide) (fun h => h) H.f7, f8 := upd (k := 21) (j := 8) (by decide) (fun h => h) H.f8, f9 := upd (k := 21) (j := 9) (by decide) (fun h => h) H.f9, f10 := upd (k := 21) (j := 10) (by decide) (fun h => h) H.f10, f11 := upd (k := 21) (j := 11) (by decide) (fun h => h) H.f11, f12 := upd (k := 21) (j := 12) (by decide) (fun h => h) H.f12, f13 := upd (k := 21) (j := 13) (by decide) (fun h => h) H.f13, f14 := upd (k := 21) (j := 14) (by decide) (fun h => h) H.f14, f15 := upd (k := 21) (j := 15) (by decide) (fun h => h) H.f15, f16 := upd (k := 21) (j := 16) (by decide) (fun h => h) H.f16, p1 := PN1, p2 := PN2, p3 := PN3, s1 := SN1, s2 := SN2, s3 := SN3, d12 := fun h h' => H.d12 (by rw [getD_set_ne false (by decide)] at h; exact h) (by rw [getD_set_ne false (by decide)] at h'; exact h'), d13 := fun h h' => H.d13 (by rw [getD_set_ne false (by decide)] at h; exact h) (by rw [getD_set_ne false (by decide)] at h'; exact h'), d23 := fun h h' => H.d23 (by rw [getD_set_ne false (by decide)] at h; exact h) (by rw [getD_set_ne false (by decide)] at h'; exact h') }⟩
      · obtain ⟨x9, x10, x11, x35, x36, x37, x38, x39, x40, x41, x42, x43, x44, x45, x46, x47, x48, x49, x50, x51, q1, q2, q3, rfl, H⟩ := hI
        have hd := ready_depL hi rfl
        have d19 : listed.getD 19 false = true := hd ⟨19, .data⟩ (by simp) (by rfl)
        have d16 : listed.getD 16 false = true := hd ⟨16, .data⟩ (by simp) (by rfl)
        clear hd hi
        obtain rfl := H.f16 d16
        obtain ⟨rfl, hq, z0, z1, hA⟩ := H.p3 d19
        have HW2 := below_set2 H.hw hq (.int .i64 x) (.int .i64 py)
        have PN1 := fun (h : (listed.setIfInBounds 22 true).getD 17 false = true) => have h0 : listed.getD 17 false = true := (by rw [getD_set_ne false (by decide)] at h; exact h); have ⟨h1, h2, s0, s1, s2, s3, hB⟩ := H.p1 h0; (⟨h1, h2, s0, s1, s2, s3, hB.far2 (H.d13 h0 d19) (.int .i64 x) (.int .i64 py)⟩ : x9 = Value.pointer (some ⟨q1, 0, none⟩) ∧ w4.heap.size ≤ q1 ∧ ∃ s0 s1 s2 s3 : Value, At4 _ q1 s0 s1 s2 s3)
        have SN1 := fun (h : (listed.setIfInBounds 22 true).getD 20 false = true) => have ⟨h0, hB⟩ := H.s1 (by rw [getD_set_ne false (by decide)] at h; exact h); (⟨set_mono h0, hB.far2 (H.d13 h0 d19) (.int .i64 x) (.int .i64 py)⟩ : (listed.setIfInBounds 22 true).getD 17 false = true ∧ _)
        have PN2 := fun (h : (listed.setIfInBounds 22 true).getD 18 false = true) => have h0 : listed.getD 18 false = true := (by rw [getD_set_ne false (by decide)] at h; exact h); have ⟨h1, h2, s0, s1, s2, s3, hB⟩ := H.p2 h0; (⟨h1, h2, s0, s1, s2, s3, hB.far2 (H.d23 h0 d19) (.int .i64 x) (.int .i64 py)⟩ : x10 = Value.pointer (some ⟨q2, 0, none⟩) ∧ w4.heap.size ≤ q2 ∧ ∃ s0 s1 s2 s3 : Value, At4 _ q2 s0 s1 s2 s3)
        have SN2 := fun (h : (listed.setIfInBounds 22 true).getD 21 false = true) => have ⟨h0, hB⟩ := H.s2 (by rw [getD_set_ne false (by decide)] at h; exact h); (⟨set_mono h0, hB.far2 (H.d23 h0 d19) (.int .i64 x) (.int .i64 py)⟩ : (listed.setIfInBounds 22 true).getD 18 false = true ∧ _)
        have PN3 := fun (h : (listed.setIfInBounds 22 true).getD 19 false = true) => show Value.pointer (some ⟨q3, 0, none⟩) = .pointer (some ⟨q3, 0, none⟩) ∧ w4.heap.size ≤ q3 ∧ ∃ s0 s1 : Value, At2 _ q3 s0 s1 from ⟨rfl, hq, _, _, hA.put (.int .i64 x) (.int .i64 py)⟩
        have SN3 := fun (h : (listed.setIfInBounds 22 true).getD 22 false = true) => (⟨set_mono d19, hA.put (.int .i64 x) (.int .i64 py)⟩ : (listed.setIfInBounds 22 true).getD 19 false = true ∧ _)
        refine wpOp_stepL rfl (fun K hK => ?_)
        obtain ⟨h0, h1, f0, f1, -⟩ := hA
        rw [if_pos (by rfl)]
        go_simp
        exact hK _ _ ⟨x9, x10, _, x35, x36, x37, x38, x39, x40, x41, x42, x43, x44, x45, x46, x47, x48, x49, x50, _, q1, q2, q3, rfl, { size := by simpa using H.size, hw := HW2, f0 := upd (k := 22) (j := 0) (by decide) (fun h => h) H.f0, f1 := upd (k := 22) (j := 1) (by decide) (fun h => h) H.f1, f2 := upd (k := 22) (j := 2) (by decide) (fun h => h) H.f2, f3 := upd (k := 22) (j := 3) (by decide) (fun h => h) H.f3, f4 := upd (k := 22) (j := 4) (by decide) (fun h => h) H.f4, f5 := upd (k := 22) (j := 5) (by decide) (fun h => h) H.f5, f6 := upd (k := 22) (j := 6) (by decide) (fun h => h) H.f6, f7 := upd (k := 22) (j := 7) (by decide) (fun h => h) H.f7, f8 := upd (k := 22) (j := 8) (by decide) (fun h => h) H.f8, f9 := upd (k := 22) (j := 9) (by decide) (fun h => h) H.f9, f10 := upd (k := 22) (j := 10) (by decide) (fun h => h) H.f10, f11 := upd (k := 22) (j := 11) (by decide) (fun h => h) H.f11, f12 := upd (k := 22) (j := 12) (by decide) (fun h => h) H.f12, f13 := upd (k := 22) (j := 13) (by decide) (fun h => h) H.f13, f14 := upd (k := 22) (j := 14) (by decide) (fun h => h) H.f14, f15 := upd (k := 22) (j := 15) (by decide) (fun h => h) H.f15, f16 := upd (k := 22) (j := 16) (by decide) (fun h => h) H.f16, p1 := PN1, p2 := PN2, p3 := PN3, s1 := SN1, s2 := SN2, s3 := SN3, d12 := fun h h' => H.d12 (by rw [getD_set_ne false (by decide)] at h; exact h) (by rw [getD_set_ne false (by decide)] at h'; exact h'), d13 := fun h h' => H.d13 (by rw [getD_set_ne false (by decide)] at h; exact h) (by rw [getD_set_ne false (by decide)] at h'; exact h'), d23 := fun h h' => H.d23 (by rw [getD_set_ne false (by decide)] at h; exact h) (by rw [getD_set_ne false (by decide)] at h'; exact h') }⟩
    · intro listed ac wx hI hall
      obtain ⟨x9, x10, x11, x35, x36, x37, x38, x39, x40, x41, x42, x43, x44, x45, x46, x47, x48, x49, x50, x51, q1, q2, q3, rfl, H⟩ := hI
      replace hall : ∀ i, i < 23 → listed.getD i false = true := hall
      obtain ⟨rfl, hq1, -⟩ := H.p1 (hall 17 (by omega))
      obtain ⟨rfl, hq2, -⟩ := H.p2 (hall 18 (by omega))
      obtain ⟨rfl, hq3, -⟩ := H.p3 (hall 19 (by omega))
      have N1 := (H.s1 (hall 20 (by omega))).2
      have N2 := (H.s2 (hall 21 (by omega))).2
      have N3 := (H.s3 (hall 22 (by omega))).2
      replace A := A.keep H.hw
      replace B := B.keep H.hw
      replace Q := Q.keep H.hw
      replace HB := Lib.hid (bstep HB.out H.hw)
      clear H hall
      go_wp2_with fail
      go_meet
      with_reducible exact ⟨q1, q2, q3, rfl, rfl, rfl, Lib.hid N1, Lib.hid N2, Lib.hid N3, Lib.hid A, Lib.hid B, Lib.hid Q, HB⟩
  case rest =>
    obtain ⟨q1, q2, q3, rfl, rfl, rfl, Xk, Yk, Pk, Ak, Bk, Qk, HB'⟩ := hcut
    have G := H.below HB'.out
    clear A0 A1 A2 A3 B0 B1 B2 B3 Q0 Q1 A B Q HB CX CY CP
    have A := Ak.out
    have B := Bk.out
    have Q := Qk.out
    have X := Xk.out
    have Y := Yk.out
    have P := Pk.out
    have HB := Lib.hid HB'.out
    clear Ak Bk Qk Xk Yk Pk HB'
    go_upto_region 6 with fail
    obtain ⟨A0, A1, A2, A3⟩ := A.bel
    obtain ⟨B0, B1, B2, B3⟩ := B.bel
    obtain ⟨Q0, Q1⟩ := Q.bel
    obtain ⟨X0, X1, X2, X3⟩ := X.bel
    obtain ⟨Y0, Y1, Y2, Y3⟩ := Y.bel
    obtain ⟨P0, P1⟩ := P.bel
    have Gb := Lib.hid G
    refine wp_region_bel (by kernel_rfl) (by kernel_rfl) ?_
    repeat (go_big_quiet_step (first
      | (go_at_call 9; first | (with_reducible refine bel_of (V3.out _ (Gb.out.below (Bel.h _)).all)) | (with_reducible refine bel_of (V4.out _ (Gb.out.below (Bel.h _)).all)))
      | (go_at_call 10; with_reducible refine bel_of (VQ.out _))
      | (go_at_call 13; first | (with_reducible refine bel_of (I1.out _ (Gb.out.below (Bel.h _)).all)) | (with_reducible refine bel_of (I2.out _ (Gb.out.below (Bel.h _)).all)))))
    refine wpQuiet_nil ?_
    intro _ hw'
    obtain ⟨pq, hw''⟩ := hw'
    subst hw''
    have G := G.below pq.h
    have HB := Lib.hid (bstep HB.out pq.h)
    have A := A.keep pq.h
    have B := B.keep pq.h
    have Q := Q.keep pq.h
    have X := X.keep pq.h
    have Y := Y.keep pq.h
    have P := P.keep pq.h
    clear A0 A1 A2 A3 B0 B1 B2 B3 Q0 Q1 X0 X1 X2 X3 Y0 Y1 Y2 Y3 P0 P1 Gb
    obtain ⟨A0, A1, A2, A3, -, -, -, -, -⟩ := id A
    obtain ⟨B0, B1, B2, B3, -, -, -, -, -⟩ := id B
    obtain ⟨Q0, Q1, -, -, -⟩ := id Q
    obtain ⟨X0, X1, X2, X3, -, -, -, -, -⟩ := id X
    obtain ⟨Y0, Y1, Y2, Y3, -, -, -, -, -⟩ := id Y
    obtain ⟨P0, P1, -, -, -⟩ := id P
    go_wp2_with fail
    refine ((C1).out _ G.all).mono ?_
    rintro e w5 ⟨rfl, hb⟩
    clear A0 A1 A2 A3 B0 B1 B2 B3 Q0 Q1 X0 X1 X2 X3 Y0 Y1 Y2 Y3 P0 P1
    have A := A.keep hb
    have B := B.keep hb
    have Q := Q.keep hb
    have X := X.keep hb
    have Y := Y.keep hb
    have P := P.keep hb
    have G := G.below hb
    have HB := Lib.hid (bstep HB.out hb)
    clear hb
    obtain ⟨A0, A1, A2, A3, -, -, -, -, -⟩ := id A
    obtain ⟨B0, B1, B2, B3, -, -, -, -, -⟩ := id B
    obtain ⟨Q0, Q1, -, -, -⟩ := id Q
    obtain ⟨X0, X1, X2, X3, -, -, -, -, -⟩ := id X
    obtain ⟨Y0, Y1, Y2, Y3, -, -, -, -, -⟩ := id Y
    obtain ⟨P0, P1, -, -, -⟩ := id P
    go_wp2_with fail
    refine ((C2).out _ G.all).mono ?_
    rintro e w6 ⟨rfl, hb⟩
    clear A0 A1 A2 A3 B0 B1 B2 B3 Q0 Q1 X0 X1 X2 X3 Y0 Y1 Y2 Y3 P0 P1
    have A := A.keep hb
    have B := B.keep hb
    have Q := Q.keep hb
    have X := X.keep hb
    have Y := Y.keep hb
    have P := P.keep hb
    have G := G.below hb
    have HB := Lib.hid (bstep HB.out hb)
    clear hb
    obtain ⟨A0, A1, A2, A3, -, -, -, -, -⟩ := id A
    obtain ⟨B0, B1, B2, B3, -, -, -, -, -⟩ := id B
    obtain ⟨Q0, Q1, -, -, -⟩ := id Q
    obtain ⟨X0, X1, X2, X3, -, -, -, -, -⟩ := id X
    obtain ⟨Y0, Y1, Y2, Y3, -, -, -, -, -⟩ := id Y
    obtain ⟨P0, P1, -, -, -⟩ := id P
    go_wp2_with fail
    refine ((H1).out _ G.all).mono ?_
    rintro e w7 ⟨rfl, hb⟩
    clear A0 A1 A2 A3 B0 B1 B2 B3 Q0 Q1 X0 X1 X2 X3 Y0 Y1 Y2 Y3 P0 P1
    have A := A.keep hb
    have B := B.keep hb
    have Q := Q.keep hb
    have X := X.keep hb
    have Y := Y.keep hb
    have P := P.keep hb
    have G := G.below hb
    have HB := Lib.hid (bstep HB.out hb)
    clear hb
    obtain ⟨A0, A1, A2, A3, -, -, -, -, -⟩ := id A
    obtain ⟨B0, B1, B2, B3, -, -, -, -, -⟩ := id B
    obtain ⟨Q0, Q1, -, -, -⟩ := id Q
    obtain ⟨X0, X1, X2, X3, -, -, -, -, -⟩ := id X
    obtain ⟨Y0, Y1, Y2, Y3, -, -, -, -, -⟩ := id Y
    obtain ⟨P0, P1, -, -, -⟩ := id P
    clear A0 A1 A2 A3 B0 B1 B2 B3 Q0 Q1 X0 X1 X2 X3 Y0 Y1 Y2 Y3 P0 P1
    have A := A.alloc (.cells #[.int .i64 s1, .int .i64 s2, .int .i64 s3, .int .i64 s4] 33)
    have B := B.alloc (.cells #[.int .i64 s1, .int .i64 s2, .int .i64 s3, .int .i64 s4] 33)
    have Q := Q.alloc (.cells #[.int .i64 s1, .int .i64 s2, .int .i64 s3, .int .i64 s4] 33)
    have X := X.alloc (.cells #[.int .i64 s1, .int .i64 s2, .int .i64 s3, .int .i64 s4] 33)
    have Y := Y.alloc (.cells #[.int .i64 s1, .int .i64 s2, .int .i64 s3, .int .i64 s4] 33)
    have P := P.alloc (.cells #[.int .i64 s1, .int .i64 s2, .int .i64 s3, .int .i64 s4] 33)
    have G := G.below (below1 w7 (.cells #[.int .i64 s1, .int .i64 s2, .int .i64 s3, .int .i64 s4] 33))
    have S := At4.new w7 (.int .i64 s1) (.int .i64 s2) (.int .i64 s3) (.int .i64 s4) 33
    have HB := Lib.hid (bstep HB.out (below1 w7 (.cells #[.int .i64 s1, .int .i64 s2, .int .i64 s3, .int .i64 s4] 33)))
    obtain ⟨A0, A1, A2, A3, -, -, -, -, -⟩ := id A
    obtain ⟨B0, B1, B2, B3, -, -, -, -, -⟩ := id B
    obtain ⟨Q0, Q1, -, -, -⟩ := id Q
    obtain ⟨X0, X1, X2, X3, -, -, -, -, -⟩ := id X
    obtain ⟨Y0, Y1, Y2, Y3, -, -, -, -, -⟩ := id Y
    obtain ⟨P0, P1, -, -, -⟩ := id P
    obtain ⟨S0, S1, S2, S3, -, -, -, -, -⟩ := id S
    go_wp2_with fail
    refine ((H2).out _ G.all).mono ?_
    rintro e w8 ⟨rfl, hb⟩
    clear A0 A1 A2 A3 B0 B1 B2 B3 Q0 Q1 X0 X1 X2 X3 Y0 Y1 Y2 Y3 P0 P1 S0 S1 S2 S3
    have A := A.keep hb
    have B := B.keep hb
    have Q := Q.keep hb
    have X := X.keep hb
    have Y := Y.keep hb
    have P := P.keep hb
    have S := S.keep hb
    have G := G.below hb
    have HB := Lib.hid (bstep HB.out hb)
    clear hb
    obtain ⟨A0, A1, A2, A3, -, -, -, -, -⟩ := id A
    obtain ⟨B0, B1, B2, B3, -, -, -, -, -⟩ := id B
    obtain ⟨Q0, Q1, -, -, -⟩ := id Q
    obtain ⟨X0, X1, X2, X3, -, -, -, -, -⟩ := id X
    obtain ⟨Y0, Y1, Y2, Y3, -, -, -, -, -⟩ := id Y
    obtain ⟨P0, P1, -, -, -⟩ := id P
    obtain ⟨S0, S1, S2, S3, -, -, -, -, -⟩ := id S
    clear A0 A1 A2 A3 B0 B1 B2 B3 Q0 Q1 X0 X1 X2 X3 Y0 Y1 Y2 Y3 P0 P1 S0 S1 S2 S3
    have A := A.alloc (.cells #[.int .i64 s1, .int .i64 s2, .int .i64 s5, .int .i64 s6] 33)
    have B := B.alloc (.cells #[.int .i64 s1, .int .i64 s2, .int .i64 s5, .int .i64 s6] 33)
    have Q := Q.alloc (.cells #[.int .i64 s1, .int .i64 s2, .int .i64 s5, .int .i64 s6] 33)
    have X := X.alloc (.cells #[.int .i64 s1, .int .i64 s2, .int .i64 s5, .int .i64 s6] 33)
    have Y := Y.alloc (.cells #[.int .i64 s1, .int .i64 s2, .int .i64 s5, .int .i64 s6] 33)
    have P := P.alloc (.cells #[.int .i64 s1, .int .i64 s2, .int .i64 s5, .int .i64 s6] 33)
    have S := S.alloc (.cells #[.int .i64 s1, .int .i64 s2, .int .i64 s5, .int .i64 s6] 33)
    have G := G.below (below1 w8 (.cells #[.int .i64 s1, .int .i64 s2, .int .i64 s5, .int .i64 s6] 33))
    have R := At4.new w8 (.int .i64 s1) (.int .i64 s2) (.int .i64 s5) (.int .i64 s6) 33
    have HB := Lib.hid (bstep HB.out (below1 w8 (.cells #[.int .i64 s1, .int .i64 s2, .int .i64 s5, .int .i64 s6] 33)))
    obtain ⟨A0, A1, A2, A3, -, -, -, -, -⟩ := id A
    obtain ⟨B0, B1, B2, B3, -, -, -, -, -⟩ := id B
    obtain ⟨Q0, Q1, -, -, -⟩ := id Q
    obtain ⟨X0, X1, X2, X3, -, -, -, -, -⟩ := id X
    obtain ⟨Y0, Y1, Y2, Y3, -, -, -, -, -⟩ := id Y
    obtain ⟨P0, P1, -, -, -⟩ := id P
    obtain ⟨S0, S1, S2, S3, -, -, -, -, -⟩ := id S
    obtain ⟨R0, R1, R2, R3, -, -, -, -, -⟩ := id R
    have hsb : (s4 - s3 == s6 - s5) = true := beq_iff_eq.2 hs
    obtain ⟨hs11, hs12⟩ := hs1
    obtain ⟨hs21, hs22⟩ := hs2
    obtain ⟨hs31, hs32⟩ := hs3
    go_wp2_with fail
    go_ret
    exact ⟨by first | rfl | exact ret_bool (by simp) | (refine ret_bool ?_; simp; omega), HB.out⟩
end Go.Proofs.YtndcjldnnfhedaaDoor
