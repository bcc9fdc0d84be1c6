/- Place: PlaceTurned: the walk. -/
import Derived.Test.YtndcjldnnfhedaaDoorPcX
namespace Go.Proofs.YtndcjldnnfhedaaDoor
open Go.RowKit
set_option linter.unusedVariables false
set_option maxRecDepth 100000

theorem tmodH (n : Int) : (Int.tmod (n + 10800000) 21600000 < 0 → Int.tmod (n + 10800000) 21600000 + 21600000 - 10800000 = mv n) ∧ (¬ Int.tmod (n + 10800000) 21600000 < 0 → Int.tmod (n + 10800000) 21600000 - 10800000 = mv n) ∧ -21600000 < Int.tmod (n + 10800000) 21600000 ∧ Int.tmod (n + 10800000) 21600000 < 21600000 := by
  obtain ⟨m1, m2, m3, m4⟩ := tmodT (n + 10800000)
  unfold mv
  exact ⟨fun h => by rw [m1 h], fun h => by rw [m2 h], m3, m4⟩
theorem pMv (n : Int) (w : World) (h1 : -1099511627776 ≤ n) (h2 : n ≤ 1099511627776) :
    Calls Tryd.prog 12 #[.int .i64 n] w fun e w' => e = .returned (.int .i64 (mv n)) ∧ w' = w := by
  obtain ⟨m1, m2, m3, m4⟩ := tmodH n
  generalize mv n = v at *
  obtain ⟨r, hr⟩ : ∃ r, Int.tmod (n + 10800000) 21600000 = r := ⟨_, rfl⟩
  rw [hr] at m1 m2 m3 m4
  by_cases h : r < 0
  · have E := Lib.hid (m1 h)
    clear m1 m2
    go_enter Tryd.func12, Tryd.ntmps12
    go_wp2
    go_ret
    exact ⟨ret_int (by have := E.out; go_num), rfl⟩
  · have E := Lib.hid (m2 h)
    clear m1 m2
    go_enter Tryd.func12, Tryd.ntmps12
    go_wp2
    go_ret
    exact ⟨ret_int (by have := E.out; go_num), rfl⟩
theorem At4.put23 {w : World} {b : Nat} {x y z t : Value} (h : At4 w b x y z t) (z' t' : Value) : At4 ((w.setCell ⟨b, 2, none⟩ z').setCell ⟨b, 3, none⟩ t') b x y z' t' := by
  have o : ∀ (i j : Nat) (wx : World) (s : Value), i ≠ j → (wx.setCell ⟨b, j, none⟩ s).cell? ⟨b, i, none⟩ = wx.cell? ⟨b, i, none⟩ := fun i j wx s hij => World.cell?_setCell_other _ _ _ s (by simp; try omega)
  have f : ∀ (p q : Addr) (wx : World) (s : Value), (wx.setCell p s).frozen? q = wx.frozen? q := fun p q wx s => World.frozen?_setCell _ _ _ _
  have s2 := World.cell?_setCell_same w ⟨b, 2, none⟩ z' h.c2
  have s3 := World.cell?_setCell_same (w.setCell ⟨b, 2, none⟩ z') ⟨b, 3, none⟩ t' ((o 3 2 _ _ (by omega)).trans h.c3)
  exact ⟨(o 0 3 _ _ (by omega)).trans ((o 0 2 _ _ (by omega)).trans h.c0), (o 1 3 _ _ (by omega)).trans ((o 1 2 _ _ (by omega)).trans h.c1), (o 2 3 _ _ (by omega)).trans s2, s3,
    by rw [f, f]; exact h.f0, by rw [f, f]; exact h.f1, by rw [f, f]; exact h.f2, by rw [f, f]; exact h.f3, by simpa [World.setCell] using h.lt⟩
theorem At4.far23 {w : World} {b c : Nat} {x y z t : Value} (h : At4 w b x y z t) (hne : b ≠ c) (z' t' : Value) : At4 ((w.setCell ⟨c, 2, none⟩ z').setCell ⟨c, 3, none⟩ t') b x y z t := by
  have o : ∀ (i j : Nat) (wx : World) (s : Value), (wx.setCell ⟨c, j, none⟩ s).cell? ⟨b, i, none⟩ = wx.cell? ⟨b, i, none⟩ := fun i j wx s => World.cell?_setCell_other _ _ _ s (by simp; try omega)
  have f : ∀ (p q : Addr) (wx : World) (s : Value), (wx.setCell p s).frozen? q = wx.frozen? q := fun p q wx s => World.frozen?_setCell _ _ _ _
  exact ⟨by rw [o, o]; exact h.c0, by rw [o, o]; exact h.c1, by rw [o, o]; exact h.c2, by rw [o, o]; exact h.c3, by rw [f, f]; exact h.f0, by rw [f, f]; exact h.f1, by rw [f, f]; exact h.f2, by rw [f, f]; exact h.f3, by simpa [World.setCell] using h.lt⟩
set_option maxHeartbeats 2000000 in
theorem pMoved (a b c d t : Int) (w : World) (h : lonOk c d = true) (h1 : -2147483648 ≤ t) (h2 : t ≤ 2147483647) :
    Calls Tryd.prog 11 #[.agg #[.int .i64 a, .int .i64 b, .int .i64 c, .int .i64 d], .int .i64 t] w fun e w' => e = .returned (.agg #[.int .i64 a, .int .i64 b, .int .i64 (mvL c d t), .int .i64 (mvH c d t)]) ∧ Below w.heap.size w w' := by
  obtain ⟨k1, k2, k3, k4, k5⟩ := lon_bd h
  have A := (At4.new w (.int .i64 a) (.int .i64 b) (.int .i64 c) (.int .i64 d) 33).alloc (.cells #[.int .i64 0, .int .i64 0, .int .i64 0, .int .i64 0] 33)
  have R := At4.new (w.alloc (.cells #[.int .i64 a, .int .i64 b, .int .i64 c, .int .i64 d] 33)) (.int .i64 0) (.int .i64 0) (.int .i64 0) (.int .i64 0) 33
  have HB := Lib.hid (below2 w (.cells #[.int .i64 a, .int .i64 b, .int .i64 c, .int .i64 d] 33) (.cells #[.int .i64 0, .int .i64 0, .int .i64 0, .int .i64 0] 33))
  simp at R
  have CM := Lib.hid (fun wx => pMv (c + t) wx (by omega) (by omega))
  have mi := mv_in (c + t)
  unfold mvL mvH
  obtain ⟨m, hm⟩ : ∃ m, mv (c + t) = m := ⟨_, rfl⟩
  rw [hm] at CM mi ⊢
  obtain ⟨i1, i2, -⟩ := mi
  clear hm h
  have n1 : ¬ w.heap.size + 1 = w.heap.size := by omega
  have n2 : ¬ w.heap.size = w.heap.size + 1 := by omega
  by_cases hw : d - c < 21600000
  · rw [if_pos hw, if_pos hw]
    obtain ⟨D, hD⟩ : ∃ D, d - c = D := ⟨_, rfl⟩
    obtain ⟨T, hT⟩ : ∃ T, m + D = T := ⟨_, rfl⟩
    rw [hD, hT]
    have hw2 : D < 21600000 := by omega
    have D0 : 0 ≤ D := by omega
    clear hw
    obtain ⟨A0, A1, A2, A3, Af0, Af1, Af2, Af3, -⟩ := id A
    obtain ⟨R0, R1, R2, R3, Rf0, Rf1, Rf2, Rf3, -⟩ := id R
    go_enter Tryd.func11, Tryd.ntmps11
    go_wp2_with fail
    refine ((CM).out _).mono ?_
    rintro e wz ⟨rfl, rfl⟩
    clear A0 A1 A2 A3 Af0 Af1 Af2 Af3 R0 R1 R2 R3 Rf0 Rf1 Rf2 Rf3
    have A2 := A.put23 (.int .i64 m) (.int .i64 T)
    have R2 := R.far23 n1 (.int .i64 m) (.int .i64 T)
    obtain ⟨a0, a1, a2, a3, af0, af1, af2, af3, -⟩ := id A
    obtain ⟨b0, b1, b2, b3, -, -, -, -, -⟩ := id A2
    obtain ⟨r0, r1, r2, r3, rf0, rf1, rf2, rf3, -⟩ := id R2
    go_wp2_with fail
    refine bodyPost_ret (v := .agg #[.int .i64 a, .int .i64 b, .int .i64 m, .int .i64 T]) (by simp [results, Tryd.results11, go_sem]) rfl ⟨rfl, below2 _ _ _⟩
  · rw [if_neg hw, if_neg hw]
    clear n1 n2 CM
    obtain ⟨A0, A1, A2, A3, Af0, Af1, Af2, Af3, -⟩ := id A
    obtain ⟨R0, R1, R2, R3, Rf0, Rf1, Rf2, Rf3, -⟩ := id R
    go_enter Tryd.func11, Tryd.ntmps11
    go_wp2_with fail
    have RN := At4.new (w.alloc (.cells #[.int .i64 a, .int .i64 b, .int .i64 c, .int .i64 d] 33)) (.int .i64 a) (.int .i64 b) (.int .i64 c) (.int .i64 d) 33
    simp at RN
    obtain ⟨z0, z1, z2, z3, -, -, -, -, -⟩ := RN
    refine bodyPost_ret (v := .agg #[.int .i64 a, .int .i64 b, .int .i64 c, .int .i64 d]) (by simp [results, Tryd.results11, go_sem]) rfl ⟨rfl, below2 _ _ _⟩
set_option maxHeartbeats 2000000 in
theorem turned_bad (a b c d e f g h x y t : Int) (va vb vp : Bool) (w : World) (H : Pc8 w) (hv : (va && (vb && vp)) = false)
    (CW : Hid (∀ wx, Pc8 wx → Calls Tryd.prog 8 #[] wx fun e w' => e = .returned (.bool true) ∧ Below wx.heap.size wx w'))
    (V1 : Hid (∀ wx, HasAll wx → Calls Tryd.prog 9 #[.agg #[.int .i64 a, .int .i64 b, .int .i64 c, .int .i64 d]] wx fun r w' => r = .returned (.bool va) ∧ Below wx.heap.size wx w'))
    (V2 : Hid (∀ wx, HasAll wx → Calls Tryd.prog 9 #[.agg #[.int .i64 e, .int .i64 f, .int .i64 g, .int .i64 h]] wx fun r w' => r = .returned (.bool vb) ∧ Below wx.heap.size wx w'))
    (VP : Hid (∀ wx, Calls Tryd.prog 10 #[.agg #[.int .i64 x, .int .i64 y]] wx fun r w' => r = .returned (.bool vp) ∧ Below wx.heap.size wx w')) :
    Calls Tryd.prog 4 #[.agg #[.int .i64 a, .int .i64 b, .int .i64 c, .int .i64 d], .agg #[.int .i64 e, .int .i64 f, .int .i64 g, .int .i64 h], .agg #[.int .i64 x, .int .i64 y], .int .i32 t] w fun r w' => r = .returned (.bool true) ∧ Below w.heap.size w w' := by
  have A := ((At4.new w (.int .i64 a) (.int .i64 b) (.int .i64 c) (.int .i64 d) 33).alloc (.cells #[.int .i64 e, .int .i64 f, .int .i64 g, .int .i64 h] 33)).alloc (.cells #[.int .i64 x, .int .i64 y] 35)
  have B := (At4.new (w.alloc (.cells #[.int .i64 a, .int .i64 b, .int .i64 c, .int .i64 d] 33)) (.int .i64 e) (.int .i64 f) (.int .i64 g) (.int .i64 h) 33).alloc (.cells #[.int .i64 x, .int .i64 y] 35)
  have Q := At2.new ((w.alloc (.cells #[.int .i64 a, .int .i64 b, .int .i64 c, .int .i64 d] 33)).alloc (.cells #[.int .i64 e, .int .i64 f, .int .i64 g, .int .i64 h] 33)) (.int .i64 x) (.int .i64 y) 35
  have HB := Lib.hid (below3 w (.cells #[.int .i64 a, .int .i64 b, .int .i64 c, .int .i64 d] 33) (.cells #[.int .i64 e, .int .i64 f, .int .i64 g, .int .i64 h] 33) (.cells #[.int .i64 x, .int .i64 y] 35))
  simp at B Q
  have G := H.below HB.out
  obtain ⟨A0, A1, A2, A3, -, -, -, -, -⟩ := id A
  obtain ⟨B0, B1, B2, B3, -, -, -, -, -⟩ := id B
  obtain ⟨Q0, Q1, -, -, -⟩ := id Q
  cases va
  · go_enter Tryd.func4, Tryd.ntmps4
    go_wp2_with fail
    refine ((CW).out _ G).mono ?_
    rintro e w1 ⟨rfl, hb⟩
    clear A0 A1 A2 A3 B0 B1 B2 B3 Q0 Q1
    have A := A.keep hb
    have B := B.keep hb
    have Q := Q.keep hb
    have G := G.below hb
    have HB := Lib.hid (bstep HB.out hb)
    clear hb
    obtain ⟨A0, A1, A2, A3, -, -, -, -, -⟩ := id A
    obtain ⟨B0, B1, B2, B3, -, -, -, -, -⟩ := id B
    obtain ⟨Q0, Q1, -, -, -⟩ := id Q
    go_wp2_with fail
    refine ((V1).out _ G.all).mono ?_
    rintro e w2 ⟨rfl, hb⟩
    clear A0 A1 A2 A3 B0 B1 B2 B3 Q0 Q1
    have A := A.keep hb
    have B := B.keep hb
    have Q := Q.keep hb
    have G := G.below hb
    have HB := Lib.hid (bstep HB.out hb)
    clear hb
    obtain ⟨A0, A1, A2, A3, -, -, -, -, -⟩ := id A
    obtain ⟨B0, B1, B2, B3, -, -, -, -, -⟩ := id B
    obtain ⟨Q0, Q1, -, -, -⟩ := id Q
    go_wp2_with fail
    go_ret
    exact ⟨by first | rfl | exact ret_bool (by simp), HB.out⟩
  · cases vb
    · go_enter Tryd.func4, Tryd.ntmps4
      go_wp2_with fail
      refine ((CW).out _ G).mono ?_
      rintro e w1 ⟨rfl, hb⟩
      clear A0 A1 A2 A3 B0 B1 B2 B3 Q0 Q1
      have A := A.keep hb
      have B := B.keep hb
      have Q := Q.keep hb
      have G := G.below hb
      have HB := Lib.hid (bstep HB.out hb)
      clear hb
      obtain ⟨A0, A1, A2, A3, -, -, -, -, -⟩ := id A
      obtain ⟨B0, B1, B2, B3, -, -, -, -, -⟩ := id B
      obtain ⟨Q0, Q1, -, -, -⟩ := id Q
      go_wp2_with fail
      refine ((V1).out _ G.all).mono ?_
      rintro e w2 ⟨rfl, hb⟩
      clear A0 A1 A2 A3 B0 B1 B2 B3 Q0 Q1
      have A := A.keep hb
      have B := B.keep hb
      have Q := Q.keep hb
      have G := G.below hb
      have HB := Lib.hid (bstep HB.out hb)
      clear hb
      obtain ⟨A0, A1, A2, A3, -, -, -, -, -⟩ := id A
      obtain ⟨B0, B1, B2, B3, -, -, -, -, -⟩ := id B
      obtain ⟨Q0, Q1, -, -, -⟩ := id Q
      go_wp2_with fail
      refine ((V2).out _ G.all).mono ?_
      rintro e w3 ⟨rfl, hb⟩
      clear A0 A1 A2 A3 B0 B1 B2 B3 Q0 Q1
      have A := A.keep hb
      have B := B.keep hb
      have Q := Q.keep hb
      have G := G.below hb
      have HB := Lib.hid (bstep HB.out hb)
      clear hb
      obtain ⟨A0, A1, A2, A3, -, -, -, -, -⟩ := id A
      obtain ⟨B0, B1, B2, B3, -, -, -, -, -⟩ := id B
      obtain ⟨Q0, Q1, -, -, -⟩ := id Q
      go_wp2_with fail
      go_ret
      exact ⟨by first | rfl | exact ret_bool (by simp), HB.out⟩
    · obtain rfl : vp = false := by simpa using hv
      go_enter Tryd.func4, Tryd.ntmps4
      go_wp2_with fail
      refine ((CW).out _ G).mono ?_
      rintro e w1 ⟨rfl, hb⟩
      clear A0 A1 A2 A3 B0 B1 B2 B3 Q0 Q1
      have A := A.keep hb
      have B := B.keep hb
      have Q := Q.keep hb
      have G := G.below hb
      have HB := Lib.hid (bstep HB.out hb)
      clear hb
      obtain ⟨A0, A1, A2, A3, -, -, -, -, -⟩ := id A
      obtain ⟨B0, B1, B2, B3, -, -, -, -, -⟩ := id B
      obtain ⟨Q0, Q1, -, -, -⟩ := id Q
      go_wp2_with fail
      refine ((V1).out _ G.all).mono ?_
      rintro e w2 ⟨rfl, hb⟩
      clear A0 A1 A2 A3 B0 B1 B2 B3 Q0 Q1
      have A := A.keep hb
      have B := B.keep hb
      have Q := Q.keep hb
      have G := G.below hb
      have HB := Lib.hid (bstep HB.out hb)
      clear hb
      obtain ⟨A0, A1, A2, A3, -, -, -, -, -⟩ := id A
      obtain ⟨B0, B1, B2, B3, -, -, -, -, -⟩ := id B
      obtain ⟨Q0, Q1, -, -, -⟩ := id Q
      go_wp2_with fail
      refine ((V2).out _ G.all).mono ?_
      rintro e w3 ⟨rfl, hb⟩
      clear A0 A1 A2 A3 B0 B1 B2 B3 Q0 Q1
      have A := A.keep hb
      have B := B.keep hb
      have Q := Q.keep hb
      have G := G.below hb
      have HB := Lib.hid (bstep HB.out hb)
      clear hb
      obtain ⟨A0, A1, A2, A3, -, -, -, -, -⟩ := id A
      obtain ⟨B0, B1, B2, B3, -, -, -, -, -⟩ := id B
      obtain ⟨Q0, Q1, -, -, -⟩ := id Q
      go_wp2_with fail
      refine ((VP).out _).mono ?_
      rintro e w4 ⟨rfl, hb⟩
      clear A0 A1 A2 A3 B0 B1 B2 B3 Q0 Q1
      have A := A.keep hb
      have B := B.keep hb
      have Q := Q.keep hb
      have G := G.below hb
      have HB := Lib.hid (bstep HB.out hb)
      clear hb
      obtain ⟨A0, A1, A2, A3, -, -, -, -, -⟩ := id A
      obtain ⟨B0, B1, B2, B3, -, -, -, -, -⟩ := id B
      obtain ⟨Q0, Q1, -, -, -⟩ := id Q
      go_wp2_with fail
      go_ret
      exact ⟨by first | rfl | exact ret_bool (by simp), HB.out⟩
end Go.Proofs.YtndcjldnnfhedaaDoor
