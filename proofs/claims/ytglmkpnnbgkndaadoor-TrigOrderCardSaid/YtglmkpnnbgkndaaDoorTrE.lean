/- Trig: contracts of the reference's Valid, sine, Sin, Cos, Hav. -/
import Derived.Test.YtglmkpnnbgkndaaDoorTrD
namespace Go.Proofs.YtglmkpnnbgkndaaDoor
open Go.RowKit
set_option linter.unusedVariables false
set_option maxRecDepth 100000

/-- one store into a block of two -/
theorem At2.put0 {w : World} {b : Nat} {x y : Value} (h : At2 w b x y) (u : Value) : At2 (w.setCell ⟨b, 0, none⟩ u) b u y :=
  ⟨World.cell?_setCell_same _ _ _ h.c0, (World.cell?_setCell_other _ _ _ _ (by simp)).trans h.c1, (World.frozen?_setCell _ _ _ _).trans h.f0, (World.frozen?_setCell _ _ _ _).trans h.f1, by simpa [World.setCell] using h.lt⟩
theorem At2.put1 {w : World} {b : Nat} {x y : Value} (h : At2 w b x y) (u : Value) : At2 (w.setCell ⟨b, 1, none⟩ u) b x u :=
  ⟨(World.cell?_setCell_other _ _ _ _ (by simp)).trans h.c0, World.cell?_setCell_same _ _ _ h.c1, (World.frozen?_setCell _ _ _ _).trans h.f0, (World.frozen?_setCell _ _ _ _).trans h.f1, by simpa [World.setCell] using h.lt⟩
theorem At2.off {w : World} {b c k : Nat} {x y : Value} (h : At2 w b x y) (hne : b ≠ c) (u : Value) : At2 (w.setCell ⟨c, k, none⟩ u) b x y :=
  ⟨(World.cell?_setCell_other _ _ _ _ (by simp; try omega)).trans h.c0, (World.cell?_setCell_other _ _ _ _ (by simp; try omega)).trans h.c1, (World.frozen?_setCell _ _ _ _).trans h.f0, (World.frozen?_setCell _ _ _ _).trans h.f1, by simpa [World.setCell] using h.lt⟩
theorem rValid6 (a b : Int) (w : World) :
    Calls Tryd.prog 15 #[.agg #[.int .i64 a, .int .i64 b]] w fun e w' => e = .returned (.bool (aok a b)) ∧ Below w.heap.size w w' := by
  obtain ⟨a0, a1, af0, af1, alt⟩ := At2.new w (.int .i64 a) (.int .i64 b) 23
  unfold aok
  by_cases c1 : a ≤ b
  · by_cases c2 : a ≥ -1099511627776
    · by_cases c3 : b ≤ 1099511627776
      · rw [decide_eq_true (show -1099511627776 ≤ a ∧ b ≤ 1099511627776 ∧ a ≤ b by omega)]
        go_enter Tryd.func15, Tryd.ntmps15
        go_wp2
        go_ret
        exact ⟨rfl, below1 _ _⟩
      · rw [decide_eq_false (show ¬ (-1099511627776 ≤ a ∧ b ≤ 1099511627776 ∧ a ≤ b) by omega)]
        have c3' : decide (b ≤ 1099511627776) = false := decide_eq_false c3
        go_enter Tryd.func15, Tryd.ntmps15
        go_wp2
        go_ret
        exact ⟨rfl, below1 _ _⟩
    · rw [decide_eq_false (show ¬ (-1099511627776 ≤ a ∧ b ≤ 1099511627776 ∧ a ≤ b) by omega)]
      go_enter Tryd.func15, Tryd.ntmps15
      go_wp2
      go_ret
      exact ⟨rfl, below1 _ _⟩
  · rw [decide_eq_false (show ¬ (-1099511627776 ≤ a ∧ b ≤ 1099511627776 ∧ a ≤ b) by omega)]
    go_enter Tryd.func15, Tryd.ntmps15
    go_wp2
    go_ret
    exact ⟨rfl, below1 _ _⟩
theorem rValid6_is (a b : Int) (r : Bool) (h : aok a b = r) (w : World) :
    Calls Tryd.prog 15 #[.agg #[.int .i64 a, .int .i64 b]] w fun e w' => e = .returned (.bool r) ∧ Below w.heap.size w w' := h ▸ rValid6 a b w


set_option maxHeartbeats 1000000 in
theorem rSine_ff (a b x y u v : Int) (w : World)
    (C1 : Hid (∀ wx, Calls Tryd.prog 49 #[.int .i64 a] wx fun e w' => e = .returned (.tuple #[.int .i64 x, .int .i64 y]) ∧ Below wx.heap.size wx w'))
    (C2 : Hid (∀ wx, Calls Tryd.prog 49 #[.int .i64 b] wx fun e w' => e = .returned (.tuple #[.int .i64 u, .int .i64 v]) ∧ Below wx.heap.size wx w'))
    (C3 : Hid (∀ wx, Calls Tryd.prog 36 #[.agg #[.int .i64 a, .int .i64 b], .int .i64 (5400000)] wx fun e w' => e = .returned (.bool false) ∧ Below wx.heap.size wx w'))
    (C4 : Hid (∀ wx, Calls Tryd.prog 36 #[.agg #[.int .i64 a, .int .i64 b], .int .i64 (-5400000)] wx fun e w' => e = .returned (.bool false) ∧ Below wx.heap.size wx w')) :
    Calls Tryd.prog 34 #[.agg #[.int .i64 a, .int .i64 b]] w fun e w' => e = .returned (.agg #[.int .i64 (min x u), .int .i64 (max y v)]) ∧ Below w.heap.size w w' := by
  by_cases k1 : u < x
  · rw [show min x u = u by omega]
    by_cases k2 : v > y
    · rw [show max y v = v by omega]
      have A := At2.new w (.int .i64 a) (.int .i64 b) 23
      have A := A.alloc (.cells #[.int .i64 0, .int .i64 0] 25)
      have R := At2.new (w.alloc (.cells #[.int .i64 a, .int .i64 b] 23)) (.int .i64 0) (.int .i64 0) 25
      simp at R
      have HB := Lib.hid (bstep (bstep (Below.refl w.heap.size w) (below1 w (.cells #[.int .i64 a, .int .i64 b] 23))) (below1 (w.alloc (.cells #[.int .i64 a, .int .i64 b] 23)) (.cells #[.int .i64 0, .int .i64 0] 25)))
      go_enter Tryd.func34, Tryd.ntmps34
      obtain ⟨A0, A1, A2, A3, A4⟩ := id A
      obtain ⟨R0, R1, R2, R3, R4⟩ := id R
      go_wp2_with fail
      refine (C1.out _).mono ?_
      rintro e w1 ⟨rfl, hb⟩
      have A := A.keep hb
      have R := R.keep hb
      have HB := Lib.hid (bstep HB.out hb)
      clear hb A0 A1 A2 A3 A4 R0 R1 R2 R3 R4
      obtain ⟨A0, A1, A2, A3, A4⟩ := id A
      obtain ⟨R0, R1, R2, R3, R4⟩ := id R
      go_wp2_with fail
      refine (C2.out _).mono ?_
      rintro e w2 ⟨rfl, hb⟩
      have A := A.keep hb
      have R := R.keep hb
      have HB := Lib.hid (bstep HB.out hb)
      clear hb A0 A1 A2 A3 A4 R0 R1 R2 R3 R4
      have ltA := A.lt
      have ltR := R.lt
      have A := A.alloc (.cells #[.int .i64 u, .int .i64 v] 25)
      have R := R.alloc (.cells #[.int .i64 u, .int .i64 v] 25)
      have O := At2.new w2 (.int .i64 u) (.int .i64 v) 25
      have HB := Lib.hid (bstep HB.out (below1 w2 (.cells #[.int .i64 u, .int .i64 v] 25)))
      obtain ⟨A0, A1, A2, A3, A4⟩ := id A
      obtain ⟨R0, R1, R2, R3, R4⟩ := id R
      obtain ⟨O0, O1, O2, O3, O4⟩ := id O
      go_wp2_with fail
      refine (C3.out _).mono ?_
      rintro e w3 ⟨rfl, hb⟩
      have A := A.keep hb
      have R := R.keep hb
      have O := O.keep hb
      have HB := Lib.hid (bstep HB.out hb)
      clear hb A0 A1 A2 A3 A4 R0 R1 R2 R3 R4 O0 O1 O2 O3 O4
      obtain ⟨A0, A1, A2, A3, A4⟩ := id A
      obtain ⟨R0, R1, R2, R3, R4⟩ := id R
      obtain ⟨O0, O1, O2, O3, O4⟩ := id O
      go_wp2_with fail
      refine (C4.out _).mono ?_
      rintro e w4 ⟨rfl, hb⟩
      have A := A.keep hb
      have R := R.keep hb
      have O := O.keep hb
      have HB := Lib.hid (bstep HB.out hb)
      clear hb A0 A1 A2 A3 A4 R0 R1 R2 R3 R4 O0 O1 O2 O3 O4
      obtain ⟨A0, A1, A2, A3, A4⟩ := id A
      obtain ⟨R0, R1, R2, R3, R4⟩ := id R
      obtain ⟨O0, O1, O2, O3, O4⟩ := id O
      obtain ⟨s0, s1⟩ := set2 R0 R1 (.int .i64 (u)) (.int .i64 (v))
      go_wp2_with fail
      refine bodyPost_ret (v := .agg #[.int .i64 (u), .int .i64 (v)]) (by simp [results, Tryd.results34, go_sem, s0, s1]) rfl ⟨rfl, ?_⟩
      exact below_set2 HB.out (by omega) _ _
    · rw [show max y v = y by omega]
      have A := At2.new w (.int .i64 a) (.int .i64 b) 23
      have A := A.alloc (.cells #[.int .i64 0, .int .i64 0] 25)
      have R := At2.new (w.alloc (.cells #[.int .i64 a, .int .i64 b] 23)) (.int .i64 0) (.int .i64 0) 25
      simp at R
      have HB := Lib.hid (bstep (bstep (Below.refl w.heap.size w) (below1 w (.cells #[.int .i64 a, .int .i64 b] 23))) (below1 (w.alloc (.cells #[.int .i64 a, .int .i64 b] 23)) (.cells #[.int .i64 0, .int .i64 0] 25)))
      go_enter Tryd.func34, Tryd.ntmps34
      obtain ⟨A0, A1, A2, A3, A4⟩ := id A
      obtain ⟨R0, R1, R2, R3, R4⟩ := id R
      go_wp2_with fail
      refine (C1.out _).mono ?_
      rintro e w1 ⟨rfl, hb⟩
      have A := A.keep hb
      have R := R.keep hb
      have HB := Lib.hid (bstep HB.out hb)
      clear hb A0 A1 A2 A3 A4 R0 R1 R2 R3 R4
      obtain ⟨A0, A1, A2, A3, A4⟩ := id A
      obtain ⟨R0, R1, R2, R3, R4⟩ := id R
      go_wp2_with fail
      refine (C2.out _).mono ?_
      rintro e w2 ⟨rfl, hb⟩
      have A := A.keep hb
      have R := R.keep hb
      have HB := Lib.hid (bstep HB.out hb)
      clear hb A0 A1 A2 A3 A4 R0 R1 R2 R3 R4
      have ltA := A.lt
      have ltR := R.lt
      have A := A.alloc (.cells #[.int .i64 u, .int .i64 y] 25)
      have R := R.alloc (.cells #[.int .i64 u, .int .i64 y] 25)
      have O := At2.new w2 (.int .i64 u) (.int .i64 y) 25
      have HB := Lib.hid (bstep HB.out (below1 w2 (.cells #[.int .i64 u, .int .i64 y] 25)))
      obtain ⟨A0, A1, A2, A3, A4⟩ := id A
      obtain ⟨R0, R1, R2, R3, R4⟩ := id R
      obtain ⟨O0, O1, O2, O3, O4⟩ := id O
      go_wp2_with fail
      refine (C3.out _).mono ?_
      rintro e w3 ⟨rfl, hb⟩
      have A := A.keep hb
      have R := R.keep hb
      have O := O.keep hb
      have HB := Lib.hid (bstep HB.out hb)
      clear hb A0 A1 A2 A3 A4 R0 R1 R2 R3 R4 O0 O1 O2 O3 O4
      obtain ⟨A0, A1, A2, A3, A4⟩ := id A
      obtain ⟨R0, R1, R2, R3, R4⟩ := id R
      obtain ⟨O0, O1, O2, O3, O4⟩ := id O
      go_wp2_with fail
      refine (C4.out _).mono ?_
      rintro e w4 ⟨rfl, hb⟩
      have A := A.keep hb
      have R := R.keep hb
      have O := O.keep hb
      have HB := Lib.hid (bstep HB.out hb)
      clear hb A0 A1 A2 A3 A4 R0 R1 R2 R3 R4 O0 O1 O2 O3 O4
      obtain ⟨A0, A1, A2, A3, A4⟩ := id A
      obtain ⟨R0, R1, R2, R3, R4⟩ := id R
      obtain ⟨O0, O1, O2, O3, O4⟩ := id O
      obtain ⟨s0, s1⟩ := set2 R0 R1 (.int .i64 (u)) (.int .i64 (y))
      go_wp2_with fail
      refine bodyPost_ret (v := .agg #[.int .i64 (u), .int .i64 (y)]) (by simp [results, Tryd.results34, go_sem, s0, s1]) rfl ⟨rfl, ?_⟩
      exact below_set2 HB.out (by omega) _ _
  · rw [show min x u = x by omega]
    by_cases k2 : v > y
    · rw [show max y v = v by omega]
      have A := At2.new w (.int .i64 a) (.int .i64 b) 23
      have A := A.alloc (.cells #[.int .i64 0, .int .i64 0] 25)
      have R := At2.new (w.alloc (.cells #[.int .i64 a, .int .i64 b] 23)) (.int .i64 0) (.int .i64 0) 25
      simp at R
      have HB := Lib.hid (bstep (bstep (Below.refl w.heap.size w) (below1 w (.cells #[.int .i64 a, .int .i64 b] 23))) (below1 (w.alloc (.cells #[.int .i64 a, .int .i64 b] 23)) (.cells #[.int .i64 0, .int .i64 0] 25)))
      go_enter Tryd.func34, Tryd.ntmps34
      obtain ⟨A0, A1, A2, A3, A4⟩ := id A
      obtain ⟨R0, R1, R2, R3, R4⟩ := id R
      go_wp2_with fail
      refine (C1.out _).mono ?_
      rintro e w1 ⟨rfl, hb⟩
      have A := A.keep hb
      have R := R.keep hb
      have HB := Lib.hid (bstep HB.out hb)
      clear hb A0 A1 A2 A3 A4 R0 R1 R2 R3 R4
      obtain ⟨A0, A1, A2, A3, A4⟩ := id A
      obtain ⟨R0, R1, R2, R3, R4⟩ := id R
      go_wp2_with fail
      refine (C2.out _).mono ?_
      rintro e w2 ⟨rfl, hb⟩
      have A := A.keep hb
      have R := R.keep hb
      have HB := Lib.hid (bstep HB.out hb)
      clear hb A0 A1 A2 A3 A4 R0 R1 R2 R3 R4
      have ltA := A.lt
      have ltR := R.lt
      have A := A.alloc (.cells #[.int .i64 x, .int .i64 v] 25)
      have R := R.alloc (.cells #[.int .i64 x, .int .i64 v] 25)
      have O := At2.new w2 (.int .i64 x) (.int .i64 v) 25
      have HB := Lib.hid (bstep HB.out (below1 w2 (.cells #[.int .i64 x, .int .i64 v] 25)))
      obtain ⟨A0, A1, A2, A3, A4⟩ := id A
      obtain ⟨R0, R1, R2, R3, R4⟩ := id R
      obtain ⟨O0, O1, O2, O3, O4⟩ := id O
      go_wp2_with fail
      refine (C3.out _).mono ?_
      rintro e w3 ⟨rfl, hb⟩
      have A := A.keep hb
      have R := R.keep hb
      have O := O.keep hb
      have HB := Lib.hid (bstep HB.out hb)
      clear hb A0 A1 A2 A3 A4 R0 R1 R2 R3 R4 O0 O1 O2 O3 O4
      obtain ⟨A0, A1, A2, A3, A4⟩ := id A
      obtain ⟨R0, R1, R2, R3, R4⟩ := id R
      obtain ⟨O0, O1, O2, O3, O4⟩ := id O
      go_wp2_with fail
      refine (C4.out _).mono ?_
      rintro e w4 ⟨rfl, hb⟩
      have A := A.keep hb
      have R := R.keep hb
      have O := O.keep hb
      have HB := Lib.hid (bstep HB.out hb)
      clear hb A0 A1 A2 A3 A4 R0 R1 R2 R3 R4 O0 O1 O2 O3 O4
      obtain ⟨A0, A1, A2, A3, A4⟩ := id A
      obtain ⟨R0, R1, R2, R3, R4⟩ := id R
      obtain ⟨O0, O1, O2, O3, O4⟩ := id O
      obtain ⟨s0, s1⟩ := set2 R0 R1 (.int .i64 (x)) (.int .i64 (v))
      go_wp2_with fail
      refine bodyPost_ret (v := .agg #[.int .i64 (x), .int .i64 (v)]) (by simp [results, Tryd.results34, go_sem, s0, s1]) rfl ⟨rfl, ?_⟩
      exact below_set2 HB.out (by omega) _ _
    · rw [show max y v = y by omega]
      have A := At2.new w (.int .i64 a) (.int .i64 b) 23
      have A := A.alloc (.cells #[.int .i64 0, .int .i64 0] 25)
      have R := At2.new (w.alloc (.cells #[.int .i64 a, .int .i64 b] 23)) (.int .i64 0) (.int .i64 0) 25
      simp at R
      have HB := Lib.hid (bstep (bstep (Below.refl w.heap.size w) (below1 w (.cells #[.int .i64 a, .int .i64 b] 23))) (below1 (w.alloc (.cells #[.int .i64 a, .int .i64 b] 23)) (.cells #[.int .i64 0, .int .i64 0] 25)))
      go_enter Tryd.func34, Tryd.ntmps34
      obtain ⟨A0, A1, A2, A3, A4⟩ := id A
      obtain ⟨R0, R1, R2, R3, R4⟩ := id R
      go_wp2_with fail
      refine (C1.out _).mono ?_
      rintro e w1 ⟨rfl, hb⟩
      have A := A.keep hb
      have R := R.keep hb
      have HB := Lib.hid (bstep HB.out hb)
      clear hb A0 A1 A2 A3 A4 R0 R1 R2 R3 R4
      obtain ⟨A0, A1, A2, A3, A4⟩ := id A
      obtain ⟨R0, R1, R2, R3, R4⟩ := id R
      go_wp2_with fail
      refine (C2.out _).mono ?_
      rintro e w2 ⟨rfl, hb⟩
      have A := A.keep hb
      have R := R.keep hb
      have HB := Lib.hid (bstep HB.out hb)
      clear hb A0 A1 A2 A3 A4 R0 R1 R2 R3 R4
      have ltA := A.lt
      have ltR := R.lt
      have A := A.alloc (.cells #[.int .i64 x, .int .i64 y] 25)
      have R := R.alloc (.cells #[.int .i64 x, .int .i64 y] 25)
      have O := At2.new w2 (.int .i64 x) (.int .i64 y) 25
      have HB := Lib.hid (bstep HB.out (below1 w2 (.cells #[.int .i64 x, .int .i64 y] 25)))
      obtain ⟨A0, A1, A2, A3, A4⟩ := id A
      obtain ⟨R0, R1, R2, R3, R4⟩ := id R
      obtain ⟨O0, O1, O2, O3, O4⟩ := id O
      go_wp2_with fail
      refine (C3.out _).mono ?_
      rintro e w3 ⟨rfl, hb⟩
      have A := A.keep hb
      have R := R.keep hb
      have O := O.keep hb
      have HB := Lib.hid (bstep HB.out hb)
      clear hb A0 A1 A2 A3 A4 R0 R1 R2 R3 R4 O0 O1 O2 O3 O4
      obtain ⟨A0, A1, A2, A3, A4⟩ := id A
      obtain ⟨R0, R1, R2, R3, R4⟩ := id R
      obtain ⟨O0, O1, O2, O3, O4⟩ := id O
      go_wp2_with fail
      refine (C4.out _).mono ?_
      rintro e w4 ⟨rfl, hb⟩
      have A := A.keep hb
      have R := R.keep hb
      have O := O.keep hb
      have HB := Lib.hid (bstep HB.out hb)
      clear hb A0 A1 A2 A3 A4 R0 R1 R2 R3 R4 O0 O1 O2 O3 O4
      obtain ⟨A0, A1, A2, A3, A4⟩ := id A
      obtain ⟨R0, R1, R2, R3, R4⟩ := id R
      obtain ⟨O0, O1, O2, O3, O4⟩ := id O
      obtain ⟨s0, s1⟩ := set2 R0 R1 (.int .i64 (x)) (.int .i64 (y))
      go_wp2_with fail
      refine bodyPost_ret (v := .agg #[.int .i64 (x), .int .i64 (y)]) (by simp [results, Tryd.results34, go_sem, s0, s1]) rfl ⟨rfl, ?_⟩
      exact below_set2 HB.out (by omega) _ _

set_option maxHeartbeats 1000000 in
theorem rSine_ft (a b x y u v : Int) (w : World)
    (C1 : Hid (∀ wx, Calls Tryd.prog 49 #[.int .i64 a] wx fun e w' => e = .returned (.tuple #[.int .i64 x, .int .i64 y]) ∧ Below wx.heap.size wx w'))
    (C2 : Hid (∀ wx, Calls Tryd.prog 49 #[.int .i64 b] wx fun e w' => e = .returned (.tuple #[.int .i64 u, .int .i64 v]) ∧ Below wx.heap.size wx w'))
    (C3 : Hid (∀ wx, Calls Tryd.prog 36 #[.agg #[.int .i64 a, .int .i64 b], .int .i64 (5400000)] wx fun e w' => e = .returned (.bool false) ∧ Below wx.heap.size wx w'))
    (C4 : Hid (∀ wx, Calls Tryd.prog 36 #[.agg #[.int .i64 a, .int .i64 b], .int .i64 (-5400000)] wx fun e w' => e = .returned (.bool true) ∧ Below wx.heap.size wx w')) :
    Calls Tryd.prog 34 #[.agg #[.int .i64 a, .int .i64 b]] w fun e w' => e = .returned (.agg #[.int .i64 (-1073741824), .int .i64 (max y v)]) ∧ Below w.heap.size w w' := by
  by_cases k1 : u < x
  · skip
    by_cases k2 : v > y
    · rw [show max y v = v by omega]
      have A := At2.new w (.int .i64 a) (.int .i64 b) 23
      have A := A.alloc (.cells #[.int .i64 0, .int .i64 0] 25)
      have R := At2.new (w.alloc (.cells #[.int .i64 a, .int .i64 b] 23)) (.int .i64 0) (.int .i64 0) 25
      simp at R
      have HB := Lib.hid (bstep (bstep (Below.refl w.heap.size w) (below1 w (.cells #[.int .i64 a, .int .i64 b] 23))) (below1 (w.alloc (.cells #[.int .i64 a, .int .i64 b] 23)) (.cells #[.int .i64 0, .int .i64 0] 25)))
      go_enter Tryd.func34, Tryd.ntmps34
      obtain ⟨A0, A1, A2, A3, A4⟩ := id A
      obtain ⟨R0, R1, R2, R3, R4⟩ := id R
      go_wp2_with fail
      refine (C1.out _).mono ?_
      rintro e w1 ⟨rfl, hb⟩
      have A := A.keep hb
      have R := R.keep hb
      have HB := Lib.hid (bstep HB.out hb)
      clear hb A0 A1 A2 A3 A4 R0 R1 R2 R3 R4
      obtain ⟨A0, A1, A2, A3, A4⟩ := id A
      obtain ⟨R0, R1, R2, R3, R4⟩ := id R
      go_wp2_with fail
      refine (C2.out _).mono ?_
      rintro e w2 ⟨rfl, hb⟩
      have A := A.keep hb
      have R := R.keep hb
      have HB := Lib.hid (bstep HB.out hb)
      clear hb A0 A1 A2 A3 A4 R0 R1 R2 R3 R4
      have ltA := A.lt
      have ltR := R.lt
      have A := A.alloc (.cells #[.int .i64 u, .int .i64 v] 25)
      have R := R.alloc (.cells #[.int .i64 u, .int .i64 v] 25)
      have O := At2.new w2 (.int .i64 u) (.int .i64 v) 25
      have HB := Lib.hid (bstep HB.out (below1 w2 (.cells #[.int .i64 u, .int .i64 v] 25)))
      obtain ⟨A0, A1, A2, A3, A4⟩ := id A
      obtain ⟨R0, R1, R2, R3, R4⟩ := id R
      obtain ⟨O0, O1, O2, O3, O4⟩ := id O
      go_wp2_with fail
      refine (C3.out _).mono ?_
      rintro e w3 ⟨rfl, hb⟩
      have A := A.keep hb
      have R := R.keep hb
      have O := O.keep hb
      have HB := Lib.hid (bstep HB.out hb)
      clear hb A0 A1 A2 A3 A4 R0 R1 R2 R3 R4 O0 O1 O2 O3 O4
      obtain ⟨A0, A1, A2, A3, A4⟩ := id A
      obtain ⟨R0, R1, R2, R3, R4⟩ := id R
      obtain ⟨O0, O1, O2, O3, O4⟩ := id O
      go_wp2_with fail
      refine (C4.out _).mono ?_
      rintro e w4 ⟨rfl, hb⟩
      have A := A.keep hb
      have R := R.keep hb
      have O := O.keep hb
      have HB := Lib.hid (bstep HB.out hb)
      clear hb A0 A1 A2 A3 A4 R0 R1 R2 R3 R4 O0 O1 O2 O3 O4
      obtain ⟨A0, A1, A2, A3, A4⟩ := id A
      obtain ⟨R0, R1, R2, R3, R4⟩ := id R
      obtain ⟨O0, O1, O2, O3, O4⟩ := id O
      have R' := R.off (k := 0) (show w.heap.size + 1 ≠ w2.heap.size by omega) (.int .i64 (-1073741824))
      have O' := O.put0 (.int .i64 (-1073741824))
      have HB := Lib.hid (HB.out.setCell (p := ⟨w2.heap.size, 0, none⟩) (by show w.heap.size ≤ w2.heap.size; omega) (.int .i64 (-1073741824)))
      obtain ⟨R0', R1', R2', R3', R4'⟩ := id R'
      obtain ⟨O0', O1', O2', O3', O4'⟩ := id O'
      obtain ⟨s0, s1⟩ := set2 R0' R1' (.int .i64 (-1073741824)) (.int .i64 (v))
      go_wp2_with fail
      refine bodyPost_ret (v := .agg #[.int .i64 (-1073741824), .int .i64 (v)]) (by simp [results, Tryd.results34, go_sem, s0, s1]) rfl ⟨rfl, ?_⟩
      exact below_set2 HB.out (by omega) _ _
    · rw [show max y v = y by omega]
      have A := At2.new w (.int .i64 a) (.int .i64 b) 23
      have A := A.alloc (.cells #[.int .i64 0, .int .i64 0] 25)
      have R := At2.new (w.alloc (.cells #[.int .i64 a, .int .i64 b] 23)) (.int .i64 0) (.int .i64 0) 25
      simp at R
      have HB := Lib.hid (bstep (bstep (Below.refl w.heap.size w) (below1 w (.cells #[.int .i64 a, .int .i64 b] 23))) (below1 (w.alloc (.cells #[.int .i64 a, .int .i64 b] 23)) (.cells #[.int .i64 0, .int .i64 0] 25)))
      go_enter Tryd.func34, Tryd.ntmps34
      obtain ⟨A0, A1, A2, A3, A4⟩ := id A
      obtain ⟨R0, R1, R2, R3, R4⟩ := id R
      go_wp2_with fail
      refine (C1.out _).mono ?_
      rintro e w1 ⟨rfl, hb⟩
      have A := A.keep hb
      have R := R.keep hb
      have HB := Lib.hid (bstep HB.out hb)
      clear hb A0 A1 A2 A3 A4 R0 R1 R2 R3 R4
      obtain ⟨A0, A1, A2, A3, A4⟩ := id A
      obtain ⟨R0, R1, R2, R3, R4⟩ := id R
      go_wp2_with fail
      refine (C2.out _).mono ?_
      rintro e w2 ⟨rfl, hb⟩
      have A := A.keep hb
      have R := R.keep hb
      have HB := Lib.hid (bstep HB.out hb)
      clear hb A0 A1 A2 A3 A4 R0 R1 R2 R3 R4
      have ltA := A.lt
      have ltR := R.lt
      have A := A.alloc (.cells #[.int .i64 u, .int .i64 y] 25)
      have R := R.alloc (.cells #[.int .i64 u, .int .i64 y] 25)
      have O := At2.new w2 (.int .i64 u) (.int .i64 y) 25
      have HB := Lib.hid (bstep HB.out (below1 w2 (.cells #[.int .i64 u, .int .i64 y] 25)))
      obtain ⟨A0, A1, A2, A3, A4⟩ := id A
      obtain ⟨R0, R1, R2, R3, R4⟩ := id R
      obtain ⟨O0, O1, O2, O3, O4⟩ := id O
      go_wp2_with fail
      refine (C3.out _).mono ?_
      rintro e w3 ⟨rfl, hb⟩
      have A := A.keep hb
      have R := R.keep hb
      have O := O.keep hb
      have HB := Lib.hid (bstep HB.out hb)
      clear hb A0 A1 A2 A3 A4 R0 R1 R2 R3 R4 O0 O1 O2 O3 O4
      obtain ⟨A0, A1, A2, A3, A4⟩ := id A
      obtain ⟨R0, R1, R2, R3, R4⟩ := id R
      obtain ⟨O0, O1, O2, O3, O4⟩ := id O
      go_wp2_with fail
      refine (C4.out _).mono ?_
      rintro e w4 ⟨rfl, hb⟩
      have A := A.keep hb
      have R := R.keep hb
      have O := O.keep hb
      have HB := Lib.hid (bstep HB.out hb)
      clear hb A0 A1 A2 A3 A4 R0 R1 R2 R3 R4 O0 O1 O2 O3 O4
      obtain ⟨A0, A1, A2, A3, A4⟩ := id A
      obtain ⟨R0, R1, R2, R3, R4⟩ := id R
      obtain ⟨O0, O1, O2, O3, O4⟩ := id O
      have R' := R.off (k := 0) (show w.heap.size + 1 ≠ w2.heap.size by omega) (.int .i64 (-1073741824))
      have O' := O.put0 (.int .i64 (-1073741824))
      have HB := Lib.hid (HB.out.setCell (p := ⟨w2.heap.size, 0, none⟩) (by show w.heap.size ≤ w2.heap.size; omega) (.int .i64 (-1073741824)))
      obtain ⟨R0', R1', R2', R3', R4'⟩ := id R'
      obtain ⟨O0', O1', O2', O3', O4'⟩ := id O'
      obtain ⟨s0, s1⟩ := set2 R0' R1' (.int .i64 (-1073741824)) (.int .i64 (y))
      go_wp2_with fail
      refine bodyPost_ret (v := .agg #[.int .i64 (-1073741824), .int .i64 (y)]) (by simp [results, Tryd.results34, go_sem, s0, s1]) rfl ⟨rfl, ?_⟩
      exact below_set2 HB.out (by omega) _ _
  · skip
    by_cases k2 : v > y
    · rw [show max y v = v by omega]
      have A := At2.new w (.int .i64 a) (.int .i64 b) 23
      have A := A.alloc (.cells #[.int .i64 0, .int .i64 0] 25)
      have R := At2.new (w.alloc (.cells #[.int .i64 a, .int .i64 b] 23)) (.int .i64 0) (.int .i64 0) 25
      simp at R
      have HB := Lib.hid (bstep (bstep (Below.refl w.heap.size w) (below1 w (.cells #[.int .i64 a, .int .i64 b] 23))) (below1 (w.alloc (.cells #[.int .i64 a, .int .i64 b] 23)) (.cells #[.int .i64 0, .int .i64 0] 25)))
      go_enter Tryd.func34, Tryd.ntmps34
      obtain ⟨A0, A1, A2, A3, A4⟩ := id A
      obtain ⟨R0, R1, R2, R3, R4⟩ := id R
      go_wp2_with fail
      refine (C1.out _).mono ?_
      rintro e w1 ⟨rfl, hb⟩
      have A := A.keep hb
      have R := R.keep hb
      have HB := Lib.hid (bstep HB.out hb)
      clear hb A0 A1 A2 A3 A4 R0 R1 R2 R3 R4
      obtain ⟨A0, A1, A2, A3, A4⟩ := id A
      obtain ⟨R0, R1, R2, R3, R4⟩ := id R
      go_wp2_with fail
      refine (C2.out _).mono ?_
      rintro e w2 ⟨rfl, hb⟩
      have A := A.keep hb
      have R := R.keep hb
      have HB := Lib.hid (bstep HB.out hb)
      clear hb A0 A1 A2 A3 A4 R0 R1 R2 R3 R4
      have ltA := A.lt
      have ltR := R.lt
      have A := A.alloc (.cells #[.int .i64 x, .int .i64 v] 25)
      have R := R.alloc (.cells #[.int .i64 x, .int .i64 v] 25)
      have O := At2.new w2 (.int .i64 x) (.int .i64 v) 25
      have HB := Lib.hid (bstep HB.out (below1 w2 (.cells #[.int .i64 x, .int .i64 v] 25)))
      obtain ⟨A0, A1, A2, A3, A4⟩ := id A
      obtain ⟨R0, R1, R2, R3, R4⟩ := id R
      obtain ⟨O0, O1, O2, O3, O4⟩ := id O
      go_wp2_with fail
      refine (C3.out _).mono ?_
      rintro e w3 ⟨rfl, hb⟩
      have A := A.keep hb
      have R := R.keep hb
      have O := O.keep hb
      have HB := Lib.hid (bstep HB.out hb)
      clear hb A0 A1 A2 A3 A4 R0 R1 R2 R3 R4 O0 O1 O2 O3 O4
      obtain ⟨A0, A1, A2, A3, A4⟩ := id A
      obtain ⟨R0, R1, R2, R3, R4⟩ := id R
      obtain ⟨O0, O1, O2, O3, O4⟩ := id O
      go_wp2_with fail
      refine (C4.out _).mono ?_
      rintro e w4 ⟨rfl, hb⟩
      have A := A.keep hb
      have R := R.keep hb
      have O := O.keep hb
      have HB := Lib.hid (bstep HB.out hb)
      clear hb A0 A1 A2 A3 A4 R0 R1 R2 R3 R4 O0 O1 O2 O3 O4
      obtain ⟨A0, A1, A2, A3, A4⟩ := id A
      obtain ⟨R0, R1, R2, R3, R4⟩ := id R
      obtain ⟨O0, O1, O2, O3, O4⟩ := id O
      have R' := R.off (k := 0) (show w.heap.size + 1 ≠ w2.heap.size by omega) (.int .i64 (-1073741824))
      have O' := O.put0 (.int .i64 (-1073741824))
      have HB := Lib.hid (HB.out.setCell (p := ⟨w2.heap.size, 0, none⟩) (by show w.heap.size ≤ w2.heap.size; omega) (.int .i64 (-1073741824)))
      obtain ⟨R0', R1', R2', R3', R4'⟩ := id R'
      obtain ⟨O0', O1', O2', O3', O4'⟩ := id O'
      obtain ⟨s0, s1⟩ := set2 R0' R1' (.int .i64 (-1073741824)) (.int .i64 (v))
      go_wp2_with fail
      refine bodyPost_ret (v := .agg #[.int .i64 (-1073741824), .int .i64 (v)]) (by simp [results, Tryd.results34, go_sem, s0, s1]) rfl ⟨rfl, ?_⟩
      exact below_set2 HB.out (by omega) _ _
    · rw [show max y v = y by omega]
      have A := At2.new w (.int .i64 a) (.int .i64 b) 23
      have A := A.alloc (.cells #[.int .i64 0, .int .i64 0] 25)
      have R := At2.new (w.alloc (.cells #[.int .i64 a, .int .i64 b] 23)) (.int .i64 0) (.int .i64 0) 25
      simp at R
      have HB := Lib.hid (bstep (bstep (Below.refl w.heap.size w) (below1 w (.cells #[.int .i64 a, .int .i64 b] 23))) (below1 (w.alloc (.cells #[.int .i64 a, .int .i64 b] 23)) (.cells #[.int .i64 0, .int .i64 0] 25)))
      go_enter Tryd.func34, Tryd.ntmps34
      obtain ⟨A0, A1, A2, A3, A4⟩ := id A
      obtain ⟨R0, R1, R2, R3, R4⟩ := id R
      go_wp2_with fail
      refine (C1.out _).mono ?_
      rintro e w1 ⟨rfl, hb⟩
      have A := A.keep hb
      have R := R.keep hb
      have HB := Lib.hid (bstep HB.out hb)
      clear hb A0 A1 A2 A3 A4 R0 R1 R2 R3 R4
      obtain ⟨A0, A1, A2, A3, A4⟩ := id A
      obtain ⟨R0, R1, R2, R3, R4⟩ := id R
      go_wp2_with fail
      refine (C2.out _).mono ?_
      rintro e w2 ⟨rfl, hb⟩
      have A := A.keep hb
      have R := R.keep hb
      have HB := Lib.hid (bstep HB.out hb)
      clear hb A0 A1 A2 A3 A4 R0 R1 R2 R3 R4
      have ltA := A.lt
      have ltR := R.lt
      have A := A.alloc (.cells #[.int .i64 x, .int .i64 y] 25)
      have R := R.alloc (.cells #[.int .i64 x, .int .i64 y] 25)
      have O := At2.new w2 (.int .i64 x) (.int .i64 y) 25
      have HB := Lib.hid (bstep HB.out (below1 w2 (.cells #[.int .i64 x, .int .i64 y] 25)))
      obtain ⟨A0, A1, A2, A3, A4⟩ := id A
      obtain ⟨R0, R1, R2, R3, R4⟩ := id R
      obtain ⟨O0, O1, O2, O3, O4⟩ := id O
      go_wp2_with fail
      refine (C3.out _).mono ?_
      rintro e w3 ⟨rfl, hb⟩
      have A := A.keep hb
      have R := R.keep hb
      have O := O.keep hb
      have HB := Lib.hid (bstep HB.out hb)
      clear hb A0 A1 A2 A3 A4 R0 R1 R2 R3 R4 O0 O1 O2 O3 O4
      obtain ⟨A0, A1, A2, A3, A4⟩ := id A
      obtain ⟨R0, R1, R2, R3, R4⟩ := id R
      obtain ⟨O0, O1, O2, O3, O4⟩ := id O
      go_wp2_with fail
      refine (C4.out _).mono ?_
      rintro e w4 ⟨rfl, hb⟩
      have A := A.keep hb
      have R := R.keep hb
      have O := O.keep hb
      have HB := Lib.hid (bstep HB.out hb)
      clear hb A0 A1 A2 A3 A4 R0 R1 R2 R3 R4 O0 O1 O2 O3 O4
      obtain ⟨A0, A1, A2, A3, A4⟩ := id A
      obtain ⟨R0, R1, R2, R3, R4⟩ := id R
      obtain ⟨O0, O1, O2, O3, O4⟩ := id O
      have R' := R.off (k := 0) (show w.heap.size + 1 ≠ w2.heap.size by omega) (.int .i64 (-1073741824))
      have O' := O.put0 (.int .i64 (-1073741824))
      have HB := Lib.hid (HB.out.setCell (p := ⟨w2.heap.size, 0, none⟩) (by show w.heap.size ≤ w2.heap.size; omega) (.int .i64 (-1073741824)))
      obtain ⟨R0', R1', R2', R3', R4'⟩ := id R'
      obtain ⟨O0', O1', O2', O3', O4'⟩ := id O'
      obtain ⟨s0, s1⟩ := set2 R0' R1' (.int .i64 (-1073741824)) (.int .i64 (y))
      go_wp2_with fail
      refine bodyPost_ret (v := .agg #[.int .i64 (-1073741824), .int .i64 (y)]) (by simp [results, Tryd.results34, go_sem, s0, s1]) rfl ⟨rfl, ?_⟩
      exact below_set2 HB.out (by omega) _ _

set_option maxHeartbeats 1000000 in
theorem rSine_tf (a b x y u v : Int) (w : World)
    (C1 : Hid (∀ wx, Calls Tryd.prog 49 #[.int .i64 a] wx fun e w' => e = .returned (.tuple #[.int .i64 x, .int .i64 y]) ∧ Below wx.heap.size wx w'))
    (C2 : Hid (∀ wx, Calls Tryd.prog 49 #[.int .i64 b] wx fun e w' => e = .returned (.tuple #[.int .i64 u, .int .i64 v]) ∧ Below wx.heap.size wx w'))
    (C3 : Hid (∀ wx, Calls Tryd.prog 36 #[.agg #[.int .i64 a, .int .i64 b], .int .i64 (5400000)] wx fun e w' => e = .returned (.bool true) ∧ Below wx.heap.size wx w'))
    (C4 : Hid (∀ wx, Calls Tryd.prog 36 #[.agg #[.int .i64 a, .int .i64 b], .int .i64 (-5400000)] wx fun e w' => e = .returned (.bool false) ∧ Below wx.heap.size wx w')) :
    Calls Tryd.prog 34 #[.agg #[.int .i64 a, .int .i64 b]] w fun e w' => e = .returned (.agg #[.int .i64 (min x u), .int .i64 (1073741824)]) ∧ Below w.heap.size w w' := by
  by_cases k1 : u < x
  · rw [show min x u = u by omega]
    by_cases k2 : v > y
    · skip
      have A := At2.new w (.int .i64 a) (.int .i64 b) 23
      have A := A.alloc (.cells #[.int .i64 0, .int .i64 0] 25)
      have R := At2.new (w.alloc (.cells #[.int .i64 a, .int .i64 b] 23)) (.int .i64 0) (.int .i64 0) 25
      simp at R
      have HB := Lib.hid (bstep (bstep (Below.refl w.heap.size w) (below1 w (.cells #[.int .i64 a, .int .i64 b] 23))) (below1 (w.alloc (.cells #[.int .i64 a, .int .i64 b] 23)) (.cells #[.int .i64 0, .int .i64 0] 25)))
      go_enter Tryd.func34, Tryd.ntmps34
      obtain ⟨A0, A1, A2, A3, A4⟩ := id A
      obtain ⟨R0, R1, R2, R3, R4⟩ := id R
      go_wp2_with fail
      refine (C1.out _).mono ?_
      rintro e w1 ⟨rfl, hb⟩
      have A := A.keep hb
      have R := R.keep hb
      have HB := Lib.hid (bstep HB.out hb)
      clear hb A0 A1 A2 A3 A4 R0 R1 R2 R3 R4
      obtain ⟨A0, A1, A2, A3, A4⟩ := id A
      obtain ⟨R0, R1, R2, R3, R4⟩ := id R
      go_wp2_with fail
      refine (C2.out _).mono ?_
      rintro e w2 ⟨rfl, hb⟩
      have A := A.keep hb
      have R := R.keep hb
      have HB := Lib.hid (bstep HB.out hb)
      clear hb A0 A1 A2 A3 A4 R0 R1 R2 R3 R4
      have ltA := A.lt
      have ltR := R.lt
      have A := A.alloc (.cells #[.int .i64 u, .int .i64 v] 25)
      have R := R.alloc (.cells #[.int .i64 u, .int .i64 v] 25)
      have O := At2.new w2 (.int .i64 u) (.int .i64 v) 25
      have HB := Lib.hid (bstep HB.out (below1 w2 (.cells #[.int .i64 u, .int .i64 v] 25)))
      obtain ⟨A0, A1, A2, A3, A4⟩ := id A
      obtain ⟨R0, R1, R2, R3, R4⟩ := id R
      obtain ⟨O0, O1, O2, O3, O4⟩ := id O
      go_wp2_with fail
      refine (C3.out _).mono ?_
      rintro e w3 ⟨rfl, hb⟩
      have A := A.keep hb
      have R := R.keep hb
      have O := O.keep hb
      have HB := Lib.hid (bstep HB.out hb)
      clear hb A0 A1 A2 A3 A4 R0 R1 R2 R3 R4 O0 O1 O2 O3 O4
      obtain ⟨A0, A1, A2, A3, A4⟩ := id A
      obtain ⟨R0, R1, R2, R3, R4⟩ := id R
      obtain ⟨O0, O1, O2, O3, O4⟩ := id O
      have A' := A.off (k := 1) (show w.heap.size ≠ w2.heap.size by omega) (.int .i64 (1073741824))
      have R' := R.off (k := 1) (show w.heap.size + 1 ≠ w2.heap.size by omega) (.int .i64 (1073741824))
      have O' := O.put1 (.int .i64 (1073741824))
      have HB := Lib.hid (HB.out.setCell (p := ⟨w2.heap.size, 1, none⟩) (by show w.heap.size ≤ w2.heap.size; omega) (.int .i64 (1073741824)))
      obtain ⟨A0', A1', -, -, -⟩ := id A'
      obtain ⟨R0', R1', -, -, -⟩ := id R'
      obtain ⟨O0', O1', -, -, -⟩ := id O'
      go_wp2_with fail
      clear A0' A1' R0' R1' O0' O1'
      have A := A'
      have R := R'
      have O := O'
      clear A' R' O' A0 A1 A2 A3 A4 R0 R1 R2 R3 R4 O0 O1 O2 O3 O4
      refine (C4.out _).mono ?_
      rintro e w4 ⟨rfl, hb⟩
      have A := A.keep hb
      have R := R.keep hb
      have O := O.keep hb
      have HB := Lib.hid (bstep HB.out hb)
      clear hb 
      obtain ⟨A0, A1, A2, A3, A4⟩ := id A
      obtain ⟨R0, R1, R2, R3, R4⟩ := id R
      obtain ⟨O0, O1, O2, O3, O4⟩ := id O
      obtain ⟨s0, s1⟩ := set2 R0 R1 (.int .i64 (u)) (.int .i64 (1073741824))
      go_wp2_with fail
      refine bodyPost_ret (v := .agg #[.int .i64 (u), .int .i64 (1073741824)]) (by simp [results, Tryd.results34, go_sem, s0, s1]) rfl ⟨rfl, ?_⟩
      exact below_set2 HB.out (by omega) _ _
    · skip
      have A := At2.new w (.int .i64 a) (.int .i64 b) 23
      have A := A.alloc (.cells #[.int .i64 0, .int .i64 0] 25)
      have R := At2.new (w.alloc (.cells #[.int .i64 a, .int .i64 b] 23)) (.int .i64 0) (.int .i64 0) 25
      simp at R
      have HB := Lib.hid (bstep (bstep (Below.refl w.heap.size w) (below1 w (.cells #[.int .i64 a, .int .i64 b] 23))) (below1 (w.alloc (.cells #[.int .i64 a, .int .i64 b] 23)) (.cells #[.int .i64 0, .int .i64 0] 25)))
      go_enter Tryd.func34, Tryd.ntmps34
      obtain ⟨A0, A1, A2, A3, A4⟩ := id A
      obtain ⟨R0, R1, R2, R3, R4⟩ := id R
      go_wp2_with fail
      refine (C1.out _).mono ?_
      rintro e w1 ⟨rfl, hb⟩
      have A := A.keep hb
      have R := R.keep hb
      have HB := Lib.hid (bstep HB.out hb)
      clear hb A0 A1 A2 A3 A4 R0 R1 R2 R3 R4
      obtain ⟨A0, A1, A2, A3, A4⟩ := id A
      obtain ⟨R0, R1, R2, R3, R4⟩ := id R
      go_wp2_with fail
      refine (C2.out _).mono ?_
      rintro e w2 ⟨rfl, hb⟩
      have A := A.keep hb
      have R := R.keep hb
      have HB := Lib.hid (bstep HB.out hb)
      clear hb A0 A1 A2 A3 A4 R0 R1 R2 R3 R4
      have ltA := A.lt
      have ltR := R.lt
      have A := A.alloc (.cells #[.int .i64 u, .int .i64 y] 25)
      have R := R.alloc (.cells #[.int .i64 u, .int .i64 y] 25)
      have O := At2.new w2 (.int .i64 u) (.int .i64 y) 25
      have HB := Lib.hid (bstep HB.out (below1 w2 (.cells #[.int .i64 u, .int .i64 y] 25)))
      obtain ⟨A0, A1, A2, A3, A4⟩ := id A
      obtain ⟨R0, R1, R2, R3, R4⟩ := id R
      obtain ⟨O0, O1, O2, O3, O4⟩ := id O
      go_wp2_with fail
      refine (C3.out _).mono ?_
      rintro e w3 ⟨rfl, hb⟩
      have A := A.keep hb
      have R := R.keep hb
      have O := O.keep hb
      have HB := Lib.hid (bstep HB.out hb)
      clear hb A0 A1 A2 A3 A4 R0 R1 R2 R3 R4 O0 O1 O2 O3 O4
      obtain ⟨A0, A1, A2, A3, A4⟩ := id A
      obtain ⟨R0, R1, R2, R3, R4⟩ := id R
      obtain ⟨O0, O1, O2, O3, O4⟩ := id O
      have A' := A.off (k := 1) (show w.heap.size ≠ w2.heap.size by omega) (.int .i64 (1073741824))
      have R' := R.off (k := 1) (show w.heap.size + 1 ≠ w2.heap.size by omega) (.int .i64 (1073741824))
      have O' := O.put1 (.int .i64 (1073741824))
      have HB := Lib.hid (HB.out.setCell (p := ⟨w2.heap.size, 1, none⟩) (by show w.heap.size ≤ w2.heap.size; omega) (.int .i64 (1073741824)))
      obtain ⟨A0', A1', -, -, -⟩ := id A'
      obtain ⟨R0', R1', -, -, -⟩ := id R'
      obtain ⟨O0', O1', -, -, -⟩ := id O'
      go_wp2_with fail
      clear A0' A1' R0' R1' O0' O1'
      have A := A'
      have R := R'
      have O := O'
      clear A' R' O' A0 A1 A2 A3 A4 R0 R1 R2 R3 R4 O0 O1 O2 O3 O4
      refine (C4.out _).mono ?_
      rintro e w4 ⟨rfl, hb⟩
      have A := A.keep hb
      have R := R.keep hb
      have O := O.keep hb
      have HB := Lib.hid (bstep HB.out hb)
      clear hb 
      obtain ⟨A0, A1, A2, A3, A4⟩ := id A
      obtain ⟨R0, R1, R2, R3, R4⟩ := id R
      obtain ⟨O0, O1, O2, O3, O4⟩ := id O
      obtain ⟨s0, s1⟩ := set2 R0 R1 (.int .i64 (u)) (.int .i64 (1073741824))
      go_wp2_with fail
      refine bodyPost_ret (v := .agg #[.int .i64 (u), .int .i64 (1073741824)]) (by simp [results, Tryd.results34, go_sem, s0, s1]) rfl ⟨rfl, ?_⟩
      exact below_set2 HB.out (by omega) _ _
  · rw [show min x u = x by omega]
    by_cases k2 : v > y
    · skip
      have A := At2.new w (.int .i64 a) (.int .i64 b) 23
      have A := A.alloc (.cells #[.int .i64 0, .int .i64 0] 25)
      have R := At2.new (w.alloc (.cells #[.int .i64 a, .int .i64 b] 23)) (.int .i64 0) (.int .i64 0) 25
      simp at R
      have HB := Lib.hid (bstep (bstep (Below.refl w.heap.size w) (below1 w (.cells #[.int .i64 a, .int .i64 b] 23))) (below1 (w.alloc (.cells #[.int .i64 a, .int .i64 b] 23)) (.cells #[.int .i64 0, .int .i64 0] 25)))
      go_enter Tryd.func34, Tryd.ntmps34
      obtain ⟨A0, A1, A2, A3, A4⟩ := id A
      obtain ⟨R0, R1, R2, R3, R4⟩ := id R
      go_wp2_with fail
      refine (C1.out _).mono ?_
      rintro e w1 ⟨rfl, hb⟩
      have A := A.keep hb
      have R := R.keep hb
      have HB := Lib.hid (bstep HB.out hb)
      clear hb A0 A1 A2 A3 A4 R0 R1 R2 R3 R4
      obtain ⟨A0, A1, A2, A3, A4⟩ := id A
      obtain ⟨R0, R1, R2, R3, R4⟩ := id R
      go_wp2_with fail
      refine (C2.out _).mono ?_
      rintro e w2 ⟨rfl, hb⟩
      have A := A.keep hb
      have R := R.keep hb
      have HB := Lib.hid (bstep HB.out hb)
      clear hb A0 A1 A2 A3 A4 R0 R1 R2 R3 R4
      have ltA := A.lt
      have ltR := R.lt
      have A := A.alloc (.cells #[.int .i64 x, .int .i64 v] 25)
      have R := R.alloc (.cells #[.int .i64 x, .int .i64 v] 25)
      have O := At2.new w2 (.int .i64 x) (.int .i64 v) 25
      have HB := Lib.hid (bstep HB.out (below1 w2 (.cells #[.int .i64 x, .int .i64 v] 25)))
      obtain ⟨A0, A1, A2, A3, A4⟩ := id A
      obtain ⟨R0, R1, R2, R3, R4⟩ := id R
      obtain ⟨O0, O1, O2, O3, O4⟩ := id O
      go_wp2_with fail
      refine (C3.out _).mono ?_
      rintro e w3 ⟨rfl, hb⟩
      have A := A.keep hb
      have R := R.keep hb
      have O := O.keep hb
      have HB := Lib.hid (bstep HB.out hb)
      clear hb A0 A1 A2 A3 A4 R0 R1 R2 R3 R4 O0 O1 O2 O3 O4
      obtain ⟨A0, A1, A2, A3, A4⟩ := id A
      obtain ⟨R0, R1, R2, R3, R4⟩ := id R
      obtain ⟨O0, O1, O2, O3, O4⟩ := id O
      have A' := A.off (k := 1) (show w.heap.size ≠ w2.heap.size by omega) (.int .i64 (1073741824))
      have R' := R.off (k := 1) (show w.heap.size + 1 ≠ w2.heap.size by omega) (.int .i64 (1073741824))
      have O' := O.put1 (.int .i64 (1073741824))
      have HB := Lib.hid (HB.out.setCell (p := ⟨w2.heap.size, 1, none⟩) (by show w.heap.size ≤ w2.heap.size; omega) (.int .i64 (1073741824)))
      obtain ⟨A0', A1', -, -, -⟩ := id A'
      obtain ⟨R0', R1', -, -, -⟩ := id R'
      obtain ⟨O0', O1', -, -, -⟩ := id O'
      go_wp2_with fail
      clear A0' A1' R0' R1' O0' O1'
      have A := A'
      have R := R'
      have O := O'
      clear A' R' O' A0 A1 A2 A3 A4 R0 R1 R2 R3 R4 O0 O1 O2 O3 O4
      refine (C4.out _).mono ?_
      rintro e w4 ⟨rfl, hb⟩
      have A := A.keep hb
      have R := R.keep hb
      have O := O.keep hb
      have HB := Lib.hid (bstep HB.out hb)
      clear hb 
      obtain ⟨A0, A1, A2, A3, A4⟩ := id A
      obtain ⟨R0, R1, R2, R3, R4⟩ := id R
      obtain ⟨O0, O1, O2, O3, O4⟩ := id O
      obtain ⟨s0, s1⟩ := set2 R0 R1 (.int .i64 (x)) (.int .i64 (1073741824))
      go_wp2_with fail
      refine bodyPost_ret (v := .agg #[.int .i64 (x), .int .i64 (1073741824)]) (by simp [results, Tryd.results34, go_sem, s0, s1]) rfl ⟨rfl, ?_⟩
      exact below_set2 HB.out (by omega) _ _
    · skip
      have A := At2.new w (.int .i64 a) (.int .i64 b) 23
      have A := A.alloc (.cells #[.int .i64 0, .int .i64 0] 25)
      have R := At2.new (w.alloc (.cells #[.int .i64 a, .int .i64 b] 23)) (.int .i64 0) (.int .i64 0) 25
      simp at R
      have HB := Lib.hid (bstep (bstep (Below.refl w.heap.size w) (below1 w (.cells #[.int .i64 a, .int .i64 b] 23))) (below1 (w.alloc (.cells #[.int .i64 a, .int .i64 b] 23)) (.cells #[.int .i64 0, .int .i64 0] 25)))
      go_enter Tryd.func34, Tryd.ntmps34
      obtain ⟨A0, A1, A2, A3, A4⟩ := id A
      obtain ⟨R0, R1, R2, R3, R4⟩ := id R
      go_wp2_with fail
      refine (C1.out _).mono ?_
      rintro e w1 ⟨rfl, hb⟩
      have A := A.keep hb
      have R := R.keep hb
      have HB := Lib.hid (bstep HB.out hb)
      clear hb A0 A1 A2 A3 A4 R0 R1 R2 R3 R4
      obtain ⟨A0, A1, A2, A3, A4⟩ := id A
      obtain ⟨R0, R1, R2, R3, R4⟩ := id R
      go_wp2_with fail
      refine (C2.out _).mono ?_
      rintro e w2 ⟨rfl, hb⟩
      have A := A.keep hb
      have R := R.keep hb
      have HB := Lib.hid (bstep HB.out hb)
      clear hb A0 A1 A2 A3 A4 R0 R1 R2 R3 R4
      have ltA := A.lt
      have ltR := R.lt
      have A := A.alloc (.cells #[.int .i64 x, .int .i64 y] 25)
      have R := R.alloc (.cells #[.int .i64 x, .int .i64 y] 25)
      have O := At2.new w2 (.int .i64 x) (.int .i64 y) 25
      have HB := Lib.hid (bstep HB.out (below1 w2 (.cells #[.int .i64 x, .int .i64 y] 25)))
      obtain ⟨A0, A1, A2, A3, A4⟩ := id A
      obtain ⟨R0, R1, R2, R3, R4⟩ := id R
      obtain ⟨O0, O1, O2, O3, O4⟩ := id O
      go_wp2_with fail
      refine (C3.out _).mono ?_
      rintro e w3 ⟨rfl, hb⟩
      have A := A.keep hb
      have R := R.keep hb
      have O := O.keep hb
      have HB := Lib.hid (bstep HB.out hb)
      clear hb A0 A1 A2 A3 A4 R0 R1 R2 R3 R4 O0 O1 O2 O3 O4
      obtain ⟨A0, A1, A2, A3, A4⟩ := id A
      obtain ⟨R0, R1, R2, R3, R4⟩ := id R
      obtain ⟨O0, O1, O2, O3, O4⟩ := id O
      have A' := A.off (k := 1) (show w.heap.size ≠ w2.heap.size by omega) (.int .i64 (1073741824))
      have R' := R.off (k := 1) (show w.heap.size + 1 ≠ w2.heap.size by omega) (.int .i64 (1073741824))
      have O' := O.put1 (.int .i64 (1073741824))
      have HB := Lib.hid (HB.out.setCell (p := ⟨w2.heap.size, 1, none⟩) (by show w.heap.size ≤ w2.heap.size; omega) (.int .i64 (1073741824)))
      obtain ⟨A0', A1', -, -, -⟩ := id A'
      obtain ⟨R0', R1', -, -, -⟩ := id R'
      obtain ⟨O0', O1', -, -, -⟩ := id O'
      go_wp2_with fail
      clear A0' A1' R0' R1' O0' O1'
      have A := A'
      have R := R'
      have O := O'
      clear A' R' O' A0 A1 A2 A3 A4 R0 R1 R2 R3 R4 O0 O1 O2 O3 O4
      refine (C4.out _).mono ?_
      rintro e w4 ⟨rfl, hb⟩
      have A := A.keep hb
      have R := R.keep hb
      have O := O.keep hb
      have HB := Lib.hid (bstep HB.out hb)
      clear hb 
      obtain ⟨A0, A1, A2, A3, A4⟩ := id A
      obtain ⟨R0, R1, R2, R3, R4⟩ := id R
      obtain ⟨O0, O1, O2, O3, O4⟩ := id O
      obtain ⟨s0, s1⟩ := set2 R0 R1 (.int .i64 (x)) (.int .i64 (1073741824))
      go_wp2_with fail
      refine bodyPost_ret (v := .agg #[.int .i64 (x), .int .i64 (1073741824)]) (by simp [results, Tryd.results34, go_sem, s0, s1]) rfl ⟨rfl, ?_⟩
      exact below_set2 HB.out (by omega) _ _

set_option maxHeartbeats 1000000 in
theorem rSine_tt (a b x y u v : Int) (w : World)
    (C1 : Hid (∀ wx, Calls Tryd.prog 49 #[.int .i64 a] wx fun e w' => e = .returned (.tuple #[.int .i64 x, .int .i64 y]) ∧ Below wx.heap.size wx w'))
    (C2 : Hid (∀ wx, Calls Tryd.prog 49 #[.int .i64 b] wx fun e w' => e = .returned (.tuple #[.int .i64 u, .int .i64 v]) ∧ Below wx.heap.size wx w'))
    (C3 : Hid (∀ wx, Calls Tryd.prog 36 #[.agg #[.int .i64 a, .int .i64 b], .int .i64 (5400000)] wx fun e w' => e = .returned (.bool true) ∧ Below wx.heap.size wx w'))
    (C4 : Hid (∀ wx, Calls Tryd.prog 36 #[.agg #[.int .i64 a, .int .i64 b], .int .i64 (-5400000)] wx fun e w' => e = .returned (.bool true) ∧ Below wx.heap.size wx w')) :
    Calls Tryd.prog 34 #[.agg #[.int .i64 a, .int .i64 b]] w fun e w' => e = .returned (.agg #[.int .i64 (-1073741824), .int .i64 (1073741824)]) ∧ Below w.heap.size w w' := by
  by_cases k1 : u < x
  · skip
    by_cases k2 : v > y
    · skip
      have A := At2.new w (.int .i64 a) (.int .i64 b) 23
      have A := A.alloc (.cells #[.int .i64 0, .int .i64 0] 25)
      have R := At2.new (w.alloc (.cells #[.int .i64 a, .int .i64 b] 23)) (.int .i64 0) (.int .i64 0) 25
      simp at R
      have HB := Lib.hid (bstep (bstep (Below.refl w.heap.size w) (below1 w (.cells #[.int .i64 a, .int .i64 b] 23))) (below1 (w.alloc (.cells #[.int .i64 a, .int .i64 b] 23)) (.cells #[.int .i64 0, .int .i64 0] 25)))
      go_enter Tryd.func34, Tryd.ntmps34
      obtain ⟨A0, A1, A2, A3, A4⟩ := id A
      obtain ⟨R0, R1, R2, R3, R4⟩ := id R
      go_wp2_with fail
      refine (C1.out _).mono ?_
      rintro e w1 ⟨rfl, hb⟩
      have A := A.keep hb
      have R := R.keep hb
      have HB := Lib.hid (bstep HB.out hb)
      clear hb A0 A1 A2 A3 A4 R0 R1 R2 R3 R4
      obtain ⟨A0, A1, A2, A3, A4⟩ := id A
      obtain ⟨R0, R1, R2, R3, R4⟩ := id R
      go_wp2_with fail
      refine (C2.out _).mono ?_
      rintro e w2 ⟨rfl, hb⟩
      have A := A.keep hb
      have R := R.keep hb
      have HB := Lib.hid (bstep HB.out hb)
      clear hb A0 A1 A2 A3 A4 R0 R1 R2 R3 R4
      have ltA := A.lt
      have ltR := R.lt
      have A := A.alloc (.cells #[.int .i64 u, .int .i64 v] 25)
      have R := R.alloc (.cells #[.int .i64 u, .int .i64 v] 25)
      have O := At2.new w2 (.int .i64 u) (.int .i64 v) 25
      have HB := Lib.hid (bstep HB.out (below1 w2 (.cells #[.int .i64 u, .int .i64 v] 25)))
      obtain ⟨A0, A1, A2, A3, A4⟩ := id A
      obtain ⟨R0, R1, R2, R3, R4⟩ := id R
      obtain ⟨O0, O1, O2, O3, O4⟩ := id O
      go_wp2_with fail
      refine (C3.out _).mono ?_
      rintro e w3 ⟨rfl, hb⟩
      have A := A.keep hb
      have R := R.keep hb
      have O := O.keep hb
      have HB := Lib.hid (bstep HB.out hb)
      clear hb A0 A1 A2 A3 A4 R0 R1 R2 R3 R4 O0 O1 O2 O3 O4
      obtain ⟨A0, A1, A2, A3, A4⟩ := id A
      obtain ⟨R0, R1, R2, R3, R4⟩ := id R
      obtain ⟨O0, O1, O2, O3, O4⟩ := id O
      have A' := A.off (k := 1) (show w.heap.size ≠ w2.heap.size by omega) (.int .i64 (1073741824))
      have R' := R.off (k := 1) (show w.heap.size + 1 ≠ w2.heap.size by omega) (.int .i64 (1073741824))
      have O' := O.put1 (.int .i64 (1073741824))
      have HB := Lib.hid (HB.out.setCell (p := ⟨w2.heap.size, 1, none⟩) (by show w.heap.size ≤ w2.heap.size; omega) (.int .i64 (1073741824)))
      obtain ⟨A0', A1', -, -, -⟩ := id A'
      obtain ⟨R0', R1', -, -, -⟩ := id R'
      obtain ⟨O0', O1', -, -, -⟩ := id O'
      go_wp2_with fail
      clear A0' A1' R0' R1' O0' O1'
      have A := A'
      have R := R'
      have O := O'
      clear A' R' O' A0 A1 A2 A3 A4 R0 R1 R2 R3 R4 O0 O1 O2 O3 O4
      refine (C4.out _).mono ?_
      rintro e w4 ⟨rfl, hb⟩
      have A := A.keep hb
      have R := R.keep hb
      have O := O.keep hb
      have HB := Lib.hid (bstep HB.out hb)
      clear hb 
      obtain ⟨A0, A1, A2, A3, A4⟩ := id A
      obtain ⟨R0, R1, R2, R3, R4⟩ := id R
      obtain ⟨O0, O1, O2, O3, O4⟩ := id O
      have R' := R.off (k := 0) (show w.heap.size + 1 ≠ w2.heap.size by omega) (.int .i64 (-1073741824))
      have O' := O.put0 (.int .i64 (-1073741824))
      have HB := Lib.hid (HB.out.setCell (p := ⟨w2.heap.size, 0, none⟩) (by show w.heap.size ≤ w2.heap.size; omega) (.int .i64 (-1073741824)))
      obtain ⟨R0', R1', R2', R3', R4'⟩ := id R'
      obtain ⟨O0', O1', O2', O3', O4'⟩ := id O'
      obtain ⟨s0, s1⟩ := set2 R0' R1' (.int .i64 (-1073741824)) (.int .i64 (1073741824))
      go_wp2_with fail
      refine bodyPost_ret (v := .agg #[.int .i64 (-1073741824), .int .i64 (1073741824)]) (by simp [results, Tryd.results34, go_sem, s0, s1]) rfl ⟨rfl, ?_⟩
      exact below_set2 HB.out (by omega) _ _
    · skip
      have A := At2.new w (.int .i64 a) (.int .i64 b) 23
      have A := A.alloc (.cells #[.int .i64 0, .int .i64 0] 25)
      have R := At2.new (w.alloc (.cells #[.int .i64 a, .int .i64 b] 23)) (.int .i64 0) (.int .i64 0) 25
      simp at R
      have HB := Lib.hid (bstep (bstep (Below.refl w.heap.size w) (below1 w (.cells #[.int .i64 a, .int .i64 b] 23))) (below1 (w.alloc (.cells #[.int .i64 a, .int .i64 b] 23)) (.cells #[.int .i64 0, .int .i64 0] 25)))
      go_enter Tryd.func34, Tryd.ntmps34
      obtain ⟨A0, A1, A2, A3, A4⟩ := id A
      obtain ⟨R0, R1, R2, R3, R4⟩ := id R
      go_wp2_with fail
      refine (C1.out _).mono ?_
      rintro e w1 ⟨rfl, hb⟩
      have A := A.keep hb
      have R := R.keep hb
      have HB := Lib.hid (bstep HB.out hb)
      clear hb A0 A1 A2 A3 A4 R0 R1 R2 R3 R4
      obtain ⟨A0, A1, A2, A3, A4⟩ := id A
      obtain ⟨R0, R1, R2, R3, R4⟩ := id R
      go_wp2_with fail
      refine (C2.out _).mono ?_
      rintro e w2 ⟨rfl, hb⟩
      have A := A.keep hb
      have R := R.keep hb
      have HB := Lib.hid (bstep HB.out hb)
      clear hb A0 A1 A2 A3 A4 R0 R1 R2 R3 R4
      have ltA := A.lt
      have ltR := R.lt
      have A := A.alloc (.cells #[.int .i64 u, .int .i64 y] 25)
      have R := R.alloc (.cells #[.int .i64 u, .int .i64 y] 25)
      have O := At2.new w2 (.int .i64 u) (.int .i64 y) 25
      have HB := Lib.hid (bstep HB.out (below1 w2 (.cells #[.int .i64 u, .int .i64 y] 25)))
      obtain ⟨A0, A1, A2, A3, A4⟩ := id A
      obtain ⟨R0, R1, R2, R3, R4⟩ := id R
      obtain ⟨O0, O1, O2, O3, O4⟩ := id O
      go_wp2_with fail
      refine (C3.out _).mono ?_
      rintro e w3 ⟨rfl, hb⟩
      have A := A.keep hb
      have R := R.keep hb
      have O := O.keep hb
      have HB := Lib.hid (bstep HB.out hb)
      clear hb A0 A1 A2 A3 A4 R0 R1 R2 R3 R4 O0 O1 O2 O3 O4
      obtain ⟨A0, A1, A2, A3, A4⟩ := id A
      obtain ⟨R0, R1, R2, R3, R4⟩ := id R
      obtain ⟨O0, O1, O2, O3, O4⟩ := id O
      have A' := A.off (k := 1) (show w.heap.size ≠ w2.heap.size by omega) (.int .i64 (1073741824))
      have R' := R.off (k := 1) (show w.heap.size + 1 ≠ w2.heap.size by omega) (.int .i64 (1073741824))
      have O' := O.put1 (.int .i64 (1073741824))
      have HB := Lib.hid (HB.out.setCell (p := ⟨w2.heap.size, 1, none⟩) (by show w.heap.size ≤ w2.heap.size; omega) (.int .i64 (1073741824)))
      obtain ⟨A0', A1', -, -, -⟩ := id A'
      obtain ⟨R0', R1', -, -, -⟩ := id R'
      obtain ⟨O0', O1', -, -, -⟩ := id O'
      go_wp2_with fail
      clear A0' A1' R0' R1' O0' O1'
      have A := A'
      have R := R'
      have O := O'
      clear A' R' O' A0 A1 A2 A3 A4 R0 R1 R2 R3 R4 O0 O1 O2 O3 O4
      refine (C4.out _).mono ?_
      rintro e w4 ⟨rfl, hb⟩
      have A := A.keep hb
      have R := R.keep hb
      have O := O.keep hb
      have HB := Lib.hid (bstep HB.out hb)
      clear hb 
      obtain ⟨A0, A1, A2, A3, A4⟩ := id A
      obtain ⟨R0, R1, R2, R3, R4⟩ := id R
      obtain ⟨O0, O1, O2, O3, O4⟩ := id O
      have R' := R.off (k := 0) (show w.heap.size + 1 ≠ w2.heap.size by omega) (.int .i64 (-1073741824))
      have O' := O.put0 (.int .i64 (-1073741824))
      have HB := Lib.hid (HB.out.setCell (p := ⟨w2.heap.size, 0, none⟩) (by show w.heap.size ≤ w2.heap.size; omega) (.int .i64 (-1073741824)))
      obtain ⟨R0', R1', R2', R3', R4'⟩ := id R'
      obtain ⟨O0', O1', O2', O3', O4'⟩ := id O'
      obtain ⟨s0, s1⟩ := set2 R0' R1' (.int .i64 (-1073741824)) (.int .i64 (1073741824))
      go_wp2_with fail
      refine bodyPost_ret (v := .agg #[.int .i64 (-1073741824), .int .i64 (1073741824)]) (by simp [results, Tryd.results34, go_sem, s0, s1]) rfl ⟨rfl, ?_⟩
      exact below_set2 HB.out (by omega) _ _
  · skip
    by_cases k2 : v > y
    · skip
      have A := At2.new w (.int .i64 a) (.int .i64 b) 23
      have A := A.alloc (.cells #[.int .i64 0, .int .i64 0] 25)
      have R := At2.new (w.alloc (.cells #[.int .i64 a, .int .i64 b] 23)) (.int .i64 0) (.int .i64 0) 25
      simp at R
      have HB := Lib.hid (bstep (bstep (Below.refl w.heap.size w) (below1 w (.cells #[.int .i64 a, .int .i64 b] 23))) (below1 (w.alloc (.cells #[.int .i64 a, .int .i64 b] 23)) (.cells #[.int .i64 0, .int .i64 0] 25)))
      go_enter Tryd.func34, Tryd.ntmps34
      obtain ⟨A0, A1, A2, A3, A4⟩ := id A
      obtain ⟨R0, R1, R2, R3, R4⟩ := id R
      go_wp2_with fail
      refine (C1.out _).mono ?_
      rintro e w1 ⟨rfl, hb⟩
      have A := A.keep hb
      have R := R.keep hb
      have HB := Lib.hid (bstep HB.out hb)
      clear hb A0 A1 A2 A3 A4 R0 R1 R2 R3 R4
      obtain ⟨A0, A1, A2, A3, A4⟩ := id A
      obtain ⟨R0, R1, R2, R3, R4⟩ := id R
      go_wp2_with fail
      refine (C2.out _).mono ?_
      rintro e w2 ⟨rfl, hb⟩
      have A := A.keep hb
      have R := R.keep hb
      have HB := Lib.hid (bstep HB.out hb)
      clear hb A0 A1 A2 A3 A4 R0 R1 R2 R3 R4
      have ltA := A.lt
      have ltR := R.lt
      have A := A.alloc (.cells #[.int .i64 x, .int .i64 v] 25)
      have R := R.alloc (.cells #[.int .i64 x, .int .i64 v] 25)
      have O := At2.new w2 (.int .i64 x) (.int .i64 v) 25
      have HB := Lib.hid (bstep HB.out (below1 w2 (.cells #[.int .i64 x, .int .i64 v] 25)))
      obtain ⟨A0, A1, A2, A3, A4⟩ := id A
      obtain ⟨R0, R1, R2, R3, R4⟩ := id R
      obtain ⟨O0, O1, O2, O3, O4⟩ := id O
      go_wp2_with fail
      refine (C3.out _).mono ?_
      rintro e w3 ⟨rfl, hb⟩
      have A := A.keep hb
      have R := R.keep hb
      have O := O.keep hb
      have HB := Lib.hid (bstep HB.out hb)
      clear hb A0 A1 A2 A3 A4 R0 R1 R2 R3 R4 O0 O1 O2 O3 O4
      obtain ⟨A0, A1, A2, A3, A4⟩ := id A
      obtain ⟨R0, R1, R2, R3, R4⟩ := id R
      obtain ⟨O0, O1, O2, O3, O4⟩ := id O
      have A' := A.off (k := 1) (show w.heap.size ≠ w2.heap.size by omega) (.int .i64 (1073741824))
      have R' := R.off (k := 1) (show w.heap.size + 1 ≠ w2.heap.size by omega) (.int .i64 (1073741824))
      have O' := O.put1 (.int .i64 (1073741824))
      have HB := Lib.hid (HB.out.setCell (p := ⟨w2.heap.size, 1, none⟩) (by show w.heap.size ≤ w2.heap.size; omega) (.int .i64 (1073741824)))
      obtain ⟨A0', A1', -, -, -⟩ := id A'
      obtain ⟨R0', R1', -, -, -⟩ := id R'
      obtain ⟨O0', O1', -, -, -⟩ := id O'
      go_wp2_with fail
      clear A0' A1' R0' R1' O0' O1'
      have A := A'
      have R := R'
      have O := O'
      clear A' R' O' A0 A1 A2 A3 A4 R0 R1 R2 R3 R4 O0 O1 O2 O3 O4
      refine (C4.out _).mono ?_
      rintro e w4 ⟨rfl, hb⟩
      have A := A.keep hb
      have R := R.keep hb
      have O := O.keep hb
      have HB := Lib.hid (bstep HB.out hb)
      clear hb 
      obtain ⟨A0, A1, A2, A3, A4⟩ := id A
      obtain ⟨R0, R1, R2, R3, R4⟩ := id R
      obtain ⟨O0, O1, O2, O3, O4⟩ := id O
      have R' := R.off (k := 0) (show w.heap.size + 1 ≠ w2.heap.size by omega) (.int .i64 (-1073741824))
      have O' := O.put0 (.int .i64 (-1073741824))
      have HB := Lib.hid (HB.out.setCell (p := ⟨w2.heap.size, 0, none⟩) (by show w.heap.size ≤ w2.heap.size; omega) (.int .i64 (-1073741824)))
      obtain ⟨R0', R1', R2', R3', R4'⟩ := id R'
      obtain ⟨O0', O1', O2', O3', O4'⟩ := id O'
      obtain ⟨s0, s1⟩ := set2 R0' R1' (.int .i64 (-1073741824)) (.int .i64 (1073741824))
      go_wp2_with fail
      refine bodyPost_ret (v := .agg #[.int .i64 (-1073741824), .int .i64 (1073741824)]) (by simp [results, Tryd.results34, go_sem, s0, s1]) rfl ⟨rfl, ?_⟩
      exact below_set2 HB.out (by omega) _ _
    · skip
      have A := At2.new w (.int .i64 a) (.int .i64 b) 23
      have A := A.alloc (.cells #[.int .i64 0, .int .i64 0] 25)
      have R := At2.new (w.alloc (.cells #[.int .i64 a, .int .i64 b] 23)) (.int .i64 0) (.int .i64 0) 25
      simp at R
      have HB := Lib.hid (bstep (bstep (Below.refl w.heap.size w) (below1 w (.cells #[.int .i64 a, .int .i64 b] 23))) (below1 (w.alloc (.cells #[.int .i64 a, .int .i64 b] 23)) (.cells #[.int .i64 0, .int .i64 0] 25)))
      go_enter Tryd.func34, Tryd.ntmps34
      obtain ⟨A0, A1, A2, A3, A4⟩ := id A
      obtain ⟨R0, R1, R2, R3, R4⟩ := id R
      go_wp2_with fail
      refine (C1.out _).mono ?_
      rintro e w1 ⟨rfl, hb⟩
      have A := A.keep hb
      have R := R.keep hb
      have HB := Lib.hid (bstep HB.out hb)
      clear hb A0 A1 A2 A3 A4 R0 R1 R2 R3 R4
      obtain ⟨A0, A1, A2, A3, A4⟩ := id A
      obtain ⟨R0, R1, R2, R3, R4⟩ := id R
      go_wp2_with fail
      refine (C2.out _).mono ?_
      rintro e w2 ⟨rfl, hb⟩
      have A := A.keep hb
      have R := R.keep hb
      have HB := Lib.hid (bstep HB.out hb)
      clear hb A0 A1 A2 A3 A4 R0 R1 R2 R3 R4
      have ltA := A.lt
      have ltR := R.lt
      have A := A.alloc (.cells #[.int .i64 x, .int .i64 y] 25)
      have R := R.alloc (.cells #[.int .i64 x, .int .i64 y] 25)
      have O := At2.new w2 (.int .i64 x) (.int .i64 y) 25
      have HB := Lib.hid (bstep HB.out (below1 w2 (.cells #[.int .i64 x, .int .i64 y] 25)))
      obtain ⟨A0, A1, A2, A3, A4⟩ := id A
      obtain ⟨R0, R1, R2, R3, R4⟩ := id R
      obtain ⟨O0, O1, O2, O3, O4⟩ := id O
      go_wp2_with fail
      refine (C3.out _).mono ?_
      rintro e w3 ⟨rfl, hb⟩
      have A := A.keep hb
      have R := R.keep hb
      have O := O.keep hb
      have HB := Lib.hid (bstep HB.out hb)
      clear hb A0 A1 A2 A3 A4 R0 R1 R2 R3 R4 O0 O1 O2 O3 O4
      obtain ⟨A0, A1, A2, A3, A4⟩ := id A
      obtain ⟨R0, R1, R2, R3, R4⟩ := id R
      obtain ⟨O0, O1, O2, O3, O4⟩ := id O
      have A' := A.off (k := 1) (show w.heap.size ≠ w2.heap.size by omega) (.int .i64 (1073741824))
      have R' := R.off (k := 1) (show w.heap.size + 1 ≠ w2.heap.size by omega) (.int .i64 (1073741824))
      have O' := O.put1 (.int .i64 (1073741824))
      have HB := Lib.hid (HB.out.setCell (p := ⟨w2.heap.size, 1, none⟩) (by show w.heap.size ≤ w2.heap.size; omega) (.int .i64 (1073741824)))
      obtain ⟨A0', A1', -, -, -⟩ := id A'
      obtain ⟨R0', R1', -, -, -⟩ := id R'
      obtain ⟨O0', O1', -, -, -⟩ := id O'
      go_wp2_with fail
      clear A0' A1' R0' R1' O0' O1'
      have A := A'
      have R := R'
      have O := O'
      clear A' R' O' A0 A1 A2 A3 A4 R0 R1 R2 R3 R4 O0 O1 O2 O3 O4
      refine (C4.out _).mono ?_
      rintro e w4 ⟨rfl, hb⟩
      have A := A.keep hb
      have R := R.keep hb
      have O := O.keep hb
      have HB := Lib.hid (bstep HB.out hb)
      clear hb 
      obtain ⟨A0, A1, A2, A3, A4⟩ := id A
      obtain ⟨R0, R1, R2, R3, R4⟩ := id R
      obtain ⟨O0, O1, O2, O3, O4⟩ := id O
      have R' := R.off (k := 0) (show w.heap.size + 1 ≠ w2.heap.size by omega) (.int .i64 (-1073741824))
      have O' := O.put0 (.int .i64 (-1073741824))
      have HB := Lib.hid (HB.out.setCell (p := ⟨w2.heap.size, 0, none⟩) (by show w.heap.size ≤ w2.heap.size; omega) (.int .i64 (-1073741824)))
      obtain ⟨R0', R1', R2', R3', R4'⟩ := id R'
      obtain ⟨O0', O1', O2', O3', O4'⟩ := id O'
      obtain ⟨s0, s1⟩ := set2 R0' R1' (.int .i64 (-1073741824)) (.int .i64 (1073741824))
      go_wp2_with fail
      refine bodyPost_ret (v := .agg #[.int .i64 (-1073741824), .int .i64 (1073741824)]) (by simp [results, Tryd.results34, go_sem, s0, s1]) rfl ⟨rfl, ?_⟩
      exact below_set2 HB.out (by omega) _ _

set_option maxHeartbeats 1000000 in
theorem rHav_ff (a b x y u v : Int) (w : World)
    (C1 : Hid (∀ wx, Calls Tryd.prog 35 #[.int .i64 a] wx fun e w' => e = .returned (.tuple #[.int .i64 x, .int .i64 y]) ∧ Below wx.heap.size wx w'))
    (C2 : Hid (∀ wx, Calls Tryd.prog 35 #[.int .i64 b] wx fun e w' => e = .returned (.tuple #[.int .i64 u, .int .i64 v]) ∧ Below wx.heap.size wx w'))
    (C3 : Hid (∀ wx, Calls Tryd.prog 36 #[.agg #[.int .i64 a, .int .i64 b], .int .i64 (10800000)] wx fun e w' => e = .returned (.bool false) ∧ Below wx.heap.size wx w'))
    (C4 : Hid (∀ wx, Calls Tryd.prog 36 #[.agg #[.int .i64 a, .int .i64 b], .int .i64 (0)] wx fun e w' => e = .returned (.bool false) ∧ Below wx.heap.size wx w')) :
    Calls Tryd.prog 19 #[.agg #[.int .i64 a, .int .i64 b]] w fun e w' => e = .returned (.agg #[.int .i64 (min x u), .int .i64 (max y v)]) ∧ Below w.heap.size w w' := by
  by_cases k1 : u < x
  · rw [show min x u = u by omega]
    by_cases k2 : v > y
    · rw [show max y v = v by omega]
      have A := At2.new w (.int .i64 a) (.int .i64 b) 23
      have A := A.alloc (.cells #[.int .i64 0, .int .i64 0] 25)
      have R := At2.new (w.alloc (.cells #[.int .i64 a, .int .i64 b] 23)) (.int .i64 0) (.int .i64 0) 25
      simp at R
      have HB := Lib.hid (bstep (bstep (Below.refl w.heap.size w) (below1 w (.cells #[.int .i64 a, .int .i64 b] 23))) (below1 (w.alloc (.cells #[.int .i64 a, .int .i64 b] 23)) (.cells #[.int .i64 0, .int .i64 0] 25)))
      go_enter Tryd.func19, Tryd.ntmps19
      obtain ⟨A0, A1, A2, A3, A4⟩ := id A
      obtain ⟨R0, R1, R2, R3, R4⟩ := id R
      go_wp2_with fail
      refine (C1.out _).mono ?_
      rintro e w1 ⟨rfl, hb⟩
      have A := A.keep hb
      have R := R.keep hb
      have HB := Lib.hid (bstep HB.out hb)
      clear hb A0 A1 A2 A3 A4 R0 R1 R2 R3 R4
      obtain ⟨A0, A1, A2, A3, A4⟩ := id A
      obtain ⟨R0, R1, R2, R3, R4⟩ := id R
      go_wp2_with fail
      refine (C2.out _).mono ?_
      rintro e w2 ⟨rfl, hb⟩
      have A := A.keep hb
      have R := R.keep hb
      have HB := Lib.hid (bstep HB.out hb)
      clear hb A0 A1 A2 A3 A4 R0 R1 R2 R3 R4
      have ltA := A.lt
      have ltR := R.lt
      have A := A.alloc (.cells #[.int .i64 u, .int .i64 v] 25)
      have R := R.alloc (.cells #[.int .i64 u, .int .i64 v] 25)
      have O := At2.new w2 (.int .i64 u) (.int .i64 v) 25
      have HB := Lib.hid (bstep HB.out (below1 w2 (.cells #[.int .i64 u, .int .i64 v] 25)))
      obtain ⟨A0, A1, A2, A3, A4⟩ := id A
      obtain ⟨R0, R1, R2, R3, R4⟩ := id R
      obtain ⟨O0, O1, O2, O3, O4⟩ := id O
      go_wp2_with fail
      refine (C3.out _).mono ?_
      rintro e w3 ⟨rfl, hb⟩
      have A := A.keep hb
      have R := R.keep hb
      have O := O.keep hb
      have HB := Lib.hid (bstep HB.out hb)
      clear hb A0 A1 A2 A3 A4 R0 R1 R2 R3 R4 O0 O1 O2 O3 O4
      obtain ⟨A0, A1, A2, A3, A4⟩ := id A
      obtain ⟨R0, R1, R2, R3, R4⟩ := id R
      obtain ⟨O0, O1, O2, O3, O4⟩ := id O
      go_wp2_with fail
      refine (C4.out _).mono ?_
      rintro e w4 ⟨rfl, hb⟩
      have A := A.keep hb
      have R := R.keep hb
      have O := O.keep hb
      have HB := Lib.hid (bstep HB.out hb)
      clear hb A0 A1 A2 A3 A4 R0 R1 R2 R3 R4 O0 O1 O2 O3 O4
      obtain ⟨A0, A1, A2, A3, A4⟩ := id A
      obtain ⟨R0, R1, R2, R3, R4⟩ := id R
      obtain ⟨O0, O1, O2, O3, O4⟩ := id O
      obtain ⟨s0, s1⟩ := set2 R0 R1 (.int .i64 (u)) (.int .i64 (v))
      go_wp2_with fail
      refine bodyPost_ret (v := .agg #[.int .i64 (u), .int .i64 (v)]) (by simp [results, Tryd.results19, go_sem, s0, s1]) rfl ⟨rfl, ?_⟩
      exact below_set2 HB.out (by omega) _ _
    · rw [show max y v = y by omega]
      have A := At2.new w (.int .i64 a) (.int .i64 b) 23
      have A := A.alloc (.cells #[.int .i64 0, .int .i64 0] 25)
      have R := At2.new (w.alloc (.cells #[.int .i64 a, .int .i64 b] 23)) (.int .i64 0) (.int .i64 0) 25
      simp at R
      have HB := Lib.hid (bstep (bstep (Below.refl w.heap.size w) (below1 w (.cells #[.int .i64 a, .int .i64 b] 23))) (below1 (w.alloc (.cells #[.int .i64 a, .int .i64 b] 23)) (.cells #[.int .i64 0, .int .i64 0] 25)))
      go_enter Tryd.func19, Tryd.ntmps19
      obtain ⟨A0, A1, A2, A3, A4⟩ := id A
      obtain ⟨R0, R1, R2, R3, R4⟩ := id R
      go_wp2_with fail
      refine (C1.out _).mono ?_
      rintro e w1 ⟨rfl, hb⟩
      have A := A.keep hb
      have R := R.keep hb
      have HB := Lib.hid (bstep HB.out hb)
      clear hb A0 A1 A2 A3 A4 R0 R1 R2 R3 R4
      obtain ⟨A0, A1, A2, A3, A4⟩ := id A
      obtain ⟨R0, R1, R2, R3, R4⟩ := id R
      go_wp2_with fail
      refine (C2.out _).mono ?_
      rintro e w2 ⟨rfl, hb⟩
      have A := A.keep hb
      have R := R.keep hb
      have HB := Lib.hid (bstep HB.out hb)
      clear hb A0 A1 A2 A3 A4 R0 R1 R2 R3 R4
      have ltA := A.lt
      have ltR := R.lt
      have A := A.alloc (.cells #[.int .i64 u, .int .i64 y] 25)
      have R := R.alloc (.cells #[.int .i64 u, .int .i64 y] 25)
      have O := At2.new w2 (.int .i64 u) (.int .i64 y) 25
      have HB := Lib.hid (bstep HB.out (below1 w2 (.cells #[.int .i64 u, .int .i64 y] 25)))
      obtain ⟨A0, A1, A2, A3, A4⟩ := id A
      obtain ⟨R0, R1, R2, R3, R4⟩ := id R
      obtain ⟨O0, O1, O2, O3, O4⟩ := id O
      go_wp2_with fail
      refine (C3.out _).mono ?_
      rintro e w3 ⟨rfl, hb⟩
      have A := A.keep hb
      have R := R.keep hb
      have O := O.keep hb
      have HB := Lib.hid (bstep HB.out hb)
      clear hb A0 A1 A2 A3 A4 R0 R1 R2 R3 R4 O0 O1 O2 O3 O4
      obtain ⟨A0, A1, A2, A3, A4⟩ := id A
      obtain ⟨R0, R1, R2, R3, R4⟩ := id R
      obtain ⟨O0, O1, O2, O3, O4⟩ := id O
      go_wp2_with fail
      refine (C4.out _).mono ?_
      rintro e w4 ⟨rfl, hb⟩
      have A := A.keep hb
      have R := R.keep hb
      have O := O.keep hb
      have HB := Lib.hid (bstep HB.out hb)
      clear hb A0 A1 A2 A3 A4 R0 R1 R2 R3 R4 O0 O1 O2 O3 O4
      obtain ⟨A0, A1, A2, A3, A4⟩ := id A
      obtain ⟨R0, R1, R2, R3, R4⟩ := id R
      obtain ⟨O0, O1, O2, O3, O4⟩ := id O
      obtain ⟨s0, s1⟩ := set2 R0 R1 (.int .i64 (u)) (.int .i64 (y))
      go_wp2_with fail
      refine bodyPost_ret (v := .agg #[.int .i64 (u), .int .i64 (y)]) (by simp [results, Tryd.results19, go_sem, s0, s1]) rfl ⟨rfl, ?_⟩
      exact below_set2 HB.out (by omega) _ _
  · rw [show min x u = x by omega]
    by_cases k2 : v > y
    · rw [show max y v = v by omega]
      have A := At2.new w (.int .i64 a) (.int .i64 b) 23
      have A := A.alloc (.cells #[.int .i64 0, .int .i64 0] 25)
      have R := At2.new (w.alloc (.cells #[.int .i64 a, .int .i64 b] 23)) (.int .i64 0) (.int .i64 0) 25
      simp at R
      have HB := Lib.hid (bstep (bstep (Below.refl w.heap.size w) (below1 w (.cells #[.int .i64 a, .int .i64 b] 23))) (below1 (w.alloc (.cells #[.int .i64 a, .int .i64 b] 23)) (.cells #[.int .i64 0, .int .i64 0] 25)))
      go_enter Tryd.func19, Tryd.ntmps19
      obtain ⟨A0, A1, A2, A3, A4⟩ := id A
      obtain ⟨R0, R1, R2, R3, R4⟩ := id R
      go_wp2_with fail
      refine (C1.out _).mono ?_
      rintro e w1 ⟨rfl, hb⟩
      have A := A.keep hb
      have R := R.keep hb
      have HB := Lib.hid (bstep HB.out hb)
      clear hb A0 A1 A2 A3 A4 R0 R1 R2 R3 R4
      obtain ⟨A0, A1, A2, A3, A4⟩ := id A
      obtain ⟨R0, R1, R2, R3, R4⟩ := id R
      go_wp2_with fail
      refine (C2.out _).mono ?_
      rintro e w2 ⟨rfl, hb⟩
      have A := A.keep hb
      have R := R.keep hb
      have HB := Lib.hid (bstep HB.out hb)
      clear hb A0 A1 A2 A3 A4 R0 R1 R2 R3 R4
      have ltA := A.lt
      have ltR := R.lt
      have A := A.alloc (.cells #[.int .i64 x, .int .i64 v] 25)
      have R := R.alloc (.cells #[.int .i64 x, .int .i64 v] 25)
      have O := At2.new w2 (.int .i64 x) (.int .i64 v) 25
      have HB := Lib.hid (bstep HB.out (below1 w2 (.cells #[.int .i64 x, .int .i64 v] 25)))
      obtain ⟨A0, A1, A2, A3, A4⟩ := id A
      obtain ⟨R0, R1, R2, R3, R4⟩ := id R
      obtain ⟨O0, O1, O2, O3, O4⟩ := id O
      go_wp2_with fail
      refine (C3.out _).mono ?_
      rintro e w3 ⟨rfl, hb⟩
      have A := A.keep hb
      have R := R.keep hb
      have O := O.keep hb
      have HB := Lib.hid (bstep HB.out hb)
      clear hb A0 A1 A2 A3 A4 R0 R1 R2 R3 R4 O0 O1 O2 O3 O4
      obtain ⟨A0, A1, A2, A3, A4⟩ := id A
      obtain ⟨R0, R1, R2, R3, R4⟩ := id R
      obtain ⟨O0, O1, O2, O3, O4⟩ := id O
      go_wp2_with fail
      refine (C4.out _).mono ?_
      rintro e w4 ⟨rfl, hb⟩
      have A := A.keep hb
      have R := R.keep hb
      have O := O.keep hb
      have HB := Lib.hid (bstep HB.out hb)
      clear hb A0 A1 A2 A3 A4 R0 R1 R2 R3 R4 O0 O1 O2 O3 O4
      obtain ⟨A0, A1, A2, A3, A4⟩ := id A
      obtain ⟨R0, R1, R2, R3, R4⟩ := id R
      obtain ⟨O0, O1, O2, O3, O4⟩ := id O
      obtain ⟨s0, s1⟩ := set2 R0 R1 (.int .i64 (x)) (.int .i64 (v))
      go_wp2_with fail
      refine bodyPost_ret (v := .agg #[.int .i64 (x), .int .i64 (v)]) (by simp [results, Tryd.results19, go_sem, s0, s1]) rfl ⟨rfl, ?_⟩
      exact below_set2 HB.out (by omega) _ _
    · rw [show max y v = y by omega]
      have A := At2.new w (.int .i64 a) (.int .i64 b) 23
      have A := A.alloc (.cells #[.int .i64 0, .int .i64 0] 25)
      have R := At2.new (w.alloc (.cells #[.int .i64 a, .int .i64 b] 23)) (.int .i64 0) (.int .i64 0) 25
      simp at R
      have HB := Lib.hid (bstep (bstep (Below.refl w.heap.size w) (below1 w (.cells #[.int .i64 a, .int .i64 b] 23))) (below1 (w.alloc (.cells #[.int .i64 a, .int .i64 b] 23)) (.cells #[.int .i64 0, .int .i64 0] 25)))
      go_enter Tryd.func19, Tryd.ntmps19
      obtain ⟨A0, A1, A2, A3, A4⟩ := id A
      obtain ⟨R0, R1, R2, R3, R4⟩ := id R
      go_wp2_with fail
      refine (C1.out _).mono ?_
      rintro e w1 ⟨rfl, hb⟩
      have A := A.keep hb
      have R := R.keep hb
      have HB := Lib.hid (bstep HB.out hb)
      clear hb A0 A1 A2 A3 A4 R0 R1 R2 R3 R4
      obtain ⟨A0, A1, A2, A3, A4⟩ := id A
      obtain ⟨R0, R1, R2, R3, R4⟩ := id R
      go_wp2_with fail
      refine (C2.out _).mono ?_
      rintro e w2 ⟨rfl, hb⟩
      have A := A.keep hb
      have R := R.keep hb
      have HB := Lib.hid (bstep HB.out hb)
      clear hb A0 A1 A2 A3 A4 R0 R1 R2 R3 R4
      have ltA := A.lt
      have ltR := R.lt
      have A := A.alloc (.cells #[.int .i64 x, .int .i64 y] 25)
      have R := R.alloc (.cells #[.int .i64 x, .int .i64 y] 25)
      have O := At2.new w2 (.int .i64 x) (.int .i64 y) 25
      have HB := Lib.hid (bstep HB.out (below1 w2 (.cells #[.int .i64 x, .int .i64 y] 25)))
      obtain ⟨A0, A1, A2, A3, A4⟩ := id A
      obtain ⟨R0, R1, R2, R3, R4⟩ := id R
      obtain ⟨O0, O1, O2, O3, O4⟩ := id O
      go_wp2_with fail
      refine (C3.out _).mono ?_
      rintro e w3 ⟨rfl, hb⟩
      have A := A.keep hb
      have R := R.keep hb
      have O := O.keep hb
      have HB := Lib.hid (bstep HB.out hb)
      clear hb A0 A1 A2 A3 A4 R0 R1 R2 R3 R4 O0 O1 O2 O3 O4
      obtain ⟨A0, A1, A2, A3, A4⟩ := id A
      obtain ⟨R0, R1, R2, R3, R4⟩ := id R
      obtain ⟨O0, O1, O2, O3, O4⟩ := id O
      go_wp2_with fail
      refine (C4.out _).mono ?_
      rintro e w4 ⟨rfl, hb⟩
      have A := A.keep hb
      have R := R.keep hb
      have O := O.keep hb
      have HB := Lib.hid (bstep HB.out hb)
      clear hb A0 A1 A2 A3 A4 R0 R1 R2 R3 R4 O0 O1 O2 O3 O4
      obtain ⟨A0, A1, A2, A3, A4⟩ := id A
      obtain ⟨R0, R1, R2, R3, R4⟩ := id R
      obtain ⟨O0, O1, O2, O3, O4⟩ := id O
      obtain ⟨s0, s1⟩ := set2 R0 R1 (.int .i64 (x)) (.int .i64 (y))
      go_wp2_with fail
      refine bodyPost_ret (v := .agg #[.int .i64 (x), .int .i64 (y)]) (by simp [results, Tryd.results19, go_sem, s0, s1]) rfl ⟨rfl, ?_⟩
      exact below_set2 HB.out (by omega) _ _

set_option maxHeartbeats 1000000 in
theorem rHav_ft (a b x y u v : Int) (w : World)
    (C1 : Hid (∀ wx, Calls Tryd.prog 35 #[.int .i64 a] wx fun e w' => e = .returned (.tuple #[.int .i64 x, .int .i64 y]) ∧ Below wx.heap.size wx w'))
    (C2 : Hid (∀ wx, Calls Tryd.prog 35 #[.int .i64 b] wx fun e w' => e = .returned (.tuple #[.int .i64 u, .int .i64 v]) ∧ Below wx.heap.size wx w'))
    (C3 : Hid (∀ wx, Calls Tryd.prog 36 #[.agg #[.int .i64 a, .int .i64 b], .int .i64 (10800000)] wx fun e w' => e = .returned (.bool false) ∧ Below wx.heap.size wx w'))
    (C4 : Hid (∀ wx, Calls Tryd.prog 36 #[.agg #[.int .i64 a, .int .i64 b], .int .i64 (0)] wx fun e w' => e = .returned (.bool true) ∧ Below wx.heap.size wx w')) :
    Calls Tryd.prog 19 #[.agg #[.int .i64 a, .int .i64 b]] w fun e w' => e = .returned (.agg #[.int .i64 (0), .int .i64 (max y v)]) ∧ Below w.heap.size w w' := by
  by_cases k1 : u < x
  · skip
    by_cases k2 : v > y
    · rw [show max y v = v by omega]
      have A := At2.new w (.int .i64 a) (.int .i64 b) 23
      have A := A.alloc (.cells #[.int .i64 0, .int .i64 0] 25)
      have R := At2.new (w.alloc (.cells #[.int .i64 a, .int .i64 b] 23)) (.int .i64 0) (.int .i64 0) 25
      simp at R
      have HB := Lib.hid (bstep (bstep (Below.refl w.heap.size w) (below1 w (.cells #[.int .i64 a, .int .i64 b] 23))) (below1 (w.alloc (.cells #[.int .i64 a, .int .i64 b] 23)) (.cells #[.int .i64 0, .int .i64 0] 25)))
      go_enter Tryd.func19, Tryd.ntmps19
      obtain ⟨A0, A1, A2, A3, A4⟩ := id A
      obtain ⟨R0, R1, R2, R3, R4⟩ := id R
      go_wp2_with fail
      refine (C1.out _).mono ?_
      rintro e w1 ⟨rfl, hb⟩
      have A := A.keep hb
      have R := R.keep hb
      have HB := Lib.hid (bstep HB.out hb)
      clear hb A0 A1 A2 A3 A4 R0 R1 R2 R3 R4
      obtain ⟨A0, A1, A2, A3, A4⟩ := id A
      obtain ⟨R0, R1, R2, R3, R4⟩ := id R
      go_wp2_with fail
      refine (C2.out _).mono ?_
      rintro e w2 ⟨rfl, hb⟩
      have A := A.keep hb
      have R := R.keep hb
      have HB := Lib.hid (bstep HB.out hb)
      clear hb A0 A1 A2 A3 A4 R0 R1 R2 R3 R4
      have ltA := A.lt
      have ltR := R.lt
      have A := A.alloc (.cells #[.int .i64 u, .int .i64 v] 25)
      have R := R.alloc (.cells #[.int .i64 u, .int .i64 v] 25)
      have O := At2.new w2 (.int .i64 u) (.int .i64 v) 25
      have HB := Lib.hid (bstep HB.out (below1 w2 (.cells #[.int .i64 u, .int .i64 v] 25)))
      obtain ⟨A0, A1, A2, A3, A4⟩ := id A
      obtain ⟨R0, R1, R2, R3, R4⟩ := id R
      obtain ⟨O0, O1, O2, O3, O4⟩ := id O
      go_wp2_with fail
      refine (C3.out _).mono ?_
      rintro e w3 ⟨rfl, hb⟩
      have A := A.keep hb
      have R := R.keep hb
      have O := O.keep hb
      have HB := Lib.hid (bstep HB.out hb)
      clear hb A0 A1 A2 A3 A4 R0 R1 R2 R3 R4 O0 O1 O2 O3 O4
      obtain ⟨A0, A1, A2, A3, A4⟩ := id A
      obtain ⟨R0, R1, R2, R3, R4⟩ := id R
      obtain ⟨O0, O1, O2, O3, O4⟩ := id O
      go_wp2_with fail
      refine (C4.out _).mono ?_
      rintro e w4 ⟨rfl, hb⟩
      have A := A.keep hb
      have R := R.keep hb
      have O := O.keep hb
      have HB := Lib.hid (bstep HB.out hb)
      clear hb A0 A1 A2 A3 A4 R0 R1 R2 R3 R4 O0 O1 O2 O3 O4
      obtain ⟨A0, A1, A2, A3, A4⟩ := id A
      obtain ⟨R0, R1, R2, R3, R4⟩ := id R
      obtain ⟨O0, O1, O2, O3, O4⟩ := id O
      have R' := R.off (k := 0) (show w.heap.size + 1 ≠ w2.heap.size by omega) (.int .i64 (0))
      have O' := O.put0 (.int .i64 (0))
      have HB := Lib.hid (HB.out.setCell (p := ⟨w2.heap.size, 0, none⟩) (by show w.heap.size ≤ w2.heap.size; omega) (.int .i64 (0)))
      obtain ⟨R0', R1', R2', R3', R4'⟩ := id R'
      obtain ⟨O0', O1', O2', O3', O4'⟩ := id O'
      obtain ⟨s0, s1⟩ := set2 R0' R1' (.int .i64 (0)) (.int .i64 (v))
      go_wp2_with fail
      refine bodyPost_ret (v := .agg #[.int .i64 (0), .int .i64 (v)]) (by simp [results, Tryd.results19, go_sem, s0, s1]) rfl ⟨rfl, ?_⟩
      exact below_set2 HB.out (by omega) _ _
    · rw [show max y v = y by omega]
      have A := At2.new w (.int .i64 a) (.int .i64 b) 23
      have A := A.alloc (.cells #[.int .i64 0, .int .i64 0] 25)
      have R := At2.new (w.alloc (.cells #[.int .i64 a, .int .i64 b] 23)) (.int .i64 0) (.int .i64 0) 25
      simp at R
      have HB := Lib.hid (bstep (bstep (Below.refl w.heap.size w) (below1 w (.cells #[.int .i64 a, .int .i64 b] 23))) (below1 (w.alloc (.cells #[.int .i64 a, .int .i64 b] 23)) (.cells #[.int .i64 0, .int .i64 0] 25)))
      go_enter Tryd.func19, Tryd.ntmps19
      obtain ⟨A0, A1, A2, A3, A4⟩ := id A
      obtain ⟨R0, R1, R2, R3, R4⟩ := id R
      go_wp2_with fail
      refine (C1.out _).mono ?_
      rintro e w1 ⟨rfl, hb⟩
      have A := A.keep hb
      have R := R.keep hb
      have HB := Lib.hid (bstep HB.out hb)
      clear hb A0 A1 A2 A3 A4 R0 R1 R2 R3 R4
      obtain ⟨A0, A1, A2, A3, A4⟩ := id A
      obtain ⟨R0, R1, R2, R3, R4⟩ := id R
      go_wp2_with fail
      refine (C2.out _).mono ?_
      rintro e w2 ⟨rfl, hb⟩
      have A := A.keep hb
      have R := R.keep hb
      have HB := Lib.hid (bstep HB.out hb)
      clear hb A0 A1 A2 A3 A4 R0 R1 R2 R3 R4
      have ltA := A.lt
      have ltR := R.lt
      have A := A.alloc (.cells #[.int .i64 u, .int .i64 y] 25)
      have R := R.alloc (.cells #[.int .i64 u, .int .i64 y] 25)
      have O := At2.new w2 (.int .i64 u) (.int .i64 y) 25
      have HB := Lib.hid (bstep HB.out (below1 w2 (.cells #[.int .i64 u, .int .i64 y] 25)))
      obtain ⟨A0, A1, A2, A3, A4⟩ := id A
      obtain ⟨R0, R1, R2, R3, R4⟩ := id R
      obtain ⟨O0, O1, O2, O3, O4⟩ := id O
      go_wp2_with fail
      refine (C3.out _).mono ?_
      rintro e w3 ⟨rfl, hb⟩
      have A := A.keep hb
      have R := R.keep hb
      have O := O.keep hb
      have HB := Lib.hid (bstep HB.out hb)
      clear hb A0 A1 A2 A3 A4 R0 R1 R2 R3 R4 O0 O1 O2 O3 O4
      obtain ⟨A0, A1, A2, A3, A4⟩ := id A
      obtain ⟨R0, R1, R2, R3, R4⟩ := id R
      obtain ⟨O0, O1, O2, O3, O4⟩ := id O
      go_wp2_with fail
      refine (C4.out _).mono ?_
      rintro e w4 ⟨rfl, hb⟩
      have A := A.keep hb
      have R := R.keep hb
      have O := O.keep hb
      have HB := Lib.hid (bstep HB.out hb)
      clear hb A0 A1 A2 A3 A4 R0 R1 R2 R3 R4 O0 O1 O2 O3 O4
      obtain ⟨A0, A1, A2, A3, A4⟩ := id A
      obtain ⟨R0, R1, R2, R3, R4⟩ := id R
      obtain ⟨O0, O1, O2, O3, O4⟩ := id O
      have R' := R.off (k := 0) (show w.heap.size + 1 ≠ w2.heap.size by omega) (.int .i64 (0))
      have O' := O.put0 (.int .i64 (0))
      have HB := Lib.hid (HB.out.setCell (p := ⟨w2.heap.size, 0, none⟩) (by show w.heap.size ≤ w2.heap.size; omega) (.int .i64 (0)))
      obtain ⟨R0', R1', R2', R3', R4'⟩ := id R'
      obtain ⟨O0', O1', O2', O3', O4'⟩ := id O'
      obtain ⟨s0, s1⟩ := set2 R0' R1' (.int .i64 (0)) (.int .i64 (y))
      go_wp2_with fail
      refine bodyPost_ret (v := .agg #[.int .i64 (0), .int .i64 (y)]) (by simp [results, Tryd.results19, go_sem, s0, s1]) rfl ⟨rfl, ?_⟩
      exact below_set2 HB.out (by omega) _ _
  · skip
    by_cases k2 : v > y
    · rw [show max y v = v by omega]
      have A := At2.new w (.int .i64 a) (.int .i64 b) 23
      have A := A.alloc (.cells #[.int .i64 0, .int .i64 0] 25)
      have R := At2.new (w.alloc (.cells #[.int .i64 a, .int .i64 b] 23)) (.int .i64 0) (.int .i64 0) 25
      simp at R
      have HB := Lib.hid (bstep (bstep (Below.refl w.heap.size w) (below1 w (.cells #[.int .i64 a, .int .i64 b] 23))) (below1 (w.alloc (.cells #[.int .i64 a, .int .i64 b] 23)) (.cells #[.int .i64 0, .int .i64 0] 25)))
      go_enter Tryd.func19, Tryd.ntmps19
      obtain ⟨A0, A1, A2, A3, A4⟩ := id A
      obtain ⟨R0, R1, R2, R3, R4⟩ := id R
      go_wp2_with fail
      refine (C1.out _).mono ?_
      rintro e w1 ⟨rfl, hb⟩
      have A := A.keep hb
      have R := R.keep hb
      have HB := Lib.hid (bstep HB.out hb)
      clear hb A0 A1 A2 A3 A4 R0 R1 R2 R3 R4
      obtain ⟨A0, A1, A2, A3, A4⟩ := id A
      obtain ⟨R0, R1, R2, R3, R4⟩ := id R
      go_wp2_with fail
      refine (C2.out _).mono ?_
      rintro e w2 ⟨rfl, hb⟩
      have A := A.keep hb
      have R := R.keep hb
      have HB := Lib.hid (bstep HB.out hb)
      clear hb A0 A1 A2 A3 A4 R0 R1 R2 R3 R4
      have ltA := A.lt
      have ltR := R.lt
      have A := A.alloc (.cells #[.int .i64 x, .int .i64 v] 25)
      have R := R.alloc (.cells #[.int .i64 x, .int .i64 v] 25)
      have O := At2.new w2 (.int .i64 x) (.int .i64 v) 25
      have HB := Lib.hid (bstep HB.out (below1 w2 (.cells #[.int .i64 x, .int .i64 v] 25)))
      obtain ⟨A0, A1, A2, A3, A4⟩ := id A
      obtain ⟨R0, R1, R2, R3, R4⟩ := id R
      obtain ⟨O0, O1, O2, O3, O4⟩ := id O
      go_wp2_with fail
      refine (C3.out _).mono ?_
      rintro e w3 ⟨rfl, hb⟩
      have A := A.keep hb
      have R := R.keep hb
      have O := O.keep hb
      have HB := Lib.hid (bstep HB.out hb)
      clear hb A0 A1 A2 A3 A4 R0 R1 R2 R3 R4 O0 O1 O2 O3 O4
      obtain ⟨A0, A1, A2, A3, A4⟩ := id A
      obtain ⟨R0, R1, R2, R3, R4⟩ := id R
      obtain ⟨O0, O1, O2, O3, O4⟩ := id O
      go_wp2_with fail
      refine (C4.out _).mono ?_
      rintro e w4 ⟨rfl, hb⟩
      have A := A.keep hb
      have R := R.keep hb
      have O := O.keep hb
      have HB := Lib.hid (bstep HB.out hb)
      clear hb A0 A1 A2 A3 A4 R0 R1 R2 R3 R4 O0 O1 O2 O3 O4
      obtain ⟨A0, A1, A2, A3, A4⟩ := id A
      obtain ⟨R0, R1, R2, R3, R4⟩ := id R
      obtain ⟨O0, O1, O2, O3, O4⟩ := id O
      have R' := R.off (k := 0) (show w.heap.size + 1 ≠ w2.heap.size by omega) (.int .i64 (0))
      have O' := O.put0 (.int .i64 (0))
      have HB := Lib.hid (HB.out.setCell (p := ⟨w2.heap.size, 0, none⟩) (by show w.heap.size ≤ w2.heap.size; omega) (.int .i64 (0)))
      obtain ⟨R0', R1', R2', R3', R4'⟩ := id R'
      obtain ⟨O0', O1', O2', O3', O4'⟩ := id O'
      obtain ⟨s0, s1⟩ := set2 R0' R1' (.int .i64 (0)) (.int .i64 (v))
      go_wp2_with fail
      refine bodyPost_ret (v := .agg #[.int .i64 (0), .int .i64 (v)]) (by simp [results, Tryd.results19, go_sem, s0, s1]) rfl ⟨rfl, ?_⟩
      exact below_set2 HB.out (by omega) _ _
    · rw [show max y v = y by omega]
      have A := At2.new w (.int .i64 a) (.int .i64 b) 23
      have A := A.alloc (.cells #[.int .i64 0, .int .i64 0] 25)
      have R := At2.new (w.alloc (.cells #[.int .i64 a, .int .i64 b] 23)) (.int .i64 0) (.int .i64 0) 25
      simp at R
      have HB := Lib.hid (bstep (bstep (Below.refl w.heap.size w) (below1 w (.cells #[.int .i64 a, .int .i64 b] 23))) (below1 (w.alloc (.cells #[.int .i64 a, .int .i64 b] 23)) (.cells #[.int .i64 0, .int .i64 0] 25)))
      go_enter Tryd.func19, Tryd.ntmps19
      obtain ⟨A0, A1, A2, A3, A4⟩ := id A
      obtain ⟨R0, R1, R2, R3, R4⟩ := id R
      go_wp2_with fail
      refine (C1.out _).mono ?_
      rintro e w1 ⟨rfl, hb⟩
      have A := A.keep hb
      have R := R.keep hb
      have HB := Lib.hid (bstep HB.out hb)
      clear hb A0 A1 A2 A3 A4 R0 R1 R2 R3 R4
      obtain ⟨A0, A1, A2, A3, A4⟩ := id A
      obtain ⟨R0, R1, R2, R3, R4⟩ := id R
      go_wp2_with fail
      refine (C2.out _).mono ?_
      rintro e w2 ⟨rfl, hb⟩
      have A := A.keep hb
      have R := R.keep hb
      have HB := Lib.hid (bstep HB.out hb)
      clear hb A0 A1 A2 A3 A4 R0 R1 R2 R3 R4
      have ltA := A.lt
      have ltR := R.lt
      have A := A.alloc (.cells #[.int .i64 x, .int .i64 y] 25)
      have R := R.alloc (.cells #[.int .i64 x, .int .i64 y] 25)
      have O := At2.new w2 (.int .i64 x) (.int .i64 y) 25
      have HB := Lib.hid (bstep HB.out (below1 w2 (.cells #[.int .i64 x, .int .i64 y] 25)))
      obtain ⟨A0, A1, A2, A3, A4⟩ := id A
      obtain ⟨R0, R1, R2, R3, R4⟩ := id R
      obtain ⟨O0, O1, O2, O3, O4⟩ := id O
      go_wp2_with fail
      refine (C3.out _).mono ?_
      rintro e w3 ⟨rfl, hb⟩
      have A := A.keep hb
      have R := R.keep hb
      have O := O.keep hb
      have HB := Lib.hid (bstep HB.out hb)
      clear hb A0 A1 A2 A3 A4 R0 R1 R2 R3 R4 O0 O1 O2 O3 O4
      obtain ⟨A0, A1, A2, A3, A4⟩ := id A
      obtain ⟨R0, R1, R2, R3, R4⟩ := id R
      obtain ⟨O0, O1, O2, O3, O4⟩ := id O
      go_wp2_with fail
      refine (C4.out _).mono ?_
      rintro e w4 ⟨rfl, hb⟩
      have A := A.keep hb
      have R := R.keep hb
      have O := O.keep hb
      have HB := Lib.hid (bstep HB.out hb)
      clear hb A0 A1 A2 A3 A4 R0 R1 R2 R3 R4 O0 O1 O2 O3 O4
      obtain ⟨A0, A1, A2, A3, A4⟩ := id A
      obtain ⟨R0, R1, R2, R3, R4⟩ := id R
      obtain ⟨O0, O1, O2, O3, O4⟩ := id O
      have R' := R.off (k := 0) (show w.heap.size + 1 ≠ w2.heap.size by omega) (.int .i64 (0))
      have O' := O.put0 (.int .i64 (0))
      have HB := Lib.hid (HB.out.setCell (p := ⟨w2.heap.size, 0, none⟩) (by show w.heap.size ≤ w2.heap.size; omega) (.int .i64 (0)))
      obtain ⟨R0', R1', R2', R3', R4'⟩ := id R'
      obtain ⟨O0', O1', O2', O3', O4'⟩ := id O'
      obtain ⟨s0, s1⟩ := set2 R0' R1' (.int .i64 (0)) (.int .i64 (y))
      go_wp2_with fail
      refine bodyPost_ret (v := .agg #[.int .i64 (0), .int .i64 (y)]) (by simp [results, Tryd.results19, go_sem, s0, s1]) rfl ⟨rfl, ?_⟩
      exact below_set2 HB.out (by omega) _ _

set_option maxHeartbeats 1000000 in
theorem rHav_tf (a b x y u v : Int) (w : World)
    (C1 : Hid (∀ wx, Calls Tryd.prog 35 #[.int .i64 a] wx fun e w' => e = .returned (.tuple #[.int .i64 x, .int .i64 y]) ∧ Below wx.heap.size wx w'))
    (C2 : Hid (∀ wx, Calls Tryd.prog 35 #[.int .i64 b] wx fun e w' => e = .returned (.tuple #[.int .i64 u, .int .i64 v]) ∧ Below wx.heap.size wx w'))
    (C3 : Hid (∀ wx, Calls Tryd.prog 36 #[.agg #[.int .i64 a, .int .i64 b], .int .i64 (10800000)] wx fun e w' => e = .returned (.bool true) ∧ Below wx.heap.size wx w'))
    (C4 : Hid (∀ wx, Calls Tryd.prog 36 #[.agg #[.int .i64 a, .int .i64 b], .int .i64 (0)] wx fun e w' => e = .returned (.bool false) ∧ Below wx.heap.size wx w')) :
    Calls Tryd.prog 19 #[.agg #[.int .i64 a, .int .i64 b]] w fun e w' => e = .returned (.agg #[.int .i64 (min x u), .int .i64 (1073741824)]) ∧ Below w.heap.size w w' := by
  by_cases k1 : u < x
  · rw [show min x u = u by omega]
    by_cases k2 : v > y
    · skip
      have A := At2.new w (.int .i64 a) (.int .i64 b) 23
      have A := A.alloc (.cells #[.int .i64 0, .int .i64 0] 25)
      have R := At2.new (w.alloc (.cells #[.int .i64 a, .int .i64 b] 23)) (.int .i64 0) (.int .i64 0) 25
      simp at R
      have HB := Lib.hid (bstep (bstep (Below.refl w.heap.size w) (below1 w (.cells #[.int .i64 a, .int .i64 b] 23))) (below1 (w.alloc (.cells #[.int .i64 a, .int .i64 b] 23)) (.cells #[.int .i64 0, .int .i64 0] 25)))
      go_enter Tryd.func19, Tryd.ntmps19
      obtain ⟨A0, A1, A2, A3, A4⟩ := id A
      obtain ⟨R0, R1, R2, R3, R4⟩ := id R
      go_wp2_with fail
      refine (C1.out _).mono ?_
      rintro e w1 ⟨rfl, hb⟩
      have A := A.keep hb
      have R := R.keep hb
      have HB := Lib.hid (bstep HB.out hb)
      clear hb A0 A1 A2 A3 A4 R0 R1 R2 R3 R4
      obtain ⟨A0, A1, A2, A3, A4⟩ := id A
      obtain ⟨R0, R1, R2, R3, R4⟩ := id R
      go_wp2_with fail
      refine (C2.out _).mono ?_
      rintro e w2 ⟨rfl, hb⟩
      have A := A.keep hb
      have R := R.keep hb
      have HB := Lib.hid (bstep HB.out hb)
      clear hb A0 A1 A2 A3 A4 R0 R1 R2 R3 R4
      have ltA := A.lt
      have ltR := R.lt
      have A := A.alloc (.cells #[.int .i64 u, .int .i64 v] 25)
      have R := R.alloc (.cells #[.int .i64 u, .int .i64 v] 25)
      have O := At2.new w2 (.int .i64 u) (.int .i64 v) 25
      have HB := Lib.hid (bstep HB.out (below1 w2 (.cells #[.int .i64 u, .int .i64 v] 25)))
      obtain ⟨A0, A1, A2, A3, A4⟩ := id A
      obtain ⟨R0, R1, R2, R3, R4⟩ := id R
      obtain ⟨O0, O1, O2, O3, O4⟩ := id O
      go_wp2_with fail
      refine (C3.out _).mono ?_
      rintro e w3 ⟨rfl, hb⟩
      have A := A.keep hb
      have R := R.keep hb
      have O := O.keep hb
      have HB := Lib.hid (bstep HB.out hb)
      clear hb A0 A1 A2 A3 A4 R0 R1 R2 R3 R4 O0 O1 O2 O3 O4
      obtain ⟨A0, A1, A2, A3, A4⟩ := id A
      obtain ⟨R0, R1, R2, R3, R4⟩ := id R
      obtain ⟨O0, O1, O2, O3, O4⟩ := id O
      have A' := A.off (k := 1) (show w.heap.size ≠ w2.heap.size by omega) (.int .i64 (1073741824))
      have R' := R.off (k := 1) (show w.heap.size + 1 ≠ w2.heap.size by omega) (.int .i64 (1073741824))
      have O' := O.put1 (.int .i64 (1073741824))
      have HB := Lib.hid (HB.out.setCell (p := ⟨w2.heap.size, 1, none⟩) (by show w.heap.size ≤ w2.heap.size; omega) (.int .i64 (1073741824)))
      obtain ⟨A0', A1', -, -, -⟩ := id A'
      obtain ⟨R0', R1', -, -, -⟩ := id R'
      obtain ⟨O0', O1', -, -, -⟩ := id O'
      go_wp2_with fail
      clear A0' A1' R0' R1' O0' O1'
      have A := A'
      have R := R'
      have O := O'
      clear A' R' O' A0 A1 A2 A3 A4 R0 R1 R2 R3 R4 O0 O1 O2 O3 O4
      refine (C4.out _).mono ?_
      rintro e w4 ⟨rfl, hb⟩
      have A := A.keep hb
      have R := R.keep hb
      have O := O.keep hb
      have HB := Lib.hid (bstep HB.out hb)
      clear hb 
      obtain ⟨A0, A1, A2, A3, A4⟩ := id A
      obtain ⟨R0, R1, R2, R3, R4⟩ := id R
      obtain ⟨O0, O1, O2, O3, O4⟩ := id O
      obtain ⟨s0, s1⟩ := set2 R0 R1 (.int .i64 (u)) (.int .i64 (1073741824))
      go_wp2_with fail
      refine bodyPost_ret (v := .agg #[.int .i64 (u), .int .i64 (1073741824)]) (by simp [results, Tryd.results19, go_sem, s0, s1]) rfl ⟨rfl, ?_⟩
      exact below_set2 HB.out (by omega) _ _
    · skip
      have A := At2.new w (.int .i64 a) (.int .i64 b) 23
      have A := A.alloc (.cells #[.int .i64 0, .int .i64 0] 25)
      have R := At2.new (w.alloc (.cells #[.int .i64 a, .int .i64 b] 23)) (.int .i64 0) (.int .i64 0) 25
      simp at R
      have HB := Lib.hid (bstep (bstep (Below.refl w.heap.size w) (below1 w (.cells #[.int .i64 a, .int .i64 b] 23))) (below1 (w.alloc (.cells #[.int .i64 a, .int .i64 b] 23)) (.cells #[.int .i64 0, .int .i64 0] 25)))
      go_enter Tryd.func19, Tryd.ntmps19
      obtain ⟨A0, A1, A2, A3, A4⟩ := id A
      obtain ⟨R0, R1, R2, R3, R4⟩ := id R
      go_wp2_with fail
      refine (C1.out _).mono ?_
      rintro e w1 ⟨rfl, hb⟩
      have A := A.keep hb
      have R := R.keep hb
      have HB := Lib.hid (bstep HB.out hb)
      clear hb A0 A1 A2 A3 A4 R0 R1 R2 R3 R4
      obtain ⟨A0, A1, A2, A3, A4⟩ := id A
      obtain ⟨R0, R1, R2, R3, R4⟩ := id R
      go_wp2_with fail
      refine (C2.out _).mono ?_
      rintro e w2 ⟨rfl, hb⟩
      have A := A.keep hb
      have R := R.keep hb
      have HB := Lib.hid (bstep HB.out hb)
      clear hb A0 A1 A2 A3 A4 R0 R1 R2 R3 R4
      have ltA := A.lt
      have ltR := R.lt
      have A := A.alloc (.cells #[.int .i64 u, .int .i64 y] 25)
      have R := R.alloc (.cells #[.int .i64 u, .int .i64 y] 25)
      have O := At2.new w2 (.int .i64 u) (.int .i64 y) 25
      have HB := Lib.hid (bstep HB.out (below1 w2 (.cells #[.int .i64 u, .int .i64 y] 25)))
      obtain ⟨A0, A1, A2, A3, A4⟩ := id A
      obtain ⟨R0, R1, R2, R3, R4⟩ := id R
      obtain ⟨O0, O1, O2, O3, O4⟩ := id O
      go_wp2_with fail
      refine (C3.out _).mono ?_
      rintro e w3 ⟨rfl, hb⟩
      have A := A.keep hb
      have R := R.keep hb
      have O := O.keep hb
      have HB := Lib.hid (bstep HB.out hb)
      clear hb A0 A1 A2 A3 A4 R0 R1 R2 R3 R4 O0 O1 O2 O3 O4
      obtain ⟨A0, A1, A2, A3, A4⟩ := id A
      obtain ⟨R0, R1, R2, R3, R4⟩ := id R
      obtain ⟨O0, O1, O2, O3, O4⟩ := id O
      have A' := A.off (k := 1) (show w.heap.size ≠ w2.heap.size by omega) (.int .i64 (1073741824))
      have R' := R.off (k := 1) (show w.heap.size + 1 ≠ w2.heap.size by omega) (.int .i64 (1073741824))
      have O' := O.put1 (.int .i64 (1073741824))
      have HB := Lib.hid (HB.out.setCell (p := ⟨w2.heap.size, 1, none⟩) (by show w.heap.size ≤ w2.heap.size; omega) (.int .i64 (1073741824)))
      obtain ⟨A0', A1', -, -, -⟩ := id A'
      obtain ⟨R0', R1', -, -, -⟩ := id R'
      obtain ⟨O0', O1', -, -, -⟩ := id O'
      go_wp2_with fail
      clear A0' A1' R0' R1' O0' O1'
      have A := A'
      have R := R'
      have O := O'
      clear A' R' O' A0 A1 A2 A3 A4 R0 R1 R2 R3 R4 O0 O1 O2 O3 O4
      refine (C4.out _).mono ?_
      rintro e w4 ⟨rfl, hb⟩
      have A := A.keep hb
      have R := R.keep hb
      have O := O.keep hb
      have HB := Lib.hid (bstep HB.out hb)
      clear hb 
      obtain ⟨A0, A1, A2, A3, A4⟩ := id A
      obtain ⟨R0, R1, R2, R3, R4⟩ := id R
      obtain ⟨O0, O1, O2, O3, O4⟩ := id O
      obtain ⟨s0, s1⟩ := set2 R0 R1 (.int .i64 (u)) (.int .i64 (1073741824))
      go_wp2_with fail
      refine bodyPost_ret (v := .agg #[.int .i64 (u), .int .i64 (1073741824)]) (by simp [results, Tryd.results19, go_sem, s0, s1]) rfl ⟨rfl, ?_⟩
      exact below_set2 HB.out (by omega) _ _
  · rw [show min x u = x by omega]
    by_cases k2 : v > y
    · skip
      have A := At2.new w (.int .i64 a) (.int .i64 b) 23
      have A := A.alloc (.cells #[.int .i64 0, .int .i64 0] 25)
      have R := At2.new (w.alloc (.cells #[.int .i64 a, .int .i64 b] 23)) (.int .i64 0) (.int .i64 0) 25
      simp at R
      have HB := Lib.hid (bstep (bstep (Below.refl w.heap.size w) (below1 w (.cells #[.int .i64 a, .int .i64 b] 23))) (below1 (w.alloc (.cells #[.int .i64 a, .int .i64 b] 23)) (.cells #[.int .i64 0, .int .i64 0] 25)))
      go_enter Tryd.func19, Tryd.ntmps19
      obtain ⟨A0, A1, A2, A3, A4⟩ := id A
      obtain ⟨R0, R1, R2, R3, R4⟩ := id R
      go_wp2_with fail
      refine (C1.out _).mono ?_
      rintro e w1 ⟨rfl, hb⟩
      have A := A.keep hb
      have R := R.keep hb
      have HB := Lib.hid (bstep HB.out hb)
      clear hb A0 A1 A2 A3 A4 R0 R1 R2 R3 R4
      obtain ⟨A0, A1, A2, A3, A4⟩ := id A
      obtain ⟨R0, R1, R2, R3, R4⟩ := id R
      go_wp2_with fail
      refine (C2.out _).mono ?_
      rintro e w2 ⟨rfl, hb⟩
      have A := A.keep hb
      have R := R.keep hb
      have HB := Lib.hid (bstep HB.out hb)
      clear hb A0 A1 A2 A3 A4 R0 R1 R2 R3 R4
      have ltA := A.lt
      have ltR := R.lt
      have A := A.alloc (.cells #[.int .i64 x, .int .i64 v] 25)
      have R := R.alloc (.cells #[.int .i64 x, .int .i64 v] 25)
      have O := At2.new w2 (.int .i64 x) (.int .i64 v) 25
      have HB := Lib.hid (bstep HB.out (below1 w2 (.cells #[.int .i64 x, .int .i64 v] 25)))
      obtain ⟨A0, A1, A2, A3, A4⟩ := id A
      obtain ⟨R0, R1, R2, R3, R4⟩ := id R
      obtain ⟨O0, O1, O2, O3, O4⟩ := id O
      go_wp2_with fail
      refine (C3.out _).mono ?_
      rintro e w3 ⟨rfl, hb⟩
      have A := A.keep hb
      have R := R.keep hb
      have O := O.keep hb
      have HB := Lib.hid (bstep HB.out hb)
      clear hb A0 A1 A2 A3 A4 R0 R1 R2 R3 R4 O0 O1 O2 O3 O4
      obtain ⟨A0, A1, A2, A3, A4⟩ := id A
      obtain ⟨R0, R1, R2, R3, R4⟩ := id R
      obtain ⟨O0, O1, O2, O3, O4⟩ := id O
      have A' := A.off (k := 1) (show w.heap.size ≠ w2.heap.size by omega) (.int .i64 (1073741824))
      have R' := R.off (k := 1) (show w.heap.size + 1 ≠ w2.heap.size by omega) (.int .i64 (1073741824))
      have O' := O.put1 (.int .i64 (1073741824))
      have HB := Lib.hid (HB.out.setCell (p := ⟨w2.heap.size, 1, none⟩) (by show w.heap.size ≤ w2.heap.size; omega) (.int .i64 (1073741824)))
      obtain ⟨A0', A1', -, -, -⟩ := id A'
      obtain ⟨R0', R1', -, -, -⟩ := id R'
      obtain ⟨O0', O1', -, -, -⟩ := id O'
      go_wp2_with fail
      clear A0' A1' R0' R1' O0' O1'
      have A := A'
      have R := R'
      have O := O'
      clear A' R' O' A0 A1 A2 A3 A4 R0 R1 R2 R3 R4 O0 O1 O2 O3 O4
      refine (C4.out _).mono ?_
      rintro e w4 ⟨rfl, hb⟩
      have A := A.keep hb
      have R := R.keep hb
      have O := O.keep hb
      have HB := Lib.hid (bstep HB.out hb)
      clear hb 
      obtain ⟨A0, A1, A2, A3, A4⟩ := id A
      obtain ⟨R0, R1, R2, R3, R4⟩ := id R
      obtain ⟨O0, O1, O2, O3, O4⟩ := id O
      obtain ⟨s0, s1⟩ := set2 R0 R1 (.int .i64 (x)) (.int .i64 (1073741824))
      go_wp2_with fail
      refine bodyPost_ret (v := .agg #[.int .i64 (x), .int .i64 (1073741824)]) (by simp [results, Tryd.results19, go_sem, s0, s1]) rfl ⟨rfl, ?_⟩
      exact below_set2 HB.out (by omega) _ _
    · skip
      have A := At2.new w (.int .i64 a) (.int .i64 b) 23
      have A := A.alloc (.cells #[.int .i64 0, .int .i64 0] 25)
      have R := At2.new (w.alloc (.cells #[.int .i64 a, .int .i64 b] 23)) (.int .i64 0) (.int .i64 0) 25
      simp at R
      have HB := Lib.hid (bstep (bstep (Below.refl w.heap.size w) (below1 w (.cells #[.int .i64 a, .int .i64 b] 23))) (below1 (w.alloc (.cells #[.int .i64 a, .int .i64 b] 23)) (.cells #[.int .i64 0, .int .i64 0] 25)))
      go_enter Tryd.func19, Tryd.ntmps19
      obtain ⟨A0, A1, A2, A3, A4⟩ := id A
      obtain ⟨R0, R1, R2, R3, R4⟩ := id R
      go_wp2_with fail
      refine (C1.out _).mono ?_
      rintro e w1 ⟨rfl, hb⟩
      have A := A.keep hb
      have R := R.keep hb
      have HB := Lib.hid (bstep HB.out hb)
      clear hb A0 A1 A2 A3 A4 R0 R1 R2 R3 R4
      obtain ⟨A0, A1, A2, A3, A4⟩ := id A
      obtain ⟨R0, R1, R2, R3, R4⟩ := id R
      go_wp2_with fail
      refine (C2.out _).mono ?_
      rintro e w2 ⟨rfl, hb⟩
      have A := A.keep hb
      have R := R.keep hb
      have HB := Lib.hid (bstep HB.out hb)
      clear hb A0 A1 A2 A3 A4 R0 R1 R2 R3 R4
      have ltA := A.lt
      have ltR := R.lt
      have A := A.alloc (.cells #[.int .i64 x, .int .i64 y] 25)
      have R := R.alloc (.cells #[.int .i64 x, .int .i64 y] 25)
      have O := At2.new w2 (.int .i64 x) (.int .i64 y) 25
      have HB := Lib.hid (bstep HB.out (below1 w2 (.cells #[.int .i64 x, .int .i64 y] 25)))
      obtain ⟨A0, A1, A2, A3, A4⟩ := id A
      obtain ⟨R0, R1, R2, R3, R4⟩ := id R
      obtain ⟨O0, O1, O2, O3, O4⟩ := id O
      go_wp2_with fail
      refine (C3.out _).mono ?_
      rintro e w3 ⟨rfl, hb⟩
      have A := A.keep hb
      have R := R.keep hb
      have O := O.keep hb
      have HB := Lib.hid (bstep HB.out hb)
      clear hb A0 A1 A2 A3 A4 R0 R1 R2 R3 R4 O0 O1 O2 O3 O4
      obtain ⟨A0, A1, A2, A3, A4⟩ := id A
      obtain ⟨R0, R1, R2, R3, R4⟩ := id R
      obtain ⟨O0, O1, O2, O3, O4⟩ := id O
      have A' := A.off (k := 1) (show w.heap.size ≠ w2.heap.size by omega) (.int .i64 (1073741824))
      have R' := R.off (k := 1) (show w.heap.size + 1 ≠ w2.heap.size by omega) (.int .i64 (1073741824))
      have O' := O.put1 (.int .i64 (1073741824))
      have HB := Lib.hid (HB.out.setCell (p := ⟨w2.heap.size, 1, none⟩) (by show w.heap.size ≤ w2.heap.size; omega) (.int .i64 (1073741824)))
      obtain ⟨A0', A1', -, -, -⟩ := id A'
      obtain ⟨R0', R1', -, -, -⟩ := id R'
      obtain ⟨O0', O1', -, -, -⟩ := id O'
      go_wp2_with fail
      clear A0' A1' R0' R1' O0' O1'
      have A := A'
      have R := R'
      have O := O'
      clear A' R' O' A0 A1 A2 A3 A4 R0 R1 R2 R3 R4 O0 O1 O2 O3 O4
      refine (C4.out _).mono ?_
      rintro e w4 ⟨rfl, hb⟩
      have A := A.keep hb
      have R := R.keep hb
      have O := O.keep hb
      have HB := Lib.hid (bstep HB.out hb)
      clear hb 
      obtain ⟨A0, A1, A2, A3, A4⟩ := id A
      obtain ⟨R0, R1, R2, R3, R4⟩ := id R
      obtain ⟨O0, O1, O2, O3, O4⟩ := id O
      obtain ⟨s0, s1⟩ := set2 R0 R1 (.int .i64 (x)) (.int .i64 (1073741824))
      go_wp2_with fail
      refine bodyPost_ret (v := .agg #[.int .i64 (x), .int .i64 (1073741824)]) (by simp [results, Tryd.results19, go_sem, s0, s1]) rfl ⟨rfl, ?_⟩
      exact below_set2 HB.out (by omega) _ _

set_option maxHeartbeats 1000000 in
theorem rHav_tt (a b x y u v : Int) (w : World)
    (C1 : Hid (∀ wx, Calls Tryd.prog 35 #[.int .i64 a] wx fun e w' => e = .returned (.tuple #[.int .i64 x, .int .i64 y]) ∧ Below wx.heap.size wx w'))
    (C2 : Hid (∀ wx, Calls Tryd.prog 35 #[.int .i64 b] wx fun e w' => e = .returned (.tuple #[.int .i64 u, .int .i64 v]) ∧ Below wx.heap.size wx w'))
    (C3 : Hid (∀ wx, Calls Tryd.prog 36 #[.agg #[.int .i64 a, .int .i64 b], .int .i64 (10800000)] wx fun e w' => e = .returned (.bool true) ∧ Below wx.heap.size wx w'))
    (C4 : Hid (∀ wx, Calls Tryd.prog 36 #[.agg #[.int .i64 a, .int .i64 b], .int .i64 (0)] wx fun e w' => e = .returned (.bool true) ∧ Below wx.heap.size wx w')) :
    Calls Tryd.prog 19 #[.agg #[.int .i64 a, .int .i64 b]] w fun e w' => e = .returned (.agg #[.int .i64 (0), .int .i64 (1073741824)]) ∧ Below w.heap.size w w' := by
  by_cases k1 : u < x
  · skip
    by_cases k2 : v > y
    · skip
      have A := At2.new w (.int .i64 a) (.int .i64 b) 23
      have A := A.alloc (.cells #[.int .i64 0, .int .i64 0] 25)
      have R := At2.new (w.alloc (.cells #[.int .i64 a, .int .i64 b] 23)) (.int .i64 0) (.int .i64 0) 25
      simp at R
      have HB := Lib.hid (bstep (bstep (Below.refl w.heap.size w) (below1 w (.cells #[.int .i64 a, .int .i64 b] 23))) (below1 (w.alloc (.cells #[.int .i64 a, .int .i64 b] 23)) (.cells #[.int .i64 0, .int .i64 0] 25)))
      go_enter Tryd.func19, Tryd.ntmps19
      obtain ⟨A0, A1, A2, A3, A4⟩ := id A
      obtain ⟨R0, R1, R2, R3, R4⟩ := id R
      go_wp2_with fail
      refine (C1.out _).mono ?_
      rintro e w1 ⟨rfl, hb⟩
      have A := A.keep hb
      have R := R.keep hb
      have HB := Lib.hid (bstep HB.out hb)
      clear hb A0 A1 A2 A3 A4 R0 R1 R2 R3 R4
      obtain ⟨A0, A1, A2, A3, A4⟩ := id A
      obtain ⟨R0, R1, R2, R3, R4⟩ := id R
      go_wp2_with fail
      refine (C2.out _).mono ?_
      rintro e w2 ⟨rfl, hb⟩
      have A := A.keep hb
      have R := R.keep hb
      have HB := Lib.hid (bstep HB.out hb)
      clear hb A0 A1 A2 A3 A4 R0 R1 R2 R3 R4
      have ltA := A.lt
      have ltR := R.lt
      have A := A.alloc (.cells #[.int .i64 u, .int .i64 v] 25)
      have R := R.alloc (.cells #[.int .i64 u, .int .i64 v] 25)
      have O := At2.new w2 (.int .i64 u) (.int .i64 v) 25
      have HB := Lib.hid (bstep HB.out (below1 w2 (.cells #[.int .i64 u, .int .i64 v] 25)))
      obtain ⟨A0, A1, A2, A3, A4⟩ := id A
      obtain ⟨R0, R1, R2, R3, R4⟩ := id R
      obtain ⟨O0, O1, O2, O3, O4⟩ := id O
      go_wp2_with fail
      refine (C3.out _).mono ?_
      rintro e w3 ⟨rfl, hb⟩
      have A := A.keep hb
      have R := R.keep hb
      have O := O.keep hb
      have HB := Lib.hid (bstep HB.out hb)
      clear hb A0 A1 A2 A3 A4 R0 R1 R2 R3 R4 O0 O1 O2 O3 O4
      obtain ⟨A0, A1, A2, A3, A4⟩ := id A
      obtain ⟨R0, R1, R2, R3, R4⟩ := id R
      obtain ⟨O0, O1, O2, O3, O4⟩ := id O
      have A' := A.off (k := 1) (show w.heap.size ≠ w2.heap.size by omega) (.int .i64 (1073741824))
      have R' := R.off (k := 1) (show w.heap.size + 1 ≠ w2.heap.size by omega) (.int .i64 (1073741824))
      have O' := O.put1 (.int .i64 (1073741824))
      have HB := Lib.hid (HB.out.setCell (p := ⟨w2.heap.size, 1, none⟩) (by show w.heap.size ≤ w2.heap.size; omega) (.int .i64 (1073741824)))
      obtain ⟨A0', A1', -, -, -⟩ := id A'
      obtain ⟨R0', R1', -, -, -⟩ := id R'
      obtain ⟨O0', O1', -, -, -⟩ := id O'
      go_wp2_with fail
      clear A0' A1' R0' R1' O0' O1'
      have A := A'
      have R := R'
      have O := O'
      clear A' R' O' A0 A1 A2 A3 A4 R0 R1 R2 R3 R4 O0 O1 O2 O3 O4
      refine (C4.out _).mono ?_
      rintro e w4 ⟨rfl, hb⟩
      have A := A.keep hb
      have R := R.keep hb
      have O := O.keep hb
      have HB := Lib.hid (bstep HB.out hb)
      clear hb 
      obtain ⟨A0, A1, A2, A3, A4⟩ := id A
      obtain ⟨R0, R1, R2, R3, R4⟩ := id R
      obtain ⟨O0, O1, O2, O3, O4⟩ := id O
      have R' := R.off (k := 0) (show w.heap.size + 1 ≠ w2.heap.size by omega) (.int .i64 (0))
      have O' := O.put0 (.int .i64 (0))
      have HB := Lib.hid (HB.out.setCell (p := ⟨w2.heap.size, 0, none⟩) (by show w.heap.size ≤ w2.heap.size; omega) (.int .i64 (0)))
      obtain ⟨R0', R1', R2', R3', R4'⟩ := id R'
      obtain ⟨O0', O1', O2', O3', O4'⟩ := id O'
      obtain ⟨s0, s1⟩ := set2 R0' R1' (.int .i64 (0)) (.int .i64 (1073741824))
      go_wp2_with fail
      refine bodyPost_ret (v := .agg #[.int .i64 (0), .int .i64 (1073741824)]) (by simp [results, Tryd.results19, go_sem, s0, s1]) rfl ⟨rfl, ?_⟩
      exact below_set2 HB.out (by omega) _ _
    · skip
      have A := At2.new w (.int .i64 a) (.int .i64 b) 23
      have A := A.alloc (.cells #[.int .i64 0, .int .i64 0] 25)
      have R := At2.new (w.alloc (.cells #[.int .i64 a, .int .i64 b] 23)) (.int .i64 0) (.int .i64 0) 25
      simp at R
      have HB := Lib.hid (bstep (bstep (Below.refl w.heap.size w) (below1 w (.cells #[.int .i64 a, .int .i64 b] 23))) (below1 (w.alloc (.cells #[.int .i64 a, .int .i64 b] 23)) (.cells #[.int .i64 0, .int .i64 0] 25)))
      go_enter Tryd.func19, Tryd.ntmps19
      obtain ⟨A0, A1, A2, A3, A4⟩ := id A
      obtain ⟨R0, R1, R2, R3, R4⟩ := id R
      go_wp2_with fail
      refine (C1.out _).mono ?_
      rintro e w1 ⟨rfl, hb⟩
      have A := A.keep hb
      have R := R.keep hb
      have HB := Lib.hid (bstep HB.out hb)
      clear hb A0 A1 A2 A3 A4 R0 R1 R2 R3 R4
      obtain ⟨A0, A1, A2, A3, A4⟩ := id A
      obtain ⟨R0, R1, R2, R3, R4⟩ := id R
      go_wp2_with fail
      refine (C2.out _).mono ?_
      rintro e w2 ⟨rfl, hb⟩
      have A := A.keep hb
      have R := R.keep hb
      have HB := Lib.hid (bstep HB.out hb)
      clear hb A0 A1 A2 A3 A4 R0 R1 R2 R3 R4
      have ltA := A.lt
      have ltR := R.lt
      have A := A.alloc (.cells #[.int .i64 u, .int .i64 y] 25)
      have R := R.alloc (.cells #[.int .i64 u, .int .i64 y] 25)
      have O := At2.new w2 (.int .i64 u) (.int .i64 y) 25
      have HB := Lib.hid (bstep HB.out (below1 w2 (.cells #[.int .i64 u, .int .i64 y] 25)))
      obtain ⟨A0, A1, A2, A3, A4⟩ := id A
      obtain ⟨R0, R1, R2, R3, R4⟩ := id R
      obtain ⟨O0, O1, O2, O3, O4⟩ := id O
      go_wp2_with fail
      refine (C3.out _).mono ?_
      rintro e w3 ⟨rfl, hb⟩
      have A := A.keep hb
      have R := R.keep hb
      have O := O.keep hb
      have HB := Lib.hid (bstep HB.out hb)
      clear hb A0 A1 A2 A3 A4 R0 R1 R2 R3 R4 O0 O1 O2 O3 O4
      obtain ⟨A0, A1, A2, A3, A4⟩ := id A
      obtain ⟨R0, R1, R2, R3, R4⟩ := id R
      obtain ⟨O0, O1, O2, O3, O4⟩ := id O
      have A' := A.off (k := 1) (show w.heap.size ≠ w2.heap.size by omega) (.int .i64 (1073741824))
      have R' := R.off (k := 1) (show w.heap.size + 1 ≠ w2.heap.size by omega) (.int .i64 (1073741824))
      have O' := O.put1 (.int .i64 (1073741824))
      have HB := Lib.hid (HB.out.setCell (p := ⟨w2.heap.size, 1, none⟩) (by show w.heap.size ≤ w2.heap.size; omega) (.int .i64 (1073741824)))
      obtain ⟨A0', A1', -, -, -⟩ := id A'
      obtain ⟨R0', R1', -, -, -⟩ := id R'
      obtain ⟨O0', O1', -, -, -⟩ := id O'
      go_wp2_with fail
      clear A0' A1' R0' R1' O0' O1'
      have A := A'
      have R := R'
      have O := O'
      clear A' R' O' A0 A1 A2 A3 A4 R0 R1 R2 R3 R4 O0 O1 O2 O3 O4
      refine (C4.out _).mono ?_
      rintro e w4 ⟨rfl, hb⟩
      have A := A.keep hb
      have R := R.keep hb
      have O := O.keep hb
      have HB := Lib.hid (bstep HB.out hb)
      clear hb 
      obtain ⟨A0, A1, A2, A3, A4⟩ := id A
      obtain ⟨R0, R1, R2, R3, R4⟩ := id R
      obtain ⟨O0, O1, O2, O3, O4⟩ := id O
      have R' := R.off (k := 0) (show w.heap.size + 1 ≠ w2.heap.size by omega) (.int .i64 (0))
      have O' := O.put0 (.int .i64 (0))
      have HB := Lib.hid (HB.out.setCell (p := ⟨w2.heap.size, 0, none⟩) (by show w.heap.size ≤ w2.heap.size; omega) (.int .i64 (0)))
      obtain ⟨R0', R1', R2', R3', R4'⟩ := id R'
      obtain ⟨O0', O1', O2', O3', O4'⟩ := id O'
      obtain ⟨s0, s1⟩ := set2 R0' R1' (.int .i64 (0)) (.int .i64 (1073741824))
      go_wp2_with fail
      refine bodyPost_ret (v := .agg #[.int .i64 (0), .int .i64 (1073741824)]) (by simp [results, Tryd.results19, go_sem, s0, s1]) rfl ⟨rfl, ?_⟩
      exact below_set2 HB.out (by omega) _ _
  · skip
    by_cases k2 : v > y
    · skip
      have A := At2.new w (.int .i64 a) (.int .i64 b) 23
      have A := A.alloc (.cells #[.int .i64 0, .int .i64 0] 25)
      have R := At2.new (w.alloc (.cells #[.int .i64 a, .int .i64 b] 23)) (.int .i64 0) (.int .i64 0) 25
      simp at R
      have HB := Lib.hid (bstep (bstep (Below.refl w.heap.size w) (below1 w (.cells #[.int .i64 a, .int .i64 b] 23))) (below1 (w.alloc (.cells #[.int .i64 a, .int .i64 b] 23)) (.cells #[.int .i64 0, .int .i64 0] 25)))
      go_enter Tryd.func19, Tryd.ntmps19
      obtain ⟨A0, A1, A2, A3, A4⟩ := id A
      obtain ⟨R0, R1, R2, R3, R4⟩ := id R
      go_wp2_with fail
      refine (C1.out _).mono ?_
      rintro e w1 ⟨rfl, hb⟩
      have A := A.keep hb
      have R := R.keep hb
      have HB := Lib.hid (bstep HB.out hb)
      clear hb A0 A1 A2 A3 A4 R0 R1 R2 R3 R4
      obtain ⟨A0, A1, A2, A3, A4⟩ := id A
      obtain ⟨R0, R1, R2, R3, R4⟩ := id R
      go_wp2_with fail
      refine (C2.out _).mono ?_
      rintro e w2 ⟨rfl, hb⟩
      have A := A.keep hb
      have R := R.keep hb
      have HB := Lib.hid (bstep HB.out hb)
      clear hb A0 A1 A2 A3 A4 R0 R1 R2 R3 R4
      have ltA := A.lt
      have ltR := R.lt
      have A := A.alloc (.cells #[.int .i64 x, .int .i64 v] 25)
      have R := R.alloc (.cells #[.int .i64 x, .int .i64 v] 25)
      have O := At2.new w2 (.int .i64 x) (.int .i64 v) 25
      have HB := Lib.hid (bstep HB.out (below1 w2 (.cells #[.int .i64 x, .int .i64 v] 25)))
      obtain ⟨A0, A1, A2, A3, A4⟩ := id A
      obtain ⟨R0, R1, R2, R3, R4⟩ := id R
      obtain ⟨O0, O1, O2, O3, O4⟩ := id O
      go_wp2_with fail
      refine (C3.out _).mono ?_
      rintro e w3 ⟨rfl, hb⟩
      have A := A.keep hb
      have R := R.keep hb
      have O := O.keep hb
      have HB := Lib.hid (bstep HB.out hb)
      clear hb A0 A1 A2 A3 A4 R0 R1 R2 R3 R4 O0 O1 O2 O3 O4
      obtain ⟨A0, A1, A2, A3, A4⟩ := id A
      obtain ⟨R0, R1, R2, R3, R4⟩ := id R
      obtain ⟨O0, O1, O2, O3, O4⟩ := id O
      have A' := A.off (k := 1) (show w.heap.size ≠ w2.heap.size by omega) (.int .i64 (1073741824))
      have R' := R.off (k := 1) (show w.heap.size + 1 ≠ w2.heap.size by omega) (.int .i64 (1073741824))
      have O' := O.put1 (.int .i64 (1073741824))
      have HB := Lib.hid (HB.out.setCell (p := ⟨w2.heap.size, 1, none⟩) (by show w.heap.size ≤ w2.heap.size; omega) (.int .i64 (1073741824)))
      obtain ⟨A0', A1', -, -, -⟩ := id A'
      obtain ⟨R0', R1', -, -, -⟩ := id R'
      obtain ⟨O0', O1', -, -, -⟩ := id O'
      go_wp2_with fail
      clear A0' A1' R0' R1' O0' O1'
      have A := A'
      have R := R'
      have O := O'
      clear A' R' O' A0 A1 A2 A3 A4 R0 R1 R2 R3 R4 O0 O1 O2 O3 O4
      refine (C4.out _).mono ?_
      rintro e w4 ⟨rfl, hb⟩
      have A := A.keep hb
      have R := R.keep hb
      have O := O.keep hb
      have HB := Lib.hid (bstep HB.out hb)
      clear hb 
      obtain ⟨A0, A1, A2, A3, A4⟩ := id A
      obtain ⟨R0, R1, R2, R3, R4⟩ := id R
      obtain ⟨O0, O1, O2, O3, O4⟩ := id O
      have R' := R.off (k := 0) (show w.heap.size + 1 ≠ w2.heap.size by omega) (.int .i64 (0))
      have O' := O.put0 (.int .i64 (0))
      have HB := Lib.hid (HB.out.setCell (p := ⟨w2.heap.size, 0, none⟩) (by show w.heap.size ≤ w2.heap.size; omega) (.int .i64 (0)))
      obtain ⟨R0', R1', R2', R3', R4'⟩ := id R'
      obtain ⟨O0', O1', O2', O3', O4'⟩ := id O'
      obtain ⟨s0, s1⟩ := set2 R0' R1' (.int .i64 (0)) (.int .i64 (1073741824))
      go_wp2_with fail
      refine bodyPost_ret (v := .agg #[.int .i64 (0), .int .i64 (1073741824)]) (by simp [results, Tryd.results19, go_sem, s0, s1]) rfl ⟨rfl, ?_⟩
      exact below_set2 HB.out (by omega) _ _
    · skip
      have A := At2.new w (.int .i64 a) (.int .i64 b) 23
      have A := A.alloc (.cells #[.int .i64 0, .int .i64 0] 25)
      have R := At2.new (w.alloc (.cells #[.int .i64 a, .int .i64 b] 23)) (.int .i64 0) (.int .i64 0) 25
      simp at R
      have HB := Lib.hid (bstep (bstep (Below.refl w.heap.size w) (below1 w (.cells #[.int .i64 a, .int .i64 b] 23))) (below1 (w.alloc (.cells #[.int .i64 a, .int .i64 b] 23)) (.cells #[.int .i64 0, .int .i64 0] 25)))
      go_enter Tryd.func19, Tryd.ntmps19
      obtain ⟨A0, A1, A2, A3, A4⟩ := id A
      obtain ⟨R0, R1, R2, R3, R4⟩ := id R
      go_wp2_with fail
      refine (C1.out _).mono ?_
      rintro e w1 ⟨rfl, hb⟩
      have A := A.keep hb
      have R := R.keep hb
      have HB := Lib.hid (bstep HB.out hb)
      clear hb A0 A1 A2 A3 A4 R0 R1 R2 R3 R4
      obtain ⟨A0, A1, A2, A3, A4⟩ := id A
      obtain ⟨R0, R1, R2, R3, R4⟩ := id R
      go_wp2_with fail
      refine (C2.out _).mono ?_
      rintro e w2 ⟨rfl, hb⟩
      have A := A.keep hb
      have R := R.keep hb
      have HB := Lib.hid (bstep HB.out hb)
      clear hb A0 A1 A2 A3 A4 R0 R1 R2 R3 R4
      have ltA := A.lt
      have ltR := R.lt
      have A := A.alloc (.cells #[.int .i64 x, .int .i64 y] 25)
      have R := R.alloc (.cells #[.int .i64 x, .int .i64 y] 25)
      have O := At2.new w2 (.int .i64 x) (.int .i64 y) 25
      have HB := Lib.hid (bstep HB.out (below1 w2 (.cells #[.int .i64 x, .int .i64 y] 25)))
      obtain ⟨A0, A1, A2, A3, A4⟩ := id A
      obtain ⟨R0, R1, R2, R3, R4⟩ := id R
      obtain ⟨O0, O1, O2, O3, O4⟩ := id O
      go_wp2_with fail
      refine (C3.out _).mono ?_
      rintro e w3 ⟨rfl, hb⟩
      have A := A.keep hb
      have R := R.keep hb
      have O := O.keep hb
      have HB := Lib.hid (bstep HB.out hb)
      clear hb A0 A1 A2 A3 A4 R0 R1 R2 R3 R4 O0 O1 O2 O3 O4
      obtain ⟨A0, A1, A2, A3, A4⟩ := id A
      obtain ⟨R0, R1, R2, R3, R4⟩ := id R
      obtain ⟨O0, O1, O2, O3, O4⟩ := id O
      have A' := A.off (k := 1) (show w.heap.size ≠ w2.heap.size by omega) (.int .i64 (1073741824))
      have R' := R.off (k := 1) (show w.heap.size + 1 ≠ w2.heap.size by omega) (.int .i64 (1073741824))
      have O' := O.put1 (.int .i64 (1073741824))
      have HB := Lib.hid (HB.out.setCell (p := ⟨w2.heap.size, 1, none⟩) (by show w.heap.size ≤ w2.heap.size; omega) (.int .i64 (1073741824)))
      obtain ⟨A0', A1', -, -, -⟩ := id A'
      obtain ⟨R0', R1', -, -, -⟩ := id R'
      obtain ⟨O0', O1', -, -, -⟩ := id O'
      go_wp2_with fail
      clear A0' A1' R0' R1' O0' O1'
      have A := A'
      have R := R'
      have O := O'
      clear A' R' O' A0 A1 A2 A3 A4 R0 R1 R2 R3 R4 O0 O1 O2 O3 O4
      refine (C4.out _).mono ?_
      rintro e w4 ⟨rfl, hb⟩
      have A := A.keep hb
      have R := R.keep hb
      have O := O.keep hb
      have HB := Lib.hid (bstep HB.out hb)
      clear hb 
      obtain ⟨A0, A1, A2, A3, A4⟩ := id A
      obtain ⟨R0, R1, R2, R3, R4⟩ := id R
      obtain ⟨O0, O1, O2, O3, O4⟩ := id O
      have R' := R.off (k := 0) (show w.heap.size + 1 ≠ w2.heap.size by omega) (.int .i64 (0))
      have O' := O.put0 (.int .i64 (0))
      have HB := Lib.hid (HB.out.setCell (p := ⟨w2.heap.size, 0, none⟩) (by show w.heap.size ≤ w2.heap.size; omega) (.int .i64 (0)))
      obtain ⟨R0', R1', R2', R3', R4'⟩ := id R'
      obtain ⟨O0', O1', O2', O3', O4'⟩ := id O'
      obtain ⟨s0, s1⟩ := set2 R0' R1' (.int .i64 (0)) (.int .i64 (1073741824))
      go_wp2_with fail
      refine bodyPost_ret (v := .agg #[.int .i64 (0), .int .i64 (1073741824)]) (by simp [results, Tryd.results19, go_sem, s0, s1]) rfl ⟨rfl, ?_⟩
      exact below_set2 HB.out (by omega) _ _

theorem rSine (a b : Int) (w : World) (a1 : -4398046511104 ≤ a) (a2 : a ≤ 4398046511104) (b1 : -4398046511104 ≤ b) (b2 : b ≤ 4398046511104) :
    Calls Tryd.prog 34 #[.agg #[.int .i64 a, .int .i64 b]] w fun e w' => e = .returned (.agg #[.int .i64 (L6.sL a b), .int .i64 (L6.sH a b)]) ∧ Below w.heap.size w w' := by
  have C1 := Lib.hid (fun wx => rEnds a wx)
  have C2 := Lib.hid (fun wx => rEnds b wx)
  have C3 := Lib.hid (fun wx => rHas6 a b 5400000 wx a1 a2 (by omega) (by omega))
  have C4 := Lib.hid (fun wx => rHas6 a b (-5400000) wx a1 a2 (by omega) (by omega))
  unfold L6.sL L6.sH
  cases hp : L6.has a b 5400000
  · cases hq : L6.has a b (-5400000)
    · rw [hp] at C3; rw [hq] at C4
      exact rSine_ff a b _ _ _ _ w C1 C2 C3 C4
    · rw [hp] at C3; rw [hq] at C4
      exact rSine_ft a b _ _ _ _ w C1 C2 C3 C4
  · cases hq : L6.has a b (-5400000)
    · rw [hp] at C3; rw [hq] at C4
      exact rSine_tf a b _ _ _ _ w C1 C2 C3 C4
    · rw [hp] at C3; rw [hq] at C4
      exact rSine_tt a b _ _ _ _ w C1 C2 C3 C4

/-- haversines over arcs -/
def hL (a b : Int) : Int := if L6.has a b 0 = true then 0 else min (hvL a) (hvL b)
def hH (a b : Int) : Int := if L6.has a b 10800000 = true then 1073741824 else max (hvH a) (hvH b)

theorem rHav (a b : Int) (w : World) (a1 : -4398046511104 ≤ a) (a2 : a ≤ 4398046511104) (b1 : -4398046511104 ≤ b) (b2 : b ≤ 4398046511104) :
    Calls Tryd.prog 19 #[.agg #[.int .i64 a, .int .i64 b]] w fun e w' => e = .returned (.agg #[.int .i64 (hL a b), .int .i64 (hH a b)]) ∧ Below w.heap.size w w' := by
  have C1 := Lib.hid (fun wx => rHvs a wx (by omega) (by omega))
  have C2 := Lib.hid (fun wx => rHvs b wx (by omega) (by omega))
  have C3 := Lib.hid (fun wx => rHas6 a b 10800000 wx a1 a2 (by omega) (by omega))
  have C4 := Lib.hid (fun wx => rHas6 a b (0) wx a1 a2 (by omega) (by omega))
  unfold hL hH
  cases hp : L6.has a b 10800000
  · cases hq : L6.has a b (0)
    · rw [hp] at C3; rw [hq] at C4
      exact rHav_ff a b _ _ _ _ w C1 C2 C3 C4
    · rw [hp] at C3; rw [hq] at C4
      exact rHav_ft a b _ _ _ _ w C1 C2 C3 C4
  · cases hq : L6.has a b (0)
    · rw [hp] at C3; rw [hq] at C4
      exact rHav_tf a b _ _ _ _ w C1 C2 C3 C4
    · rw [hp] at C3; rw [hq] at C4
      exact rHav_tt a b _ _ _ _ w C1 C2 C3 C4

theorem rSin6 (a b : Int) (w : World) (a1 : -4300000000000 ≤ a) (a2 : a ≤ 4300000000000) (b1 : -4300000000000 ≤ b) (b2 : b ≤ 4300000000000) :
    Calls Tryd.prog 16 #[.agg #[.int .i64 a, .int .i64 b]] w fun e w' => e = .returned (.agg #[.int .i64 (L6.sL a b), .int .i64 (L6.sH a b)]) ∧ Below w.heap.size w w' := by
  have C1 := Lib.hid (fun wx => rSine a b wx (by omega) (by omega) (by omega) (by omega))
  generalize L6.sL a b = x at *
  generalize L6.sH a b = y at *
  have A := At2.new w (.int .i64 a) (.int .i64 b) 23
  have A := A.alloc (.cells #[.int .i64 0, .int .i64 0] 25)
  have R := At2.new (w.alloc (.cells #[.int .i64 a, .int .i64 b] 23)) (.int .i64 0) (.int .i64 0) 25
  simp at R
  have HB := Lib.hid (bstep (bstep (Below.refl w.heap.size w) (below1 w (.cells #[.int .i64 a, .int .i64 b] 23))) (below1 (w.alloc (.cells #[.int .i64 a, .int .i64 b] 23)) (.cells #[.int .i64 0, .int .i64 0] 25)))
  go_enter Tryd.func16, Tryd.ntmps16
  obtain ⟨A0, A1, -, -, -⟩ := id A
  go_wp2_with fail
  refine (C1.out _).mono ?_
  rintro e w1 ⟨rfl, hb⟩
  have R := R.keep hb
  have HB := Lib.hid (bstep HB.out hb)
  clear hb A0 A1
  obtain ⟨R0, R1, R2, R3, R4⟩ := id R
  obtain ⟨s0, s1⟩ := set2 R0 R1 (.int .i64 x) (.int .i64 y)
  go_wp2_with fail
  refine bodyPost_ret (v := .agg #[.int .i64 x, .int .i64 y]) (by simp [results, Tryd.results16, go_sem, s0, s1]) rfl ⟨rfl, ?_⟩
  exact below_set2 HB.out (by omega) _ _

theorem rCos6 (a b : Int) (w : World) (a1 : -4300000000000 ≤ a) (a2 : a ≤ 4300000000000) (b1 : -4300000000000 ≤ b) (b2 : b ≤ 4300000000000) :
    Calls Tryd.prog 17 #[.agg #[.int .i64 a, .int .i64 b]] w fun e w' => e = .returned (.agg #[.int .i64 (L6.sL (a + 5400000) (b + 5400000)), .int .i64 (L6.sH (a + 5400000) (b + 5400000))]) ∧ Below w.heap.size w w' := by
  have C1 := Lib.hid (fun wx => rSine (a + 5400000) (b + 5400000) wx (by omega) (by omega) (by omega) (by omega))
  generalize L6.sL (a + 5400000) (b + 5400000) = x at *
  generalize L6.sH (a + 5400000) (b + 5400000) = y at *
  have A := At2.new w (.int .i64 a) (.int .i64 b) 23
  have A := A.alloc (.cells #[.int .i64 0, .int .i64 0] 25)
  have R := At2.new (w.alloc (.cells #[.int .i64 a, .int .i64 b] 23)) (.int .i64 0) (.int .i64 0) 25
  simp at R
  have HB := Lib.hid (bstep (bstep (Below.refl w.heap.size w) (below1 w (.cells #[.int .i64 a, .int .i64 b] 23))) (below1 (w.alloc (.cells #[.int .i64 a, .int .i64 b] 23)) (.cells #[.int .i64 0, .int .i64 0] 25)))
  go_enter Tryd.func17, Tryd.ntmps17
  obtain ⟨A0, A1, -, -, -⟩ := id A
  go_wp2_with fail
  refine (C1.out _).mono ?_
  rintro e w1 ⟨rfl, hb⟩
  have R := R.keep hb
  have HB := Lib.hid (bstep HB.out hb)
  clear hb A0 A1
  obtain ⟨R0, R1, R2, R3, R4⟩ := id R
  obtain ⟨s0, s1⟩ := set2 R0 R1 (.int .i64 x) (.int .i64 y)
  go_wp2_with fail
  refine bodyPost_ret (v := .agg #[.int .i64 x, .int .i64 y]) (by simp [results, Tryd.results17, go_sem, s0, s1]) rfl ⟨rfl, ?_⟩
  exact below_set2 HB.out (by omega) _ _
end Go.Proofs.YtglmkpnnbgkndaaDoor
