/- The program of layer 7: Bearing. -/
import Derived.Test.YtndcjldnnfhedaaDoorArb
import Derived.Test.YtndcjldnnfhedaaDoorTra
import Derived.Test.YtndcjldnnfhedaaDoorArc
/- Arctrig: the program's corners of a box: which come first and last. -/
namespace Go.Proofs.YtndcjldnnfhedaaDoor
open Go.RowKit
set_option linter.unusedVariables false
set_option maxRecDepth 100000

/-- a point comes before another one -/
def bf (a b : Int × Int) : Bool := decide (a.2 * b.1 < a.1 * b.2)
def In31 (a : Int × Int) : Prop := -2147483648 ≤ a.1 ∧ a.1 ≤ 2147483648 ∧ -2147483648 ≤ a.2 ∧ a.2 ≤ 2147483648
theorem prod_in {a b : Int} (a1 : -2147483648 ≤ a) (a2 : a ≤ 2147483648) (b1 : -2147483648 ≤ b) (b2 : b ≤ 2147483648) : -4611686018427387904 ≤ a * b ∧ a * b ≤ 4611686018427387904 := by
  have := mul_abs a1 a2 b1 b2
  omega
theorem before_any (x y u v : Int) (A : In31 (x, y)) (B : In31 (u, v)) (w : World) :
    Calls Tryd.prog 38 #[.agg #[.int .i64 x, .int .i64 y], .agg #[.int .i64 u, .int .i64 v]] w fun e w' => e = .returned (.bool (bf (x, y) (u, v))) ∧ Below w.heap.size w w' := by
  obtain ⟨A1, A2, A3, A4⟩ := A
  obtain ⟨B1, B2, B3, B4⟩ := B
  change -2147483648 ≤ x at A1
  change x ≤ 2147483648 at A2
  change -2147483648 ≤ y at A3
  change y ≤ 2147483648 at A4
  change -2147483648 ≤ u at B1
  change u ≤ 2147483648 at B2
  change -2147483648 ≤ v at B3
  change v ≤ 2147483648 at B4
  obtain ⟨p1, p2⟩ := prod_in A3 A4 B1 B2
  obtain ⟨q1, q2⟩ := prod_in A1 A2 B3 B4
  obtain ⟨P, Q⟩ := At2.two w (.int .i64 x) (.int .i64 y) (.int .i64 u) (.int .i64 v) 50 50
  obtain ⟨P0, P1, -, -, -⟩ := id P
  obtain ⟨Q0, Q1, -, -, -⟩ := id Q
  unfold bf
  show Calls _ _ _ _ fun e w' => e = .returned (.bool (decide (y * u < x * v))) ∧ _
  obtain ⟨p, hp⟩ : ∃ p, y * u = p := ⟨_, rfl⟩
  obtain ⟨q, hq⟩ : ∃ q, x * v = q := ⟨_, rfl⟩
  rw [hp] at p1 p2 ⊢
  rw [hq] at q1 q2 ⊢
  clear A1 A2 A3 A4 B1 B2 B3 B4
  by_cases c : p < q
  · rw [decide_eq_true c]
    go_enter Tryd.func38, Tryd.ntmps38
    go_wp2_with fail
    go_ret
    exact ⟨rfl, below2 _ _ _⟩
  · rw [decide_eq_false c]
    go_enter Tryd.func38, Tryd.ntmps38
    go_wp2_with fail
    go_ret
    exact ⟨rfl, below2 _ _ _⟩
/-- an interval with 0 -/
def zI (a b : Int) : Bool := decide (a ≤ 0 ∧ 0 ≤ b)
theorem hasZ_any (a b : Int) (w : World) :
    Calls Tryd.prog 20 #[.agg #[.int .i64 a, .int .i64 b]] w fun e w' => e = .returned (.bool (zI a b)) ∧ Below w.heap.size w w' := by
  obtain ⟨a0, a1, af0, af1, alt⟩ := At2.new w (.int .i64 a) (.int .i64 b) 23
  unfold zI
  by_cases c1 : a ≤ 0
  · by_cases c2 : b ≥ 0
    · rw [decide_eq_true (show a ≤ 0 ∧ 0 ≤ b by omega)]
      go_enter Tryd.func20, Tryd.ntmps20
      go_wp2
      go_ret
      exact ⟨rfl, below1 _ _⟩
    · rw [decide_eq_false (show ¬ (a ≤ 0 ∧ 0 ≤ b) by omega)]
      go_enter Tryd.func20, Tryd.ntmps20
      go_wp2
      go_ret
      exact ⟨rfl, below1 _ _⟩
  · rw [decide_eq_false (show ¬ (a ≤ 0 ∧ 0 ≤ b) by omega)]
    go_enter Tryd.func20, Tryd.ntmps20
    go_wp2
    go_ret
    exact ⟨rfl, below1 _ _⟩
theorem hasZ_is (a b : Int) (r : Bool) (h : zI a b = r) (w : World) :
    Calls Tryd.prog 20 #[.agg #[.int .i64 a, .int .i64 b]] w fun e w' => e = .returned (.bool r) ∧ Below w.heap.size w w' := h ▸ hasZ_any a b w
/-- the first and the last of some points -/
def exF (p : Nat → Int × Int) : Nat → Int × Int
  | 0 => p 0
  | j + 1 => if bf (p (j + 1)) (exF p j) = true then p (j + 1) else exF p j
def exL (p : Nat → Int × Int) : Nat → Int × Int
  | 0 => p 0
  | j + 1 => if bf (exL p j) (p (j + 1)) = true then p (j + 1) else exL p j
theorem ex_in {p : Nat → Int × Int} (h : ∀ i, In31 (p i)) (j : Nat) : In31 (exF p j) ∧ In31 (exL p j) := by
  induction j with
  | zero => exact ⟨h 0, h 0⟩
  | succ j ih =>
    refine ⟨?_, ?_⟩
    · show In31 (if _ then _ else _); split
      · exact h _
      · exact ih.1
    · show In31 (if _ then _ else _); split
      · exact h _
      · exact ih.2
/-- a block of eight cells -/
structure At8 (w : World) (b : Nat) (a c d e f g h i : Value) : Prop where
  c0 : w.cell? ⟨b, 0, none⟩ = some a
  c1 : w.cell? ⟨b, 1, none⟩ = some c
  c2 : w.cell? ⟨b, 2, none⟩ = some d
  c3 : w.cell? ⟨b, 3, none⟩ = some e
  c4 : w.cell? ⟨b, 4, none⟩ = some f
  c5 : w.cell? ⟨b, 5, none⟩ = some g
  c6 : w.cell? ⟨b, 6, none⟩ = some h
  c7 : w.cell? ⟨b, 7, none⟩ = some i
theorem At8.lt {w : World} {b : Nat} {a c d e f g h i : Value} (k : At8 w b a c d e f g h i) : b < w.heap.size := World.block_lt_of_cell? _ _ k.c0
theorem At8.keep {w w1 : World} {b : Nat} {a c d e f g h i : Value} (k : At8 w b a c d e f g h i) (hb : Below w.heap.size w w1) : At8 w1 b a c d e f g h i :=
  ⟨(hb.cell (p := ⟨b, 0, none⟩) k.lt).trans k.c0, (hb.cell (p := ⟨b, 1, none⟩) k.lt).trans k.c1, (hb.cell (p := ⟨b, 2, none⟩) k.lt).trans k.c2, (hb.cell (p := ⟨b, 3, none⟩) k.lt).trans k.c3, (hb.cell (p := ⟨b, 4, none⟩) k.lt).trans k.c4, (hb.cell (p := ⟨b, 5, none⟩) k.lt).trans k.c5, (hb.cell (p := ⟨b, 6, none⟩) k.lt).trans k.c6, (hb.cell (p := ⟨b, 7, none⟩) k.lt).trans k.c7⟩
theorem At8.new (w : World) (a c d e f g h i : Value) (T : Nat) : At8 (w.alloc (.cells #[a, c, d, e, f, g, h, i] T)) w.heap.size a c d e f g h i := ⟨by simp, by simp, by simp, by simp, by simp, by simp, by simp, by simp⟩
theorem At8.alloc {w : World} {b : Nat} {a c d e f g h i : Value} (k : At8 w b a c d e f g h i) (o : Obj) : At8 (w.alloc o) b a c d e f g h i := k.keep ((Below.refl _ _).alloc (Nat.le_refl _) o)
theorem At8.far {w : World} {b z : Nat} {a c d e f g h i : Value} (k : At8 w b a c d e f g h i) (hne : b ≠ z) (u v : Value) : At8 ((w.setCell ⟨z, 0, none⟩ u).setCell ⟨z, 1, none⟩ v) b a c d e f g h i := by
  have o : ∀ (i j : Nat) (wx : World) (s : Value), (wx.setCell ⟨z, j, none⟩ s).cell? ⟨b, i, none⟩ = wx.cell? ⟨b, i, none⟩ := fun i j wx s => World.cell?_setCell_other _ _ _ s (by simp; try omega)
  exact ⟨by rw [o, o]; exact k.c0, by rw [o, o]; exact k.c1, by rw [o, o]; exact k.c2, by rw [o, o]; exact k.c3, by rw [o, o]; exact k.c4, by rw [o, o]; exact k.c5, by rw [o, o]; exact k.c6, by rw [o, o]; exact k.c7⟩
def vP (a : Int × Int) : Value := .agg #[.int .i64 a.1, .int .i64 a.2]
theorem before_p (a b : Int × Int) (A : In31 a) (B : In31 b) (r : Bool) (h : bf a b = r) (w : World) :
    Calls Tryd.prog 38 #[.agg #[.int .i64 a.1, .int .i64 a.2], .agg #[.int .i64 b.1, .int .i64 b.2]] w fun e w' => e = .returned (.bool r) ∧ Below w.heap.size w w' := h ▸ before_any a.1 a.2 b.1 b.2 A B w
theorem ext_r011 (p : Nat → Int × Int) (hp : ∀ i, In31 (p i)) (h1 : bf (p 1) (exF p 0) = true) (h2 : bf (exL p 0) (p 1) = true) : exF p 1 = p 1 ∧ exL p 1 = p 1 := by
  constructor
  · show (if _ then _ else _) = _; rw [if_pos h1]
  · show (if _ then _ else _) = _; rw [if_pos h2]
theorem ext_r010 (p : Nat → Int × Int) (hp : ∀ i, In31 (p i)) (h1 : bf (p 1) (exF p 0) = true) (h2 : bf (exL p 0) (p 1) = false) : exF p 1 = p 1 ∧ exL p 1 = exL p 0 := by
  constructor
  · show (if _ then _ else _) = _; rw [if_pos h1]
  · show (if _ then _ else _) = _; rw [if_neg (by rw [h2]; exact Bool.false_ne_true)]
theorem ext_r001 (p : Nat → Int × Int) (hp : ∀ i, In31 (p i)) (h1 : bf (p 1) (exF p 0) = false) (h2 : bf (exL p 0) (p 1) = true) : exF p 1 = exF p 0 ∧ exL p 1 = p 1 := by
  constructor
  · show (if _ then _ else _) = _; rw [if_neg (by rw [h1]; exact Bool.false_ne_true)]
  · show (if _ then _ else _) = _; rw [if_pos h2]
theorem ext_r000 (p : Nat → Int × Int) (hp : ∀ i, In31 (p i)) (h1 : bf (p 1) (exF p 0) = false) (h2 : bf (exL p 0) (p 1) = false) : exF p 1 = exF p 0 ∧ exL p 1 = exL p 0 := by
  constructor
  · show (if _ then _ else _) = _; rw [if_neg (by rw [h1]; exact Bool.false_ne_true)]
  · show (if _ then _ else _) = _; rw [if_neg (by rw [h2]; exact Bool.false_ne_true)]
theorem ext_r111 (p : Nat → Int × Int) (hp : ∀ i, In31 (p i)) (h1 : bf (p 2) (exF p 1) = true) (h2 : bf (exL p 1) (p 2) = true) : exF p 2 = p 2 ∧ exL p 2 = p 2 := by
  constructor
  · show (if _ then _ else _) = _; rw [if_pos h1]
  · show (if _ then _ else _) = _; rw [if_pos h2]
theorem ext_r110 (p : Nat → Int × Int) (hp : ∀ i, In31 (p i)) (h1 : bf (p 2) (exF p 1) = true) (h2 : bf (exL p 1) (p 2) = false) : exF p 2 = p 2 ∧ exL p 2 = exL p 1 := by
  constructor
  · show (if _ then _ else _) = _; rw [if_pos h1]
  · show (if _ then _ else _) = _; rw [if_neg (by rw [h2]; exact Bool.false_ne_true)]
theorem ext_r101 (p : Nat → Int × Int) (hp : ∀ i, In31 (p i)) (h1 : bf (p 2) (exF p 1) = false) (h2 : bf (exL p 1) (p 2) = true) : exF p 2 = exF p 1 ∧ exL p 2 = p 2 := by
  constructor
  · show (if _ then _ else _) = _; rw [if_neg (by rw [h1]; exact Bool.false_ne_true)]
  · show (if _ then _ else _) = _; rw [if_pos h2]
theorem ext_r100 (p : Nat → Int × Int) (hp : ∀ i, In31 (p i)) (h1 : bf (p 2) (exF p 1) = false) (h2 : bf (exL p 1) (p 2) = false) : exF p 2 = exF p 1 ∧ exL p 2 = exL p 1 := by
  constructor
  · show (if _ then _ else _) = _; rw [if_neg (by rw [h1]; exact Bool.false_ne_true)]
  · show (if _ then _ else _) = _; rw [if_neg (by rw [h2]; exact Bool.false_ne_true)]
theorem ext_r211 (p : Nat → Int × Int) (hp : ∀ i, In31 (p i)) (h1 : bf (p 3) (exF p 2) = true) (h2 : bf (exL p 2) (p 3) = true) : exF p 3 = p 3 ∧ exL p 3 = p 3 := by
  constructor
  · show (if _ then _ else _) = _; rw [if_pos h1]
  · show (if _ then _ else _) = _; rw [if_pos h2]
theorem ext_r210 (p : Nat → Int × Int) (hp : ∀ i, In31 (p i)) (h1 : bf (p 3) (exF p 2) = true) (h2 : bf (exL p 2) (p 3) = false) : exF p 3 = p 3 ∧ exL p 3 = exL p 2 := by
  constructor
  · show (if _ then _ else _) = _; rw [if_pos h1]
  · show (if _ then _ else _) = _; rw [if_neg (by rw [h2]; exact Bool.false_ne_true)]
theorem ext_r201 (p : Nat → Int × Int) (hp : ∀ i, In31 (p i)) (h1 : bf (p 3) (exF p 2) = false) (h2 : bf (exL p 2) (p 3) = true) : exF p 3 = exF p 2 ∧ exL p 3 = p 3 := by
  constructor
  · show (if _ then _ else _) = _; rw [if_neg (by rw [h1]; exact Bool.false_ne_true)]
  · show (if _ then _ else _) = _; rw [if_pos h2]
theorem ext_r200 (p : Nat → Int × Int) (hp : ∀ i, In31 (p i)) (h1 : bf (p 3) (exF p 2) = false) (h2 : bf (exL p 2) (p 3) = false) : exF p 3 = exF p 2 ∧ exL p 3 = exL p 2 := by
  constructor
  · show (if _ then _ else _) = _; rw [if_neg (by rw [h1]; exact Bool.false_ne_true)]
  · show (if _ then _ else _) = _; rw [if_neg (by rw [h2]; exact Bool.false_ne_true)]
set_option maxHeartbeats 4000000 in
theorem ext_any (p : Nat → Int × Int) (hp : ∀ i, In31 (p i)) (w : World) :
    Calls Tryd.prog 21 #[.agg #[.int .i64 (p 0).1, .int .i64 (p 0).2, .int .i64 (p 1).1, .int .i64 (p 1).2, .int .i64 (p 2).1, .int .i64 (p 2).2, .int .i64 (p 3).1, .int .i64 (p 3).2]] w fun e w' => e = .returned (.tuple #[.agg #[.int .i64 (exF p 3).1, .int .i64 (exF p 3).2], .agg #[.int .i64 (exL p 3).1, .int .i64 (exL p 3).2]]) ∧ Below w.heap.size w w' := by
  obtain ⟨Z, hZ⟩ : ∃ o : Obj, o = .cells #[.int .i64 (p 0).1, .int .i64 (p 0).2, .int .i64 (p 1).1, .int .i64 (p 1).2, .int .i64 (p 2).1, .int .i64 (p 2).2, .int .i64 (p 3).1, .int .i64 (p 3).2] 53 := ⟨_, rfl⟩
  have E := At8.new w (.int .i64 (p 0).1) (.int .i64 (p 0).2) (.int .i64 (p 1).1) (.int .i64 (p 1).2) (.int .i64 (p 2).1) (.int .i64 (p 2).2) (.int .i64 (p 3).1) (.int .i64 (p 3).2) 53
  have E := (E.alloc (.cells #[.int .i64 0, .int .i64 0] 50)).alloc (.cells #[.int .i64 0, .int .i64 0] 50)
  rw [← hZ] at E
  have F := (At2.new (w.alloc Z) (.int .i64 0) (.int .i64 0) 50).alloc (.cells #[.int .i64 0, .int .i64 0] 50)
  have L := At2.new ((w.alloc Z).alloc (.cells #[.int .i64 0, .int .i64 0] 50)) (.int .i64 0) (.int .i64 0) 50
  have HB := Lib.hid (below3 w Z (.cells #[.int .i64 0, .int .i64 0] 50) (.cells #[.int .i64 0, .int .i64 0] 50))
  rw [hZ] at E F L HB
  clear hZ Z
  simp at F L
  obtain ⟨E0, E1, E2, E3, E4, E5, E6, E7⟩ := id E
  obtain ⟨F0, F1, F2, F3, -⟩ := id F
  obtain ⟨L0, L1, L2, L3, -⟩ := id L
  go_enter Tryd.func21, Tryd.ntmps21
  go_upto_region 1 with fail
  go_cut [] from 6 to 9 (fun wx => Hid (At8 wx w.heap.size (.int .i64 (p 0).1) (.int .i64 (p 0).2) (.int .i64 (p 1).1) (.int .i64 (p 1).2) (.int .i64 (p 2).1) (.int .i64 (p 2).2) (.int .i64 (p 3).1) (.int .i64 (p 3).2)) ∧ Hid (At2 wx (w.heap.size + 1) (.int .i64 (p 0).1) (.int .i64 (p 0).2)) ∧ Hid (At2 wx (w.heap.size + 1 + 1) (.int .i64 (p 0).1) (.int .i64 (p 0).2)) ∧ Hid (Below w.heap.size w wx))
  case first =>
    have E8 := (((At8.new w (.int .i64 (p 0).1) (.int .i64 (p 0).2) (.int .i64 (p 1).1) (.int .i64 (p 1).2) (.int .i64 (p 2).1) (.int .i64 (p 2).2) (.int .i64 (p 3).1) (.int .i64 (p 3).2) 53).alloc (.cells #[.int .i64 (p 0).1, .int .i64 (p 0).2] 50)).alloc (.cells #[.int .i64 (p 0).1, .int .i64 (p 0).2] 50)).keep ((Below.refl _ _).drew)
    have F8 := ((At2.new (w.alloc (.cells #[.int .i64 (p 0).1, .int .i64 (p 0).2, .int .i64 (p 1).1, .int .i64 (p 1).2, .int .i64 (p 2).1, .int .i64 (p 2).2, .int .i64 (p 3).1, .int .i64 (p 3).2] 53)) (.int .i64 (p 0).1) (.int .i64 (p 0).2) 50).alloc (.cells #[.int .i64 (p 0).1, .int .i64 (p 0).2] 50)).keep ((Below.refl _ _).drew)
    have L8 := (At2.new ((w.alloc (.cells #[.int .i64 (p 0).1, .int .i64 (p 0).2, .int .i64 (p 1).1, .int .i64 (p 1).2, .int .i64 (p 2).1, .int .i64 (p 2).2, .int .i64 (p 3).1, .int .i64 (p 3).2] 53)).alloc (.cells #[.int .i64 (p 0).1, .int .i64 (p 0).2] 50)) (.int .i64 (p 0).1) (.int .i64 (p 0).2) 50).keep ((Below.refl _ _).drew)
    have H8 := (below3 w (.cells #[.int .i64 (p 0).1, .int .i64 (p 0).2, .int .i64 (p 1).1, .int .i64 (p 1).2, .int .i64 (p 2).1, .int .i64 (p 2).2, .int .i64 (p 3).1, .int .i64 (p 3).2] 53) (.cells #[.int .i64 (p 0).1, .int .i64 (p 0).2] 50) (.cells #[.int .i64 (p 0).1, .int .i64 (p 0).2] 50)).drew
    simp at F8 L8
    have E8 := Lib.hid E8
    have F8 := Lib.hid F8
    have L8 := Lib.hid L8
    have H8 := Lib.hid H8
    go_region
    all_goals
      go_wp2_with fail
      go_meet
      exact ⟨E8, F8, L8, H8⟩
  case rest =>
    obtain ⟨E', F', L', HB'⟩ := hcut
    clear E F L HB E0 E1 E2 E3 E4 E5 E6 E7 F0 F1 F2 F3 L0 L1 L2 L3
    have E := E'.out
    obtain ⟨E0, E1, E2, E3, E4, E5, E6, E7⟩ := id E
    have HP := Lib.hid hp
    clear hp
    go_wp2_with fail
    go_loopg [12] 3 (fun m v12 wr => ∃ j : Nat, m = 3 - j ∧ v12 = .int .i64 (j : Int) ∧ Hid (j ≤ 3) ∧ Hid (At8 wr w.heap.size (.int .i64 (p 0).1) (.int .i64 (p 0).2) (.int .i64 (p 1).1) (.int .i64 (p 1).2) (.int .i64 (p 2).1) (.int .i64 (p 2).2) (.int .i64 (p 3).1) (.int .i64 (p 3).2)) ∧ Hid (At2 wr (w.heap.size + 1) (.int .i64 (exF p j).1) (.int .i64 (exF p j).2)) ∧ Hid (At2 wr (w.heap.size + 1 + 1) (.int .i64 (exL p j).1) (.int .i64 (exL p j).2)) ∧ Hid (Below w.heap.size w wr))
    case atStart => exact ⟨0, rfl, rfl, Nat.zero_le _, E', F', L', HB'⟩
    case round =>
      obtain ⟨j, hm, rfl, HJ, E', F', L', HB⟩ := hrel
      have HM := Lib.hid hm
      clear hm E0 E1 E2 E3 E4 E5 E6 E7 E
      have E := E'.out
      have F := F'.out
      have L := L'.out
      clear E' F' L'
      obtain ⟨E0, E1, E2, E3, E4, E5, E6, E7⟩ := id E
      obtain ⟨F0, F1, -, -, -⟩ := id F
      obtain ⟨L0, L1, -, -, -⟩ := id L
      rcases (show j = 0 ∨ j = 1 ∨ j = 2 ∨ j = 3 by have := HJ.out; omega) with rfl | rfl | rfl | rfl
      · rcases Bool.eq_false_or_eq_true (bf (p 1) (exF p 0)) with h1 | h1 <;> rcases Bool.eq_false_or_eq_true (bf (exL p 0) (p 1)) with h2 | h2
        · obtain ⟨q1, q2⟩ := ext_r011 p HP.out h1 h2
          have C1 := Lib.hid (fun wx => before_p (p 1) (exF p 0) (HP.out _) (ex_in HP.out _).1 _ h1 wx)
          have C2 := Lib.hid (fun wx => before_p (exL p 0) (p 1) (ex_in HP.out _).2 (HP.out _) _ h2 wx)
          have Q := Lib.hid (And.intro q1 q2)
          clear q1 q2 h1 h2
          generalize exF p 0 = ef at *
          generalize exL p 0 = el at *
          have lw := E.lt
          have lf := F.lt
          have ll := L.lt
          have N := At2.new wr (.int .i64 (p 1).1) (.int .i64 (p 1).2) 50
          have HB := Lib.hid (bstep HB.out (below1 wr (.cells #[.int .i64 (p 1).1, .int .i64 (p 1).2] 50)))
          have E := E.alloc (.cells #[.int .i64 (p 1).1, .int .i64 (p 1).2] 50)
          have F := F.alloc (.cells #[.int .i64 (p 1).1, .int .i64 (p 1).2] 50)
          have L := L.alloc (.cells #[.int .i64 (p 1).1, .int .i64 (p 1).2] 50)
          go_wp2_with fail
          refine (C1.out _).mono ?_
          rintro e w1 ⟨rfl, hb⟩
          clear E0 E1 E2 E3 E4 E5 E6 E7 F0 F1 L0 L1
          have E := E.keep hb
          have F := F.keep hb
          have L := L.keep hb
          have N := N.keep hb
          have HB := Lib.hid (bstep HB.out hb)
          clear hb
          obtain ⟨F0, F1, F2, F3, -⟩ := id F
          obtain ⟨L0, L1, L2, L3, -⟩ := id L
          obtain ⟨N0, N1, -, -, -⟩ := id N
          have x1 : ¬ w.heap.size + 1 = wr.heap.size := by omega
          have x2 : ¬ wr.heap.size = w.heap.size + 1 := by omega
          have x3 : ¬ w.heap.size + 1 + 1 = wr.heap.size := by omega
          have x4 : ¬ wr.heap.size = w.heap.size + 1 + 1 := by omega
          go_wp2_with fail
          have E := E.far (show w.heap.size ≠ w.heap.size + 1 by omega) (.int .i64 (p 1).1) (.int .i64 (p 1).2)
          have L := L.far (show w.heap.size + 1 + 1 ≠ w.heap.size + 1 by omega) (.int .i64 (p 1).1) (.int .i64 (p 1).2)
          have N := N.far x2 (.int .i64 (p 1).1) (.int .i64 (p 1).2)
          have F := F.put (.int .i64 (p 1).1) (.int .i64 (p 1).2)
          have HB := Lib.hid (below_set2 HB.out (show w.heap.size ≤ w.heap.size + 1 by omega) (.int .i64 (p 1).1) (.int .i64 (p 1).2))
          refine (C2.out _).mono ?_
          rintro e w2 ⟨rfl, hb⟩
          clear F0 F1 F2 F3 L0 L1 L2 L3 N0 N1
          have E := E.keep hb
          have F := F.keep hb
          have L := L.keep hb
          have N := N.keep hb
          have HB := Lib.hid (bstep HB.out hb)
          clear hb
          obtain ⟨L0, L1, L2, L3, -⟩ := id L
          obtain ⟨N0, N1, -, -, -⟩ := id N
          go_wp2_with fail
          have E := E.far (show w.heap.size ≠ w.heap.size + 1 + 1 by omega) (.int .i64 (p 1).1) (.int .i64 (p 1).2)
          have F := F.far (show w.heap.size + 1 ≠ w.heap.size + 1 + 1 by omega) (.int .i64 (p 1).1) (.int .i64 (p 1).2)
          have L := L.put (.int .i64 (p 1).1) (.int .i64 (p 1).2)
          have HB := Lib.hid (below_set2 HB.out (show w.heap.size ≤ w.heap.size + 1 + 1 by omega) (.int .i64 (p 1).1) (.int .i64 (p 1).2))
          go_roundg 2
          case measure => have := HM.out; omega
          case rel => exact ⟨1, rfl, rfl, by show _ ≤ _; omega, E, by rw [Q.out.1]; exact F, by rw [Q.out.2]; exact L, HB⟩
        · obtain ⟨q1, q2⟩ := ext_r010 p HP.out h1 h2
          have C1 := Lib.hid (fun wx => before_p (p 1) (exF p 0) (HP.out _) (ex_in HP.out _).1 _ h1 wx)
          have C2 := Lib.hid (fun wx => before_p (exL p 0) (p 1) (ex_in HP.out _).2 (HP.out _) _ h2 wx)
          have Q := Lib.hid (And.intro q1 q2)
          clear q1 q2 h1 h2
          generalize exF p 0 = ef at *
          generalize exL p 0 = el at *
          have lw := E.lt
          have lf := F.lt
          have ll := L.lt
          have N := At2.new wr (.int .i64 (p 1).1) (.int .i64 (p 1).2) 50
          have HB := Lib.hid (bstep HB.out (below1 wr (.cells #[.int .i64 (p 1).1, .int .i64 (p 1).2] 50)))
          have E := E.alloc (.cells #[.int .i64 (p 1).1, .int .i64 (p 1).2] 50)
          have F := F.alloc (.cells #[.int .i64 (p 1).1, .int .i64 (p 1).2] 50)
          have L := L.alloc (.cells #[.int .i64 (p 1).1, .int .i64 (p 1).2] 50)
          go_wp2_with fail
          refine (C1.out _).mono ?_
          rintro e w1 ⟨rfl, hb⟩
          clear E0 E1 E2 E3 E4 E5 E6 E7 F0 F1 L0 L1
          have E := E.keep hb
          have F := F.keep hb
          have L := L.keep hb
          have N := N.keep hb
          have HB := Lib.hid (bstep HB.out hb)
          clear hb
          obtain ⟨F0, F1, F2, F3, -⟩ := id F
          obtain ⟨L0, L1, L2, L3, -⟩ := id L
          obtain ⟨N0, N1, -, -, -⟩ := id N
          have x1 : ¬ w.heap.size + 1 = wr.heap.size := by omega
          have x2 : ¬ wr.heap.size = w.heap.size + 1 := by omega
          have x3 : ¬ w.heap.size + 1 + 1 = wr.heap.size := by omega
          have x4 : ¬ wr.heap.size = w.heap.size + 1 + 1 := by omega
          go_wp2_with fail
          have E := E.far (show w.heap.size ≠ w.heap.size + 1 by omega) (.int .i64 (p 1).1) (.int .i64 (p 1).2)
          have L := L.far (show w.heap.size + 1 + 1 ≠ w.heap.size + 1 by omega) (.int .i64 (p 1).1) (.int .i64 (p 1).2)
          have N := N.far x2 (.int .i64 (p 1).1) (.int .i64 (p 1).2)
          have F := F.put (.int .i64 (p 1).1) (.int .i64 (p 1).2)
          have HB := Lib.hid (below_set2 HB.out (show w.heap.size ≤ w.heap.size + 1 by omega) (.int .i64 (p 1).1) (.int .i64 (p 1).2))
          refine (C2.out _).mono ?_
          rintro e w2 ⟨rfl, hb⟩
          clear F0 F1 F2 F3 L0 L1 L2 L3 N0 N1
          have E := E.keep hb
          have F := F.keep hb
          have L := L.keep hb
          have N := N.keep hb
          have HB := Lib.hid (bstep HB.out hb)
          clear hb
          obtain ⟨L0, L1, L2, L3, -⟩ := id L
          obtain ⟨N0, N1, -, -, -⟩ := id N
          go_wp2_with fail
          go_roundg 2
          case measure => have := HM.out; omega
          case rel => exact ⟨1, rfl, rfl, by show _ ≤ _; omega, E, by rw [Q.out.1]; exact F, by rw [Q.out.2]; exact L, HB⟩
        · obtain ⟨q1, q2⟩ := ext_r001 p HP.out h1 h2
          have C1 := Lib.hid (fun wx => before_p (p 1) (exF p 0) (HP.out _) (ex_in HP.out _).1 _ h1 wx)
          have C2 := Lib.hid (fun wx => before_p (exL p 0) (p 1) (ex_in HP.out _).2 (HP.out _) _ h2 wx)
          have Q := Lib.hid (And.intro q1 q2)
          clear q1 q2 h1 h2
          generalize exF p 0 = ef at *
          generalize exL p 0 = el at *
          have lw := E.lt
          have lf := F.lt
          have ll := L.lt
          have N := At2.new wr (.int .i64 (p 1).1) (.int .i64 (p 1).2) 50
          have HB := Lib.hid (bstep HB.out (below1 wr (.cells #[.int .i64 (p 1).1, .int .i64 (p 1).2] 50)))
          have E := E.alloc (.cells #[.int .i64 (p 1).1, .int .i64 (p 1).2] 50)
          have F := F.alloc (.cells #[.int .i64 (p 1).1, .int .i64 (p 1).2] 50)
          have L := L.alloc (.cells #[.int .i64 (p 1).1, .int .i64 (p 1).2] 50)
          go_wp2_with fail
          refine (C1.out _).mono ?_
          rintro e w1 ⟨rfl, hb⟩
          clear E0 E1 E2 E3 E4 E5 E6 E7 F0 F1 L0 L1
          have E := E.keep hb
          have F := F.keep hb
          have L := L.keep hb
          have N := N.keep hb
          have HB := Lib.hid (bstep HB.out hb)
          clear hb
          obtain ⟨F0, F1, F2, F3, -⟩ := id F
          obtain ⟨L0, L1, L2, L3, -⟩ := id L
          obtain ⟨N0, N1, -, -, -⟩ := id N
          have x1 : ¬ w.heap.size + 1 = wr.heap.size := by omega
          have x2 : ¬ wr.heap.size = w.heap.size + 1 := by omega
          have x3 : ¬ w.heap.size + 1 + 1 = wr.heap.size := by omega
          have x4 : ¬ wr.heap.size = w.heap.size + 1 + 1 := by omega
          go_wp2_with fail
          refine (C2.out _).mono ?_
          rintro e w2 ⟨rfl, hb⟩
          clear F0 F1 F2 F3 L0 L1 L2 L3 N0 N1
          have E := E.keep hb
          have F := F.keep hb
          have L := L.keep hb
          have N := N.keep hb
          have HB := Lib.hid (bstep HB.out hb)
          clear hb
          obtain ⟨L0, L1, L2, L3, -⟩ := id L
          obtain ⟨N0, N1, -, -, -⟩ := id N
          go_wp2_with fail
          have E := E.far (show w.heap.size ≠ w.heap.size + 1 + 1 by omega) (.int .i64 (p 1).1) (.int .i64 (p 1).2)
          have F := F.far (show w.heap.size + 1 ≠ w.heap.size + 1 + 1 by omega) (.int .i64 (p 1).1) (.int .i64 (p 1).2)
          have L := L.put (.int .i64 (p 1).1) (.int .i64 (p 1).2)
          have HB := Lib.hid (below_set2 HB.out (show w.heap.size ≤ w.heap.size + 1 + 1 by omega) (.int .i64 (p 1).1) (.int .i64 (p 1).2))
          go_roundg 2
          case measure => have := HM.out; omega
          case rel => exact ⟨1, rfl, rfl, by show _ ≤ _; omega, E, by rw [Q.out.1]; exact F, by rw [Q.out.2]; exact L, HB⟩
        · obtain ⟨q1, q2⟩ := ext_r000 p HP.out h1 h2
          have C1 := Lib.hid (fun wx => before_p (p 1) (exF p 0) (HP.out _) (ex_in HP.out _).1 _ h1 wx)
          have C2 := Lib.hid (fun wx => before_p (exL p 0) (p 1) (ex_in HP.out _).2 (HP.out _) _ h2 wx)
          have Q := Lib.hid (And.intro q1 q2)
          clear q1 q2 h1 h2
          generalize exF p 0 = ef at *
          generalize exL p 0 = el at *
          have lw := E.lt
          have lf := F.lt
          have ll := L.lt
          have N := At2.new wr (.int .i64 (p 1).1) (.int .i64 (p 1).2) 50
          have HB := Lib.hid (bstep HB.out (below1 wr (.cells #[.int .i64 (p 1).1, .int .i64 (p 1).2] 50)))
          have E := E.alloc (.cells #[.int .i64 (p 1).1, .int .i64 (p 1).2] 50)
          have F := F.alloc (.cells #[.int .i64 (p 1).1, .int .i64 (p 1).2] 50)
          have L := L.alloc (.cells #[.int .i64 (p 1).1, .int .i64 (p 1).2] 50)
          go_wp2_with fail
          refine (C1.out _).mono ?_
          rintro e w1 ⟨rfl, hb⟩
          clear E0 E1 E2 E3 E4 E5 E6 E7 F0 F1 L0 L1
          have E := E.keep hb
          have F := F.keep hb
          have L := L.keep hb
          have N := N.keep hb
          have HB := Lib.hid (bstep HB.out hb)
          clear hb
          obtain ⟨F0, F1, F2, F3, -⟩ := id F
          obtain ⟨L0, L1, L2, L3, -⟩ := id L
          obtain ⟨N0, N1, -, -, -⟩ := id N
          have x1 : ¬ w.heap.size + 1 = wr.heap.size := by omega
          have x2 : ¬ wr.heap.size = w.heap.size + 1 := by omega
          have x3 : ¬ w.heap.size + 1 + 1 = wr.heap.size := by omega
          have x4 : ¬ wr.heap.size = w.heap.size + 1 + 1 := by omega
          go_wp2_with fail
          refine (C2.out _).mono ?_
          rintro e w2 ⟨rfl, hb⟩
          clear F0 F1 F2 F3 L0 L1 L2 L3 N0 N1
          have E := E.keep hb
          have F := F.keep hb
          have L := L.keep hb
          have N := N.keep hb
          have HB := Lib.hid (bstep HB.out hb)
          clear hb
          obtain ⟨L0, L1, L2, L3, -⟩ := id L
          obtain ⟨N0, N1, -, -, -⟩ := id N
          go_wp2_with fail
          go_roundg 2
          case measure => have := HM.out; omega
          case rel => exact ⟨1, rfl, rfl, by show _ ≤ _; omega, E, by rw [Q.out.1]; exact F, by rw [Q.out.2]; exact L, HB⟩
      · rcases Bool.eq_false_or_eq_true (bf (p 2) (exF p 1)) with h1 | h1 <;> rcases Bool.eq_false_or_eq_true (bf (exL p 1) (p 2)) with h2 | h2
        · obtain ⟨q1, q2⟩ := ext_r111 p HP.out h1 h2
          have C1 := Lib.hid (fun wx => before_p (p 2) (exF p 1) (HP.out _) (ex_in HP.out _).1 _ h1 wx)
          have C2 := Lib.hid (fun wx => before_p (exL p 1) (p 2) (ex_in HP.out _).2 (HP.out _) _ h2 wx)
          have Q := Lib.hid (And.intro q1 q2)
          clear q1 q2 h1 h2
          generalize exF p 1 = ef at *
          generalize exL p 1 = el at *
          have lw := E.lt
          have lf := F.lt
          have ll := L.lt
          have N := At2.new wr (.int .i64 (p 2).1) (.int .i64 (p 2).2) 50
          have HB := Lib.hid (bstep HB.out (below1 wr (.cells #[.int .i64 (p 2).1, .int .i64 (p 2).2] 50)))
          have E := E.alloc (.cells #[.int .i64 (p 2).1, .int .i64 (p 2).2] 50)
          have F := F.alloc (.cells #[.int .i64 (p 2).1, .int .i64 (p 2).2] 50)
          have L := L.alloc (.cells #[.int .i64 (p 2).1, .int .i64 (p 2).2] 50)
          go_wp2_with fail
          refine (C1.out _).mono ?_
          rintro e w1 ⟨rfl, hb⟩
          clear E0 E1 E2 E3 E4 E5 E6 E7 F0 F1 L0 L1
          have E := E.keep hb
          have F := F.keep hb
          have L := L.keep hb
          have N := N.keep hb
          have HB := Lib.hid (bstep HB.out hb)
          clear hb
          obtain ⟨F0, F1, F2, F3, -⟩ := id F
          obtain ⟨L0, L1, L2, L3, -⟩ := id L
          obtain ⟨N0, N1, -, -, -⟩ := id N
          have x1 : ¬ w.heap.size + 1 = wr.heap.size := by omega
          have x2 : ¬ wr.heap.size = w.heap.size + 1 := by omega
          have x3 : ¬ w.heap.size + 1 + 1 = wr.heap.size := by omega
          have x4 : ¬ wr.heap.size = w.heap.size + 1 + 1 := by omega
          go_wp2_with fail
          have E := E.far (show w.heap.size ≠ w.heap.size + 1 by omega) (.int .i64 (p 2).1) (.int .i64 (p 2).2)
          have L := L.far (show w.heap.size + 1 + 1 ≠ w.heap.size + 1 by omega) (.int .i64 (p 2).1) (.int .i64 (p 2).2)
          have N := N.far x2 (.int .i64 (p 2).1) (.int .i64 (p 2).2)
          have F := F.put (.int .i64 (p 2).1) (.int .i64 (p 2).2)
          have HB := Lib.hid (below_set2 HB.out (show w.heap.size ≤ w.heap.size + 1 by omega) (.int .i64 (p 2).1) (.int .i64 (p 2).2))
          refine (C2.out _).mono ?_
          rintro e w2 ⟨rfl, hb⟩
          clear F0 F1 F2 F3 L0 L1 L2 L3 N0 N1
          have E := E.keep hb
          have F := F.keep hb
          have L := L.keep hb
          have N := N.keep hb
          have HB := Lib.hid (bstep HB.out hb)
          clear hb
          obtain ⟨L0, L1, L2, L3, -⟩ := id L
          obtain ⟨N0, N1, -, -, -⟩ := id N
          go_wp2_with fail
          have E := E.far (show w.heap.size ≠ w.heap.size + 1 + 1 by omega) (.int .i64 (p 2).1) (.int .i64 (p 2).2)
          have F := F.far (show w.heap.size + 1 ≠ w.heap.size + 1 + 1 by omega) (.int .i64 (p 2).1) (.int .i64 (p 2).2)
          have L := L.put (.int .i64 (p 2).1) (.int .i64 (p 2).2)
          have HB := Lib.hid (below_set2 HB.out (show w.heap.size ≤ w.heap.size + 1 + 1 by omega) (.int .i64 (p 2).1) (.int .i64 (p 2).2))
          go_roundg 1
          case measure => have := HM.out; omega
          case rel => exact ⟨2, rfl, rfl, by show _ ≤ _; omega, E, by rw [Q.out.1]; exact F, by rw [Q.out.2]; exact L, HB⟩
        · obtain ⟨q1, q2⟩ := ext_r110 p HP.out h1 h2
          have C1 := Lib.hid (fun wx => before_p (p 2) (exF p 1) (HP.out _) (ex_in HP.out _).1 _ h1 wx)
          have C2 := Lib.hid (fun wx => before_p (exL p 1) (p 2) (ex_in HP.out _).2 (HP.out _) _ h2 wx)
          have Q := Lib.hid (And.intro q1 q2)
          clear q1 q2 h1 h2
          generalize exF p 1 = ef at *
          generalize exL p 1 = el at *
          have lw := E.lt
          have lf := F.lt
          have ll := L.lt
          have N := At2.new wr (.int .i64 (p 2).1) (.int .i64 (p 2).2) 50
          have HB := Lib.hid (bstep HB.out (below1 wr (.cells #[.int .i64 (p 2).1, .int .i64 (p 2).2] 50)))
          have E := E.alloc (.cells #[.int .i64 (p 2).1, .int .i64 (p 2).2] 50)
          have F := F.alloc (.cells #[.int .i64 (p 2).1, .int .i64 (p 2).2] 50)
          have L := L.alloc (.cells #[.int .i64 (p 2).1, .int .i64 (p 2).2] 50)
          go_wp2_with fail
          refine (C1.out _).mono ?_
          rintro e w1 ⟨rfl, hb⟩
          clear E0 E1 E2 E3 E4 E5 E6 E7 F0 F1 L0 L1
          have E := E.keep hb
          have F := F.keep hb
          have L := L.keep hb
          have N := N.keep hb
          have HB := Lib.hid (bstep HB.out hb)
          clear hb
          obtain ⟨F0, F1, F2, F3, -⟩ := id F
          obtain ⟨L0, L1, L2, L3, -⟩ := id L
          obtain ⟨N0, N1, -, -, -⟩ := id N
          have x1 : ¬ w.heap.size + 1 = wr.heap.size := by omega
          have x2 : ¬ wr.heap.size = w.heap.size + 1 := by omega
          have x3 : ¬ w.heap.size + 1 + 1 = wr.heap.size := by omega
          have x4 : ¬ wr.heap.size = w.heap.size + 1 + 1 := by omega
          go_wp2_with fail
          have E := E.far (show w.heap.size ≠ w.heap.size + 1 by omega) (.int .i64 (p 2).1) (.int .i64 (p 2).2)
          have L := L.far (show w.heap.size + 1 + 1 ≠ w.heap.size + 1 by omega) (.int .i64 (p 2).1) (.int .i64 (p 2).2)
          have N := N.far x2 (.int .i64 (p 2).1) (.int .i64 (p 2).2)
          have F := F.put (.int .i64 (p 2).1) (.int .i64 (p 2).2)
          have HB := Lib.hid (below_set2 HB.out (show w.heap.size ≤ w.heap.size + 1 by omega) (.int .i64 (p 2).1) (.int .i64 (p 2).2))
          refine (C2.out _).mono ?_
          rintro e w2 ⟨rfl, hb⟩
          clear F0 F1 F2 F3 L0 L1 L2 L3 N0 N1
          have E := E.keep hb
          have F := F.keep hb
          have L := L.keep hb
          have N := N.keep hb
          have HB := Lib.hid (bstep HB.out hb)
          clear hb
          obtain ⟨L0, L1, L2, L3, -⟩ := id L
          obtain ⟨N0, N1, -, -, -⟩ := id N
          go_wp2_with fail
          go_roundg 1
          case measure => have := HM.out; omega
          case rel => exact ⟨2, rfl, rfl, by show _ ≤ _; omega, E, by rw [Q.out.1]; exact F, by rw [Q.out.2]; exact L, HB⟩
        · obtain ⟨q1, q2⟩ := ext_r101 p HP.out h1 h2
          have C1 := Lib.hid (fun wx => before_p (p 2) (exF p 1) (HP.out _) (ex_in HP.out _).1 _ h1 wx)
          have C2 := Lib.hid (fun wx => before_p (exL p 1) (p 2) (ex_in HP.out _).2 (HP.out _) _ h2 wx)
          have Q := Lib.hid (And.intro q1 q2)
          clear q1 q2 h1 h2
          generalize exF p 1 = ef at *
          generalize exL p 1 = el at *
          have lw := E.lt
          have lf := F.lt
          have ll := L.lt
          have N := At2.new wr (.int .i64 (p 2).1) (.int .i64 (p 2).2) 50
          have HB := Lib.hid (bstep HB.out (below1 wr (.cells #[.int .i64 (p 2).1, .int .i64 (p 2).2] 50)))
          have E := E.alloc (.cells #[.int .i64 (p 2).1, .int .i64 (p 2).2] 50)
          have F := F.alloc (.cells #[.int .i64 (p 2).1, .int .i64 (p 2).2] 50)
          have L := L.alloc (.cells #[.int .i64 (p 2).1, .int .i64 (p 2).2] 50)
          go_wp2_with fail
          refine (C1.out _).mono ?_
          rintro e w1 ⟨rfl, hb⟩
          clear E0 E1 E2 E3 E4 E5 E6 E7 F0 F1 L0 L1
          have E := E.keep hb
          have F := F.keep hb
          have L := L.keep hb
          have N := N.keep hb
          have HB := Lib.hid (bstep HB.out hb)
          clear hb
          obtain ⟨F0, F1, F2, F3, -⟩ := id F
          obtain ⟨L0, L1, L2, L3, -⟩ := id L
          obtain ⟨N0, N1, -, -, -⟩ := id N
          have x1 : ¬ w.heap.size + 1 = wr.heap.size := by omega
          have x2 : ¬ wr.heap.size = w.heap.size + 1 := by omega
          have x3 : ¬ w.heap.size + 1 + 1 = wr.heap.size := by omega
          have x4 : ¬ wr.heap.size = w.heap.size + 1 + 1 := by omega
          go_wp2_with fail
          refine (C2.out _).mono ?_
          rintro e w2 ⟨rfl, hb⟩
          clear F0 F1 F2 F3 L0 L1 L2 L3 N0 N1
          have E := E.keep hb
          have F := F.keep hb
          have L := L.keep hb
          have N := N.keep hb
          have HB := Lib.hid (bstep HB.out hb)
          clear hb
          obtain ⟨L0, L1, L2, L3, -⟩ := id L
          obtain ⟨N0, N1, -, -, -⟩ := id N
          go_wp2_with fail
          have E := E.far (show w.heap.size ≠ w.heap.size + 1 + 1 by omega) (.int .i64 (p 2).1) (.int .i64 (p 2).2)
          have F := F.far (show w.heap.size + 1 ≠ w.heap.size + 1 + 1 by omega) (.int .i64 (p 2).1) (.int .i64 (p 2).2)
          have L := L.put (.int .i64 (p 2).1) (.int .i64 (p 2).2)
          have HB := Lib.hid (below_set2 HB.out (show w.heap.size ≤ w.heap.size + 1 + 1 by omega) (.int .i64 (p 2).1) (.int .i64 (p 2).2))
          go_roundg 1
          case measure => have := HM.out; omega
          case rel => exact ⟨2, rfl, rfl, by show _ ≤ _; omega, E, by rw [Q.out.1]; exact F, by rw [Q.out.2]; exact L, HB⟩
        · obtain ⟨q1, q2⟩ := ext_r100 p HP.out h1 h2
          have C1 := Lib.hid (fun wx => before_p (p 2) (exF p 1) (HP.out _) (ex_in HP.out _).1 _ h1 wx)
          have C2 := Lib.hid (fun wx => before_p (exL p 1) (p 2) (ex_in HP.out _).2 (HP.out _) _ h2 wx)
          have Q := Lib.hid (And.intro q1 q2)
          clear q1 q2 h1 h2
          generalize exF p 1 = ef at *
          generalize exL p 1 = el at *
          have lw := E.lt
          have lf := F.lt
          have ll := L.lt
          have N := At2.new wr (.int .i64 (p 2).1) (.int .i64 (p 2).2) 50
          have HB := Lib.hid (bstep HB.out (below1 wr (.cells #[.int .i64 (p 2).1, .int .i64 (p 2).2] 50)))
          have E := E.alloc (.cells #[.int .i64 (p 2).1, .int .i64 (p 2).2] 50)
          have F := F.alloc (.cells #[.int .i64 (p 2).1, .int .i64 (p 2).2] 50)
          have L := L.alloc (.cells #[.int .i64 (p 2).1, .int .i64 (p 2).2] 50)
          go_wp2_with fail
          refine (C1.out _).mono ?_
          rintro e w1 ⟨rfl, hb⟩
          clear E0 E1 E2 E3 E4 E5 E6 E7 F0 F1 L0 L1
          have E := E.keep hb
          have F := F.keep hb
          have L := L.keep hb
          have N := N.keep hb
          have HB := Lib.hid (bstep HB.out hb)
          clear hb
          obtain ⟨F0, F1, F2, F3, -⟩ := id F
          obtain ⟨L0, L1, L2, L3, -⟩ := id L
          obtain ⟨N0, N1, -, -, -⟩ := id N
          have x1 : ¬ w.heap.size + 1 = wr.heap.size := by omega
          have x2 : ¬ wr.heap.size = w.heap.size + 1 := by omega
          have x3 : ¬ w.heap.size + 1 + 1 = wr.heap.size := by omega
          have x4 : ¬ wr.heap.size = w.heap.size + 1 + 1 := by omega
          go_wp2_with fail
          refine (C2.out _).mono ?_
          rintro e w2 ⟨rfl, hb⟩
          clear F0 F1 F2 F3 L0 L1 L2 L3 N0 N1
          have E := E.keep hb
          have F := F.keep hb
          have L := L.keep hb
          have N := N.keep hb
          have HB := Lib.hid (bstep HB.out hb)
          clear hb
          obtain ⟨L0, L1, L2, L3, -⟩ := id L
          obtain ⟨N0, N1, -, -, -⟩ := id N
          go_wp2_with fail
          go_roundg 1
          case measure => have := HM.out; omega
          case rel => exact ⟨2, rfl, rfl, by show _ ≤ _; omega, E, by rw [Q.out.1]; exact F, by rw [Q.out.2]; exact L, HB⟩
      · rcases Bool.eq_false_or_eq_true (bf (p 3) (exF p 2)) with h1 | h1 <;> rcases Bool.eq_false_or_eq_true (bf (exL p 2) (p 3)) with h2 | h2
        · obtain ⟨q1, q2⟩ := ext_r211 p HP.out h1 h2
          have C1 := Lib.hid (fun wx => before_p (p 3) (exF p 2) (HP.out _) (ex_in HP.out _).1 _ h1 wx)
          have C2 := Lib.hid (fun wx => before_p (exL p 2) (p 3) (ex_in HP.out _).2 (HP.out _) _ h2 wx)
          have Q := Lib.hid (And.intro q1 q2)
          clear q1 q2 h1 h2
          generalize exF p 2 = ef at *
          generalize exL p 2 = el at *
          have lw := E.lt
          have lf := F.lt
          have ll := L.lt
          have N := At2.new wr (.int .i64 (p 3).1) (.int .i64 (p 3).2) 50
          have HB := Lib.hid (bstep HB.out (below1 wr (.cells #[.int .i64 (p 3).1, .int .i64 (p 3).2] 50)))
          have E := E.alloc (.cells #[.int .i64 (p 3).1, .int .i64 (p 3).2] 50)
          have F := F.alloc (.cells #[.int .i64 (p 3).1, .int .i64 (p 3).2] 50)
          have L := L.alloc (.cells #[.int .i64 (p 3).1, .int .i64 (p 3).2] 50)
          go_wp2_with fail
          refine (C1.out _).mono ?_
          rintro e w1 ⟨rfl, hb⟩
          clear E0 E1 E2 E3 E4 E5 E6 E7 F0 F1 L0 L1
          have E := E.keep hb
          have F := F.keep hb
          have L := L.keep hb
          have N := N.keep hb
          have HB := Lib.hid (bstep HB.out hb)
          clear hb
          obtain ⟨F0, F1, F2, F3, -⟩ := id F
          obtain ⟨L0, L1, L2, L3, -⟩ := id L
          obtain ⟨N0, N1, -, -, -⟩ := id N
          have x1 : ¬ w.heap.size + 1 = wr.heap.size := by omega
          have x2 : ¬ wr.heap.size = w.heap.size + 1 := by omega
          have x3 : ¬ w.heap.size + 1 + 1 = wr.heap.size := by omega
          have x4 : ¬ wr.heap.size = w.heap.size + 1 + 1 := by omega
          go_wp2_with fail
          have E := E.far (show w.heap.size ≠ w.heap.size + 1 by omega) (.int .i64 (p 3).1) (.int .i64 (p 3).2)
          have L := L.far (show w.heap.size + 1 + 1 ≠ w.heap.size + 1 by omega) (.int .i64 (p 3).1) (.int .i64 (p 3).2)
          have N := N.far x2 (.int .i64 (p 3).1) (.int .i64 (p 3).2)
          have F := F.put (.int .i64 (p 3).1) (.int .i64 (p 3).2)
          have HB := Lib.hid (below_set2 HB.out (show w.heap.size ≤ w.heap.size + 1 by omega) (.int .i64 (p 3).1) (.int .i64 (p 3).2))
          refine (C2.out _).mono ?_
          rintro e w2 ⟨rfl, hb⟩
          clear F0 F1 F2 F3 L0 L1 L2 L3 N0 N1
          have E := E.keep hb
          have F := F.keep hb
          have L := L.keep hb
          have N := N.keep hb
          have HB := Lib.hid (bstep HB.out hb)
          clear hb
          obtain ⟨L0, L1, L2, L3, -⟩ := id L
          obtain ⟨N0, N1, -, -, -⟩ := id N
          go_wp2_with fail
          have E := E.far (show w.heap.size ≠ w.heap.size + 1 + 1 by omega) (.int .i64 (p 3).1) (.int .i64 (p 3).2)
          have F := F.far (show w.heap.size + 1 ≠ w.heap.size + 1 + 1 by omega) (.int .i64 (p 3).1) (.int .i64 (p 3).2)
          have L := L.put (.int .i64 (p 3).1) (.int .i64 (p 3).2)
          have HB := Lib.hid (below_set2 HB.out (show w.heap.size ≤ w.heap.size + 1 + 1 by omega) (.int .i64 (p 3).1) (.int .i64 (p 3).2))
          go_roundg 0
          case measure => have := HM.out; omega
          case rel => exact ⟨3, rfl, rfl, by show _ ≤ _; omega, E, by rw [Q.out.1]; exact F, by rw [Q.out.2]; exact L, HB⟩
        · obtain ⟨q1, q2⟩ := ext_r210 p HP.out h1 h2
          have C1 := Lib.hid (fun wx => before_p (p 3) (exF p 2) (HP.out _) (ex_in HP.out _).1 _ h1 wx)
          have C2 := Lib.hid (fun wx => before_p (exL p 2) (p 3) (ex_in HP.out _).2 (HP.out _) _ h2 wx)
          have Q := Lib.hid (And.intro q1 q2)
          clear q1 q2 h1 h2
          generalize exF p 2 = ef at *
          generalize exL p 2 = el at *
          have lw := E.lt
          have lf := F.lt
          have ll := L.lt
          have N := At2.new wr (.int .i64 (p 3).1) (.int .i64 (p 3).2) 50
          have HB := Lib.hid (bstep HB.out (below1 wr (.cells #[.int .i64 (p 3).1, .int .i64 (p 3).2] 50)))
          have E := E.alloc (.cells #[.int .i64 (p 3).1, .int .i64 (p 3).2] 50)
          have F := F.alloc (.cells #[.int .i64 (p 3).1, .int .i64 (p 3).2] 50)
          have L := L.alloc (.cells #[.int .i64 (p 3).1, .int .i64 (p 3).2] 50)
          go_wp2_with fail
          refine (C1.out _).mono ?_
          rintro e w1 ⟨rfl, hb⟩
          clear E0 E1 E2 E3 E4 E5 E6 E7 F0 F1 L0 L1
          have E := E.keep hb
          have F := F.keep hb
          have L := L.keep hb
          have N := N.keep hb
          have HB := Lib.hid (bstep HB.out hb)
          clear hb
          obtain ⟨F0, F1, F2, F3, -⟩ := id F
          obtain ⟨L0, L1, L2, L3, -⟩ := id L
          obtain ⟨N0, N1, -, -, -⟩ := id N
          have x1 : ¬ w.heap.size + 1 = wr.heap.size := by omega
          have x2 : ¬ wr.heap.size = w.heap.size + 1 := by omega
          have x3 : ¬ w.heap.size + 1 + 1 = wr.heap.size := by omega
          have x4 : ¬ wr.heap.size = w.heap.size + 1 + 1 := by omega
          go_wp2_with fail
          have E := E.far (show w.heap.size ≠ w.heap.size + 1 by omega) (.int .i64 (p 3).1) (.int .i64 (p 3).2)
          have L := L.far (show w.heap.size + 1 + 1 ≠ w.heap.size + 1 by omega) (.int .i64 (p 3).1) (.int .i64 (p 3).2)
          have N := N.far x2 (.int .i64 (p 3).1) (.int .i64 (p 3).2)
          have F := F.put (.int .i64 (p 3).1) (.int .i64 (p 3).2)
          have HB := Lib.hid (below_set2 HB.out (show w.heap.size ≤ w.heap.size + 1 by omega) (.int .i64 (p 3).1) (.int .i64 (p 3).2))
          refine (C2.out _).mono ?_
          rintro e w2 ⟨rfl, hb⟩
          clear F0 F1 F2 F3 L0 L1 L2 L3 N0 N1
          have E := E.keep hb
          have F := F.keep hb
          have L := L.keep hb
          have N := N.keep hb
          have HB := Lib.hid (bstep HB.out hb)
          clear hb
          obtain ⟨L0, L1, L2, L3, -⟩ := id L
          obtain ⟨N0, N1, -, -, -⟩ := id N
          go_wp2_with fail
          go_roundg 0
          case measure => have := HM.out; omega
          case rel => exact ⟨3, rfl, rfl, by show _ ≤ _; omega, E, by rw [Q.out.1]; exact F, by rw [Q.out.2]; exact L, HB⟩
        · obtain ⟨q1, q2⟩ := ext_r201 p HP.out h1 h2
          have C1 := Lib.hid (fun wx => before_p (p 3) (exF p 2) (HP.out _) (ex_in HP.out _).1 _ h1 wx)
          have C2 := Lib.hid (fun wx => before_p (exL p 2) (p 3) (ex_in HP.out _).2 (HP.out _) _ h2 wx)
          have Q := Lib.hid (And.intro q1 q2)
          clear q1 q2 h1 h2
          generalize exF p 2 = ef at *
          generalize exL p 2 = el at *
          have lw := E.lt
          have lf := F.lt
          have ll := L.lt
          have N := At2.new wr (.int .i64 (p 3).1) (.int .i64 (p 3).2) 50
          have HB := Lib.hid (bstep HB.out (below1 wr (.cells #[.int .i64 (p 3).1, .int .i64 (p 3).2] 50)))
          have E := E.alloc (.cells #[.int .i64 (p 3).1, .int .i64 (p 3).2] 50)
          have F := F.alloc (.cells #[.int .i64 (p 3).1, .int .i64 (p 3).2] 50)
          have L := L.alloc (.cells #[.int .i64 (p 3).1, .int .i64 (p 3).2] 50)
          go_wp2_with fail
          refine (C1.out _).mono ?_
          rintro e w1 ⟨rfl, hb⟩
          clear E0 E1 E2 E3 E4 E5 E6 E7 F0 F1 L0 L1
          have E := E.keep hb
          have F := F.keep hb
          have L := L.keep hb
          have N := N.keep hb
          have HB := Lib.hid (bstep HB.out hb)
          clear hb
          obtain ⟨F0, F1, F2, F3, -⟩ := id F
          obtain ⟨L0, L1, L2, L3, -⟩ := id L
          obtain ⟨N0, N1, -, -, -⟩ := id N
          have x1 : ¬ w.heap.size + 1 = wr.heap.size := by omega
          have x2 : ¬ wr.heap.size = w.heap.size + 1 := by omega
          have x3 : ¬ w.heap.size + 1 + 1 = wr.heap.size := by omega
          have x4 : ¬ wr.heap.size = w.heap.size + 1 + 1 := by omega
          go_wp2_with fail
          refine (C2.out _).mono ?_
          rintro e w2 ⟨rfl, hb⟩
          clear F0 F1 F2 F3 L0 L1 L2 L3 N0 N1
          have E := E.keep hb
          have F := F.keep hb
          have L := L.keep hb
          have N := N.keep hb
          have HB := Lib.hid (bstep HB.out hb)
          clear hb
          obtain ⟨L0, L1, L2, L3, -⟩ := id L
          obtain ⟨N0, N1, -, -, -⟩ := id N
          go_wp2_with fail
          have E := E.far (show w.heap.size ≠ w.heap.size + 1 + 1 by omega) (.int .i64 (p 3).1) (.int .i64 (p 3).2)
          have F := F.far (show w.heap.size + 1 ≠ w.heap.size + 1 + 1 by omega) (.int .i64 (p 3).1) (.int .i64 (p 3).2)
          have L := L.put (.int .i64 (p 3).1) (.int .i64 (p 3).2)
          have HB := Lib.hid (below_set2 HB.out (show w.heap.size ≤ w.heap.size + 1 + 1 by omega) (.int .i64 (p 3).1) (.int .i64 (p 3).2))
          go_roundg 0
          case measure => have := HM.out; omega
          case rel => exact ⟨3, rfl, rfl, by show _ ≤ _; omega, E, by rw [Q.out.1]; exact F, by rw [Q.out.2]; exact L, HB⟩
        · obtain ⟨q1, q2⟩ := ext_r200 p HP.out h1 h2
          have C1 := Lib.hid (fun wx => before_p (p 3) (exF p 2) (HP.out _) (ex_in HP.out _).1 _ h1 wx)
          have C2 := Lib.hid (fun wx => before_p (exL p 2) (p 3) (ex_in HP.out _).2 (HP.out _) _ h2 wx)
          have Q := Lib.hid (And.intro q1 q2)
          clear q1 q2 h1 h2
          generalize exF p 2 = ef at *
          generalize exL p 2 = el at *
          have lw := E.lt
          have lf := F.lt
          have ll := L.lt
          have N := At2.new wr (.int .i64 (p 3).1) (.int .i64 (p 3).2) 50
          have HB := Lib.hid (bstep HB.out (below1 wr (.cells #[.int .i64 (p 3).1, .int .i64 (p 3).2] 50)))
          have E := E.alloc (.cells #[.int .i64 (p 3).1, .int .i64 (p 3).2] 50)
          have F := F.alloc (.cells #[.int .i64 (p 3).1, .int .i64 (p 3).2] 50)
          have L := L.alloc (.cells #[.int .i64 (p 3).1, .int .i64 (p 3).2] 50)
          go_wp2_with fail
          refine (C1.out _).mono ?_
          rintro e w1 ⟨rfl, hb⟩
          clear E0 E1 E2 E3 E4 E5 E6 E7 F0 F1 L0 L1
          have E := E.keep hb
          have F := F.keep hb
          have L := L.keep hb
          have N := N.keep hb
          have HB := Lib.hid (bstep HB.out hb)
          clear hb
          obtain ⟨F0, F1, F2, F3, -⟩ := id F
          obtain ⟨L0, L1, L2, L3, -⟩ := id L
          obtain ⟨N0, N1, -, -, -⟩ := id N
          have x1 : ¬ w.heap.size + 1 = wr.heap.size := by omega
          have x2 : ¬ wr.heap.size = w.heap.size + 1 := by omega
          have x3 : ¬ w.heap.size + 1 + 1 = wr.heap.size := by omega
          have x4 : ¬ wr.heap.size = w.heap.size + 1 + 1 := by omega
          go_wp2_with fail
          refine (C2.out _).mono ?_
          rintro e w2 ⟨rfl, hb⟩
          clear F0 F1 F2 F3 L0 L1 L2 L3 N0 N1
          have E := E.keep hb
          have F := F.keep hb
          have L := L.keep hb
          have N := N.keep hb
          have HB := Lib.hid (bstep HB.out hb)
          clear hb
          obtain ⟨L0, L1, L2, L3, -⟩ := id L
          obtain ⟨N0, N1, -, -, -⟩ := id N
          go_wp2_with fail
          go_roundg 0
          case measure => have := HM.out; omega
          case rel => exact ⟨3, rfl, rfl, by show _ ≤ _; omega, E, by rw [Q.out.1]; exact F, by rw [Q.out.2]; exact L, HB⟩
      · clear E0 E1 E2 E3 E4 E5 E6 E7
        clear F0 F1 L0 L1
        obtain ⟨F0, F1, F2, F3, -⟩ := id F
        obtain ⟨L0, L1, L2, L3, -⟩ := id L
        generalize hef : exF p 3 = ef at *
        generalize hel : exL p 3 = el at *
        have Q := Lib.hid (And.intro hef hel)
        clear hef hel
        go_upto_region 10 with fail
        go_cut [] from 25 to 26 (fun wx => Hid (At2 wx (w.heap.size + 1) (.int .i64 ef.1) (.int .i64 ef.2)) ∧ Hid (At2 wx (w.heap.size + 1 + 1) (.int .i64 el.1) (.int .i64 el.2)) ∧ Hid (Below w.heap.size w wx))
        case first =>
          have F := F.keep ((Below.refl _ _).drew)
          have L := L.keep ((Below.refl _ _).drew)
          have HB := Lib.hid (HB.out.drew)
          go_region
          all_goals
            go_wp2_with fail
            go_meet
            exact ⟨Lib.hid ((F.put _ _).far (by omega) _ _), Lib.hid ((L.far (by omega) _ _).put _ _), Lib.hid (below_set2 (below_set2 HB.out (by omega) _ _) (by omega) _ _)⟩
        case rest =>
          obtain ⟨F', L', HB'⟩ := hcut
          clear F L HB F0 F1 F2 F3 L0 L1 L2 L3
          obtain ⟨F0, F1, -, -, -⟩ := F'.out
          obtain ⟨L0, L1, -, -, -⟩ := L'.out
          go_wp2_with fail
          refine bodyPost_ret (v := .tuple #[.agg #[.int .i64 ef.1, .int .i64 ef.2], .agg #[.int .i64 el.1, .int .i64 el.2]]) (by simp [results, Tryd.results21, go_sem, F0, F1, L0, L1]) rfl ⟨by rw [Q.out.1, Q.out.2], ?_⟩
          exact HB'.out
end Go.Proofs.YtndcjldnnfhedaaDoor

/- Arctrig: the program's angle of any point, and Bearing. -/
namespace Go.Proofs.YtndcjldnnfhedaaDoor
open Go.RowKit
set_option linter.unusedVariables false
set_option maxRecDepth 100000

/-- a point turned back by right angles -/
def rot (a : Int × Int) : Nat → Int × Int
  | 0 => a
  | 1 => (a.2, -a.1)
  | 2 => (-a.1, -a.2)
  | _ => (-a.2, a.1)
/-- how many bring it to the first quarter -/
def rk (a : Int × Int) : Nat := if 0 < a.1 ∧ 0 ≤ a.2 then 0 else if 0 < a.2 then 1 else if a.1 < 0 then 2 else 3
theorem rk_in (a : Int × Int) : rk a ≤ 3 := by unfold rk; split <;> (try split) <;> (try split) <;> omega
theorem rk_go (a : Int × Int) (h : ¬ (a.1 = 0 ∧ a.2 = 0)) (j : Nat) (hj : j ≤ rk a) : (j < rk a → ((rot a j).1 ≤ 0 ∨ (rot a j).2 < 0) ∧ (rot a (j + 1)).1 = (rot a j).2 ∧ (rot a (j + 1)).2 = -(rot a j).1) ∧ (j = rk a → 0 < (rot a j).1 ∧ 0 ≤ (rot a j).2) := by
  obtain ⟨x, y⟩ := a
  unfold rk at *
  change ¬ (x = 0 ∧ y = 0) at h
  change j ≤ (if 0 < x ∧ 0 ≤ y then 0 else if 0 < y then 1 else if x < 0 then 2 else 3) at hj
  show (j < (if 0 < x ∧ 0 ≤ y then 0 else if 0 < y then 1 else if x < 0 then 2 else 3) → _) ∧ (j = (if 0 < x ∧ 0 ≤ y then 0 else if 0 < y then 1 else if x < 0 then 2 else 3) → _)
  by_cases c0 : 0 < x ∧ 0 ≤ y
  · rw [if_pos c0] at hj ⊢
    have : j = 0 := by omega
    subst this
    exact ⟨fun k => absurd k (by omega), fun _ => c0⟩
  · rw [if_neg c0] at hj ⊢
    by_cases c1 : 0 < y
    · rw [if_pos c1] at hj ⊢
      rcases (show j = 0 ∨ j = 1 by omega) with e | e <;> subst e
      · exact ⟨fun _ => ⟨.inl (show x ≤ 0 by omega), rfl, rfl⟩, fun k => absurd k (by omega)⟩
      · exact ⟨fun k => absurd k (by omega), fun _ => ⟨c1, show 0 ≤ -x by omega⟩⟩
    · rw [if_neg c1] at hj ⊢
      by_cases c2 : x < 0
      · rw [if_pos c2] at hj ⊢
        rcases (show j = 0 ∨ j = 1 ∨ j = 2 by omega) with e | e | e <;> subst e
        · exact ⟨fun _ => ⟨.inl (show x ≤ 0 by omega), rfl, rfl⟩, fun k => absurd k (by omega)⟩
        · exact ⟨fun _ => ⟨.inl (show y ≤ 0 by omega), rfl, rfl⟩, fun k => absurd k (by omega)⟩
        · exact ⟨fun k => absurd k (by omega), fun _ => ⟨show 0 < -x by omega, show 0 ≤ -y by omega⟩⟩
      · rw [if_neg c2] at hj ⊢
        rcases (show j = 0 ∨ j = 1 ∨ j = 2 ∨ j = 3 by omega) with e | e | e | e <;> subst e
        · exact ⟨fun _ => ⟨show x ≤ 0 ∨ y < 0 by omega, rfl, rfl⟩, fun k => absurd k (by omega)⟩
        · exact ⟨fun _ => ⟨.inl (show y ≤ 0 by omega), rfl, rfl⟩, fun k => absurd k (by omega)⟩
        · exact ⟨fun _ => ⟨show -x ≤ 0 ∨ -y < 0 by omega, rfl, show x = - -x by omega⟩, fun k => absurd k (by omega)⟩
        · exact ⟨fun k => absurd k (by omega), fun _ => ⟨show 0 < -y by omega, show 0 ≤ x by omega⟩⟩
theorem rot_in {a : Int × Int} (h : In31 a) (j : Nat) : In31 (rot a j) := by
  obtain ⟨h1, h2, h3, h4⟩ := h
  match j with
  | 0 => exact ⟨h1, h2, h3, h4⟩
  | 1 => exact ⟨h3, h4, by show -2147483648 ≤ -a.1; omega, by show -a.1 ≤ 2147483648; omega⟩
  | 2 => exact ⟨by show -2147483648 ≤ -a.1; omega, by show -a.1 ≤ 2147483648; omega, by show -2147483648 ≤ -a.2; omega, by show -a.2 ≤ 2147483648; omega⟩
  | j + 3 => exact ⟨by show -2147483648 ≤ -a.2; omega, by show -a.2 ≤ 2147483648; omega, h1, h2⟩
/-- the angle, rounded down and up -/
noncomputable def anD (a : Int × Int) : Int := 5400000 * (rk a : Int) + L6.gN (rot a (rk a)).1 (rot a (rk a)).2
noncomputable def anU (a : Int × Int) : Int := 5400000 * (rk a : Int) + L6.gU (rot a (rk a)).1 (rot a (rk a)).2
theorem an_in {a : Int × Int} (h : ¬ (a.1 = 0 ∧ a.2 = 0)) : 0 ≤ anD a ∧ anD a < 21600000 ∧ anD a ≤ anU a ∧ anU a ≤ 21600000 ∧ anU a ≤ anD a + 1 := by
  obtain ⟨-, k⟩ := rk_go a h (rk a) (Nat.le_refl _)
  obtain ⟨x0, y0⟩ := k rfl
  obtain ⟨g1, g2, g3, g4, g5⟩ := g_in _ _ x0 y0
  have := rk_in a
  unfold anD anU
  omega
set_option maxHeartbeats 2000000 in
theorem angle_any (a : Int × Int) (h : ¬ (a.1 = 0 ∧ a.2 = 0)) (i : In31 a) (w : World) (H : Held w) :
    Calls Tryd.prog 22 #[.agg #[.int .i64 a.1, .int .i64 a.2]] w fun e w' => e = .returned (.tuple #[.int .i64 (anD a), .int .i64 (anU a)]) ∧ Below w.heap.size w w' := by
  have G := Lib.hid (fun (j : Nat) (hj : j ≤ rk a) => rk_go a h j hj)
  have I := Lib.hid (fun j => rot_in i j)
  obtain ⟨k0, k1⟩ := (G.out (rk a) (Nat.le_refl _)).2 rfl
  obtain ⟨b1, b2, b3, b4⟩ := I.out (rk a)
  have C := Lib.hid (fun wx (hb : Below w.heap.size w wx) => acute_any _ _ k0 k1 b2 b4 wx (H.keep hb))
  obtain ⟨g1, g2, g3, g4, g5⟩ := g_in _ _ k0 k1
  have K3 := rk_in a
  unfold anD anU
  generalize hgd : L6.gN (rot a (rk a)).1 (rot a (rk a)).2 = gd at *
  generalize hgu : L6.gU (rot a (rk a)).1 (rot a (rk a)).2 = gu at *
  clear hgd hgu k0 k1 b1 b2 b3 b4 i h H
  obtain ⟨K, hK⟩ : ∃ K, K = rk a := ⟨_, rfl⟩
  rw [← hK] at C K3 ⊢
  have G : Hid (∀ j : Nat, j ≤ K → (j < K → ((rot a j).1 ≤ 0 ∨ (rot a j).2 < 0) ∧ (rot a (j + 1)).1 = (rot a j).2 ∧ (rot a (j + 1)).2 = -(rot a j).1) ∧ (j = K → 0 < (rot a j).1 ∧ 0 ≤ (rot a j).2)) := by rw [hK]; exact G
  clear hK
  have A := Lib.hid (At2.new w (.int .i64 a.1) (.int .i64 a.2) 50)
  have HB := Lib.hid (below1 w (.cells #[.int .i64 a.1, .int .i64 a.2] 50))
  obtain ⟨t, ht⟩ : ∃ t, 5400000 * (K : Int) = t := ⟨_, rfl⟩
  have T1 : 0 ≤ t := by omega
  have T2 : t ≤ 16200000 := by omega
  rw [ht]
  have HT := Lib.hid ht
  have K3 := Lib.hid K3
  have G1 := Lib.hid (And.intro g1 g2)
  have G2 := Lib.hid (And.intro g3 g4)
  clear ht g1 g2 g3 g4 g5
  go_enter Tryd.func22, Tryd.ntmps22
  go_wp2_with fail
  go_loopg [4] K (fun m v4 wr => ∃ j : Nat, m = K - j ∧ v4 = .int .i64 (5400000 * (j : Int)) ∧ Hid (j ≤ K) ∧ Hid (At2 wr w.heap.size (.int .i64 (rot a j).1) (.int .i64 (rot a j).2)) ∧ Hid (Below w.heap.size w wr))
  case atStart => exact ⟨0, rfl, rfl, Nat.zero_le _, A, HB⟩
  case round =>
    obtain ⟨j, hm, rfl, HJ, A', HB⟩ := hrel
    have HM := Lib.hid hm
    clear hm A
    have A := A'.out
    clear A'
    obtain ⟨A0, A1, A2, A3, -⟩ := id A
    have R := G.out j HJ.out
    obtain ⟨i1, i2, i3, i4⟩ := I.out j
    rcases (show j < K ∨ j = K by have := HJ.out; omega) with hj | hj
    · obtain ⟨r1, r2, r3⟩ := R.1 hj
      clear R
      have Q := Lib.hid (And.intro r2 r3)
      have J := Lib.hid hj
      have K3' := K3.out
      obtain ⟨tt, htt⟩ : ∃ tt, 5400000 * (j : Int) = tt := ⟨_, rfl⟩
      have t1 : 0 ≤ tt := by omega
      have t2 : tt ≤ 10800000 := by omega
      have TT := Lib.hid htt
      rw [htt]
      clear r2 r3 htt hj K3'
      generalize (rot a j).1 = x at *
      generalize (rot a j).2 = y at *
      by_cases c : x ≤ 0
      · clear r1
        go_wp2_with fail
        have A := A.put (.int .i64 y) (.int .i64 (-x))
        have HB := Lib.hid (below_set2 HB.out (Nat.le_refl _) (.int .i64 y) (.int .i64 (-x)))
        go_roundg (K - (j + 1))
        case measure => have := HM.out; have := J.out; omega
        case rel => exact ⟨j + 1, rfl, congrArg (Value.int .i64) (by have := TT.out; omega), by have := J.out; show _ ≤ _; omega, by rw [Q.out.1, Q.out.2]; exact A, HB⟩
      · have c2 : y < 0 := by omega
        clear r1
        go_wp2_with fail
        have A := A.put (.int .i64 y) (.int .i64 (-x))
        have HB := Lib.hid (below_set2 HB.out (Nat.le_refl _) (.int .i64 y) (.int .i64 (-x)))
        go_roundg (K - (j + 1))
        case measure => have := HM.out; have := J.out; omega
        case rel => exact ⟨j + 1, rfl, congrArg (Value.int .i64) (by have := TT.out; omega), by have := J.out; show _ ≤ _; omega, by rw [Q.out.1, Q.out.2]; exact A, HB⟩
    · obtain ⟨r1, r2⟩ := R.2 hj
      clear R
      subst hj
      rw [HT.out]
      have G1' := G1.out
      have G2' := G2.out
      clear HT K3 HM G HJ I
      generalize (rot a j).1 = x at *
      generalize (rot a j).2 = y at *
      have c1 : ¬ x ≤ 0 := by omega
      have c2 : ¬ y < 0 := by omega
      obtain ⟨g1, g2⟩ := G1'
      obtain ⟨g3, g4⟩ := G2'
      clear r1 r2 G1 G2
      go_wp2_with fail
      refine (C.out _ HB.out).mono ?_
      rintro e w1 ⟨rfl, hb⟩
      have HB := Lib.hid (bstep HB.out hb)
      clear hb
      go_wp2_with fail
      go_ret2
      exact ⟨rfl, HB.out⟩
theorem bear_bad1 (a b c d : Int) (w : World) (h : fok a b = false) :
    Calls Tryd.prog 6 #[.agg #[.int .i64 a, .int .i64 b], .agg #[.int .i64 c, .int .i64 d]] w fun e w' => e = .returned (.tuple #[.agg #[.int .i64 0, .int .i64 0], .int .i64 1]) ∧ Below w.heap.size w w' := by
  have V1 := Lib.hid (fun wx => fr.pValid_is a b false h wx)
  clear h
  obtain ⟨Y, X, R⟩ := At2.three w (.int .i64 a) (.int .i64 b) (.int .i64 c) (.int .i64 d) (.int .i64 0) (.int .i64 0) 23 23 25
  have HB := Lib.hid (below3 w (.cells #[.int .i64 a, .int .i64 b] 23) (.cells #[.int .i64 c, .int .i64 d] 23) (.cells #[.int .i64 0, .int .i64 0] 25))
  obtain ⟨Y0, Y1, -, -, -⟩ := id Y
  obtain ⟨X0, X1, -, -, -⟩ := id X
  go_enter Tryd.func6, Tryd.ntmps6
  go_wp2_with fail
  refine (V1.out _).mono ?_
  rintro e1 w1 ⟨rfl, hb⟩
  clear Y0 Y1 X0 X1
  have Y := Y.keep hb
  have X := X.keep hb
  have R := R.keep hb
  have HB := Lib.hid (bstep HB.out hb)
  clear hb
  obtain ⟨Y0, Y1, -, -, -⟩ := id Y
  obtain ⟨X0, X1, -, -, -⟩ := id X
  clear Y0 Y1 X0 X1
  obtain ⟨R0, R1, R2, R3, -⟩ := id R
  obtain ⟨z0, z1⟩ := set2 R0 R1 (.int .i64 (0)) (.int .i64 (0))
  go_wp2_with fail
  refine bodyPost_ret (v := .tuple #[.agg #[.int .i64 (0), .int .i64 (0)], .int .i64 (1)]) (by simp [results, Tryd.results6, go_sem, z0, z1]) rfl ⟨rfl, ?_⟩
  exact below_set2 HB.out (by omega) _ _
theorem bear_bad2 (a b c d : Int) (w : World) (h : fok a b = true) (k : fok c d = false) :
    Calls Tryd.prog 6 #[.agg #[.int .i64 a, .int .i64 b], .agg #[.int .i64 c, .int .i64 d]] w fun e w' => e = .returned (.tuple #[.agg #[.int .i64 0, .int .i64 0], .int .i64 1]) ∧ Below w.heap.size w w' := by
  have V1 := Lib.hid (fun wx => fr.pValid_is a b true h wx)
  have V2 := Lib.hid (fun wx => fr.pValid_is c d false k wx)
  clear h k
  obtain ⟨Y, X, R⟩ := At2.three w (.int .i64 a) (.int .i64 b) (.int .i64 c) (.int .i64 d) (.int .i64 0) (.int .i64 0) 23 23 25
  have HB := Lib.hid (below3 w (.cells #[.int .i64 a, .int .i64 b] 23) (.cells #[.int .i64 c, .int .i64 d] 23) (.cells #[.int .i64 0, .int .i64 0] 25))
  obtain ⟨Y0, Y1, -, -, -⟩ := id Y
  obtain ⟨X0, X1, -, -, -⟩ := id X
  go_enter Tryd.func6, Tryd.ntmps6
  go_wp2_with fail
  refine (V1.out _).mono ?_
  rintro e1 w1 ⟨rfl, hb⟩
  clear Y0 Y1 X0 X1
  have Y := Y.keep hb
  have X := X.keep hb
  have R := R.keep hb
  have HB := Lib.hid (bstep HB.out hb)
  clear hb
  obtain ⟨Y0, Y1, -, -, -⟩ := id Y
  obtain ⟨X0, X1, -, -, -⟩ := id X
  go_wp2_with fail
  refine (V2.out _).mono ?_
  rintro e2 w2 ⟨rfl, hb⟩
  clear Y0 Y1 X0 X1
  have Y := Y.keep hb
  have X := X.keep hb
  have R := R.keep hb
  have HB := Lib.hid (bstep HB.out hb)
  clear hb
  obtain ⟨Y0, Y1, -, -, -⟩ := id Y
  obtain ⟨X0, X1, -, -, -⟩ := id X
  clear Y0 Y1 X0 X1
  obtain ⟨R0, R1, R2, R3, -⟩ := id R
  obtain ⟨z0, z1⟩ := set2 R0 R1 (.int .i64 (0)) (.int .i64 (0))
  go_wp2_with fail
  refine bodyPost_ret (v := .tuple #[.agg #[.int .i64 (0), .int .i64 (0)], .int .i64 (1)]) (by simp [results, Tryd.results6, go_sem, z0, z1]) rfl ⟨rfl, ?_⟩
  exact below_set2 HB.out (by omega) _ _
theorem bear_zero (a b c d : Int) (w : World) (h : fok a b = true) (k : fok c d = true) (hz : zI a b = true) (kz : zI c d = true) :
    Calls Tryd.prog 6 #[.agg #[.int .i64 a, .int .i64 b], .agg #[.int .i64 c, .int .i64 d]] w fun e w' => e = .returned (.tuple #[.agg #[.int .i64 0, .int .i64 21600000], .int .i64 0]) ∧ Below w.heap.size w w' := by
  have V1 := Lib.hid (fun wx => fr.pValid_is a b true h wx)
  have V2 := Lib.hid (fun wx => fr.pValid_is c d true k wx)
  have Z1 := Lib.hid (fun wx => hasZ_is a b true hz wx)
  have Z2 := Lib.hid (fun wx => hasZ_is c d true kz wx)
  clear h k hz kz
  obtain ⟨Y, X, R⟩ := At2.three w (.int .i64 a) (.int .i64 b) (.int .i64 c) (.int .i64 d) (.int .i64 0) (.int .i64 0) 23 23 25
  have HB := Lib.hid (below3 w (.cells #[.int .i64 a, .int .i64 b] 23) (.cells #[.int .i64 c, .int .i64 d] 23) (.cells #[.int .i64 0, .int .i64 0] 25))
  obtain ⟨Y0, Y1, -, -, -⟩ := id Y
  obtain ⟨X0, X1, -, -, -⟩ := id X
  go_enter Tryd.func6, Tryd.ntmps6
  go_wp2_with fail
  refine (V1.out _).mono ?_
  rintro e1 w1 ⟨rfl, hb⟩
  clear Y0 Y1 X0 X1
  have Y := Y.keep hb
  have X := X.keep hb
  have R := R.keep hb
  have HB := Lib.hid (bstep HB.out hb)
  clear hb
  obtain ⟨Y0, Y1, -, -, -⟩ := id Y
  obtain ⟨X0, X1, -, -, -⟩ := id X
  go_wp2_with fail
  refine (V2.out _).mono ?_
  rintro e2 w2 ⟨rfl, hb⟩
  clear Y0 Y1 X0 X1
  have Y := Y.keep hb
  have X := X.keep hb
  have R := R.keep hb
  have HB := Lib.hid (bstep HB.out hb)
  clear hb
  obtain ⟨Y0, Y1, -, -, -⟩ := id Y
  obtain ⟨X0, X1, -, -, -⟩ := id X
  go_wp2_with fail
  refine (Z1.out _).mono ?_
  rintro e3 w3 ⟨rfl, hb⟩
  clear Y0 Y1 X0 X1
  have Y := Y.keep hb
  have X := X.keep hb
  have R := R.keep hb
  have HB := Lib.hid (bstep HB.out hb)
  clear hb
  obtain ⟨Y0, Y1, -, -, -⟩ := id Y
  obtain ⟨X0, X1, -, -, -⟩ := id X
  go_wp2_with fail
  refine (Z2.out _).mono ?_
  rintro e4 w4 ⟨rfl, hb⟩
  clear Y0 Y1 X0 X1
  have Y := Y.keep hb
  have X := X.keep hb
  have R := R.keep hb
  have HB := Lib.hid (bstep HB.out hb)
  clear hb
  obtain ⟨Y0, Y1, -, -, -⟩ := id Y
  obtain ⟨X0, X1, -, -, -⟩ := id X
  clear Y0 Y1 X0 X1
  obtain ⟨R0, R1, R2, R3, -⟩ := id R
  obtain ⟨z0, z1⟩ := set2 R0 R1 (.int .i64 (0)) (.int .i64 (21600000))
  go_wp2_with fail
  refine bodyPost_ret (v := .tuple #[.agg #[.int .i64 (0), .int .i64 (21600000)], .int .i64 (0)]) (by simp [results, Tryd.results6, go_sem, z0, z1]) rfl ⟨rfl, ?_⟩
  exact below_set2 HB.out (by omega) _ _
set_option maxHeartbeats 1000000 in
theorem bear_main00 (a b c d fx fy lx ly l0 h0 l1 h1 : Int) (w : World) (h : fok a b = true) (k : fok c d = true) (hz : zI a b = false)  (hc : ¬ h1 < l0) 
    (C1 : Hid (∀ wx, Calls Tryd.prog 21 #[.agg #[.int .i64 c, .int .i64 a, .int .i64 c, .int .i64 b, .int .i64 d, .int .i64 a, .int .i64 d, .int .i64 b]] wx fun e w' => e = .returned (.tuple #[.agg #[.int .i64 fx, .int .i64 fy], .agg #[.int .i64 lx, .int .i64 ly]]) ∧ Below wx.heap.size wx w'))
    (C2 : Hid (∀ wx, Below w.heap.size w wx → Calls Tryd.prog 22 #[.agg #[.int .i64 fx, .int .i64 fy]] wx fun e w' => e = .returned (.tuple #[.int .i64 l0, .int .i64 h0]) ∧ Below wx.heap.size wx w'))
    (C3 : Hid (∀ wx, Below w.heap.size w wx → Calls Tryd.prog 22 #[.agg #[.int .i64 lx, .int .i64 ly]] wx fun e w' => e = .returned (.tuple #[.int .i64 l1, .int .i64 h1]) ∧ Below wx.heap.size wx w')) :
    Calls Tryd.prog 6 #[.agg #[.int .i64 a, .int .i64 b], .agg #[.int .i64 c, .int .i64 d]] w fun e w' => e = .returned (.tuple #[.agg #[.int .i64 l0, .int .i64 h1], .int .i64 0]) ∧ Below w.heap.size w w' := by
  have V1 := Lib.hid (fun wx => fr.pValid_is a b true h wx)
  have V2 := Lib.hid (fun wx => fr.pValid_is c d true k wx)
  have Z1 := Lib.hid (fun wx => hasZ_is a b false hz wx)
  clear h k hz 
  obtain ⟨Y, X, R⟩ := At2.three w (.int .i64 a) (.int .i64 b) (.int .i64 c) (.int .i64 d) (.int .i64 0) (.int .i64 0) 23 23 25
  have HB := Lib.hid (below3 w (.cells #[.int .i64 a, .int .i64 b] 23) (.cells #[.int .i64 c, .int .i64 d] 23) (.cells #[.int .i64 0, .int .i64 0] 25))
  obtain ⟨Y0, Y1, -, -, -⟩ := id Y
  obtain ⟨X0, X1, -, -, -⟩ := id X
  go_enter Tryd.func6, Tryd.ntmps6
  go_wp2_with fail
  refine (V1.out _).mono ?_
  rintro e1 w1 ⟨rfl, hb⟩
  clear Y0 Y1 X0 X1
  have Y := Y.keep hb
  have X := X.keep hb
  have R := R.keep hb
  have HB := Lib.hid (bstep HB.out hb)
  clear hb
  obtain ⟨Y0, Y1, -, -, -⟩ := id Y
  obtain ⟨X0, X1, -, -, -⟩ := id X
  go_wp2_with fail
  refine (V2.out _).mono ?_
  rintro e2 w2 ⟨rfl, hb⟩
  clear Y0 Y1 X0 X1
  have Y := Y.keep hb
  have X := X.keep hb
  have R := R.keep hb
  have HB := Lib.hid (bstep HB.out hb)
  clear hb
  obtain ⟨Y0, Y1, -, -, -⟩ := id Y
  obtain ⟨X0, X1, -, -, -⟩ := id X
  go_wp2_with fail
  refine (Z1.out _).mono ?_
  rintro e3 w3 ⟨rfl, hb⟩
  clear Y0 Y1 X0 X1
  have Y := Y.keep hb
  have X := X.keep hb
  have R := R.keep hb
  have HB := Lib.hid (bstep HB.out hb)
  clear hb
  obtain ⟨Y0, Y1, -, -, -⟩ := id Y
  obtain ⟨X0, X1, -, -, -⟩ := id X
  go_wp2_with fail
  refine (C1.out _).mono ?_
  rintro e5 w5 ⟨rfl, hb⟩
  clear Y0 Y1 X0 X1
  have Y := Y.keep hb
  have X := X.keep hb
  have R := R.keep hb
  have HB := Lib.hid (bstep HB.out hb)
  clear hb
  obtain ⟨Y0, Y1, -, -, -⟩ := id Y
  obtain ⟨X0, X1, -, -, -⟩ := id X
  clear Y0 Y1 X0 X1 Y X
  have R := (R.alloc (.cells #[.int .i64 fx, .int .i64 fy] 50)).alloc (.cells #[.int .i64 lx, .int .i64 ly] 50)
  have P := (At2.new w5 (.int .i64 fx) (.int .i64 fy) 50).alloc (.cells #[.int .i64 lx, .int .i64 ly] 50)
  have Q := At2.new (w5.alloc (.cells #[.int .i64 fx, .int .i64 fy] 50)) (.int .i64 lx) (.int .i64 ly) 50
  have HB := Lib.hid (bstep HB.out (below2 w5 (.cells #[.int .i64 fx, .int .i64 fy] 50) (.cells #[.int .i64 lx, .int .i64 ly] 50)))
  simp at Q
  obtain ⟨P0, P1, -, -, -⟩ := id P
  obtain ⟨Q0, Q1, -, -, -⟩ := id Q
  go_wp2_with fail
  refine (C2.out _ HB.out).mono ?_
  rintro e6 w6 ⟨rfl, hb⟩
  clear P0 P1 Q0 Q1
  have R := R.keep hb
  have Q := Q.keep hb
  have HB := Lib.hid (bstep HB.out hb)
  clear hb
  obtain ⟨Q0, Q1, -, -, -⟩ := id Q
  go_wp2_with fail
  refine (C3.out _ HB.out).mono ?_
  rintro e7 w7 ⟨rfl, hb⟩
  have R := R.keep hb
  have HB := Lib.hid (bstep HB.out hb)
  clear hb Q0 Q1
  obtain ⟨R0, R1, R2, R3, -⟩ := id R
  obtain ⟨z0, z1⟩ := set2 R0 R1 (.int .i64 (l0)) (.int .i64 (h1))
  go_wp2_with fail
  refine bodyPost_ret (v := .tuple #[.agg #[.int .i64 (l0), .int .i64 (h1)], .int .i64 (0)]) (by simp [results, Tryd.results6, go_sem, z0, z1]) rfl ⟨rfl, ?_⟩
  exact below_set2 HB.out (by omega) _ _
set_option maxHeartbeats 1000000 in
theorem bear_main01 (a b c d fx fy lx ly l0 h0 l1 h1 t : Int) (w : World) (h : fok a b = true) (k : fok c d = true) (hz : zI a b = false)  (hc : h1 < l0) (ht : h1 + 21600000 = t) (n1 : 0 ≤ h1) (n2 : h1 ≤ 21600000)
    (C1 : Hid (∀ wx, Calls Tryd.prog 21 #[.agg #[.int .i64 c, .int .i64 a, .int .i64 c, .int .i64 b, .int .i64 d, .int .i64 a, .int .i64 d, .int .i64 b]] wx fun e w' => e = .returned (.tuple #[.agg #[.int .i64 fx, .int .i64 fy], .agg #[.int .i64 lx, .int .i64 ly]]) ∧ Below wx.heap.size wx w'))
    (C2 : Hid (∀ wx, Below w.heap.size w wx → Calls Tryd.prog 22 #[.agg #[.int .i64 fx, .int .i64 fy]] wx fun e w' => e = .returned (.tuple #[.int .i64 l0, .int .i64 h0]) ∧ Below wx.heap.size wx w'))
    (C3 : Hid (∀ wx, Below w.heap.size w wx → Calls Tryd.prog 22 #[.agg #[.int .i64 lx, .int .i64 ly]] wx fun e w' => e = .returned (.tuple #[.int .i64 l1, .int .i64 h1]) ∧ Below wx.heap.size wx w')) :
    Calls Tryd.prog 6 #[.agg #[.int .i64 a, .int .i64 b], .agg #[.int .i64 c, .int .i64 d]] w fun e w' => e = .returned (.tuple #[.agg #[.int .i64 l0, .int .i64 t], .int .i64 0]) ∧ Below w.heap.size w w' := by
  have V1 := Lib.hid (fun wx => fr.pValid_is a b true h wx)
  have V2 := Lib.hid (fun wx => fr.pValid_is c d true k wx)
  have Z1 := Lib.hid (fun wx => hasZ_is a b false hz wx)
  clear h k hz 
  obtain ⟨Y, X, R⟩ := At2.three w (.int .i64 a) (.int .i64 b) (.int .i64 c) (.int .i64 d) (.int .i64 0) (.int .i64 0) 23 23 25
  have HB := Lib.hid (below3 w (.cells #[.int .i64 a, .int .i64 b] 23) (.cells #[.int .i64 c, .int .i64 d] 23) (.cells #[.int .i64 0, .int .i64 0] 25))
  obtain ⟨Y0, Y1, -, -, -⟩ := id Y
  obtain ⟨X0, X1, -, -, -⟩ := id X
  go_enter Tryd.func6, Tryd.ntmps6
  go_wp2_with fail
  refine (V1.out _).mono ?_
  rintro e1 w1 ⟨rfl, hb⟩
  clear Y0 Y1 X0 X1
  have Y := Y.keep hb
  have X := X.keep hb
  have R := R.keep hb
  have HB := Lib.hid (bstep HB.out hb)
  clear hb
  obtain ⟨Y0, Y1, -, -, -⟩ := id Y
  obtain ⟨X0, X1, -, -, -⟩ := id X
  go_wp2_with fail
  refine (V2.out _).mono ?_
  rintro e2 w2 ⟨rfl, hb⟩
  clear Y0 Y1 X0 X1
  have Y := Y.keep hb
  have X := X.keep hb
  have R := R.keep hb
  have HB := Lib.hid (bstep HB.out hb)
  clear hb
  obtain ⟨Y0, Y1, -, -, -⟩ := id Y
  obtain ⟨X0, X1, -, -, -⟩ := id X
  go_wp2_with fail
  refine (Z1.out _).mono ?_
  rintro e3 w3 ⟨rfl, hb⟩
  clear Y0 Y1 X0 X1
  have Y := Y.keep hb
  have X := X.keep hb
  have R := R.keep hb
  have HB := Lib.hid (bstep HB.out hb)
  clear hb
  obtain ⟨Y0, Y1, -, -, -⟩ := id Y
  obtain ⟨X0, X1, -, -, -⟩ := id X
  go_wp2_with fail
  refine (C1.out _).mono ?_
  rintro e5 w5 ⟨rfl, hb⟩
  clear Y0 Y1 X0 X1
  have Y := Y.keep hb
  have X := X.keep hb
  have R := R.keep hb
  have HB := Lib.hid (bstep HB.out hb)
  clear hb
  obtain ⟨Y0, Y1, -, -, -⟩ := id Y
  obtain ⟨X0, X1, -, -, -⟩ := id X
  clear Y0 Y1 X0 X1 Y X
  have R := (R.alloc (.cells #[.int .i64 fx, .int .i64 fy] 50)).alloc (.cells #[.int .i64 lx, .int .i64 ly] 50)
  have P := (At2.new w5 (.int .i64 fx) (.int .i64 fy) 50).alloc (.cells #[.int .i64 lx, .int .i64 ly] 50)
  have Q := At2.new (w5.alloc (.cells #[.int .i64 fx, .int .i64 fy] 50)) (.int .i64 lx) (.int .i64 ly) 50
  have HB := Lib.hid (bstep HB.out (below2 w5 (.cells #[.int .i64 fx, .int .i64 fy] 50) (.cells #[.int .i64 lx, .int .i64 ly] 50)))
  simp at Q
  obtain ⟨P0, P1, -, -, -⟩ := id P
  obtain ⟨Q0, Q1, -, -, -⟩ := id Q
  go_wp2_with fail
  refine (C2.out _ HB.out).mono ?_
  rintro e6 w6 ⟨rfl, hb⟩
  clear P0 P1 Q0 Q1
  have R := R.keep hb
  have Q := Q.keep hb
  have HB := Lib.hid (bstep HB.out hb)
  clear hb
  obtain ⟨Q0, Q1, -, -, -⟩ := id Q
  go_wp2_with fail
  refine (C3.out _ HB.out).mono ?_
  rintro e7 w7 ⟨rfl, hb⟩
  have R := R.keep hb
  have HB := Lib.hid (bstep HB.out hb)
  clear hb Q0 Q1
  obtain ⟨R0, R1, R2, R3, -⟩ := id R
  obtain ⟨z0, z1⟩ := set2 R0 R1 (.int .i64 (l0)) (.int .i64 (t))
  go_wp2_with fail
  refine bodyPost_ret (v := .tuple #[.agg #[.int .i64 (l0), .int .i64 (t)], .int .i64 (0)]) (by simp [results, Tryd.results6, go_sem, z0, z1]) rfl ⟨rfl, ?_⟩
  exact below_set2 HB.out (by omega) _ _
set_option maxHeartbeats 1000000 in
theorem bear_main10 (a b c d fx fy lx ly l0 h0 l1 h1 : Int) (w : World) (h : fok a b = true) (k : fok c d = true) (hz : zI a b = true) (kz : zI c d = false) (hc : ¬ h1 < l0) 
    (C1 : Hid (∀ wx, Calls Tryd.prog 21 #[.agg #[.int .i64 c, .int .i64 a, .int .i64 c, .int .i64 b, .int .i64 d, .int .i64 a, .int .i64 d, .int .i64 b]] wx fun e w' => e = .returned (.tuple #[.agg #[.int .i64 fx, .int .i64 fy], .agg #[.int .i64 lx, .int .i64 ly]]) ∧ Below wx.heap.size wx w'))
    (C2 : Hid (∀ wx, Below w.heap.size w wx → Calls Tryd.prog 22 #[.agg #[.int .i64 fx, .int .i64 fy]] wx fun e w' => e = .returned (.tuple #[.int .i64 l0, .int .i64 h0]) ∧ Below wx.heap.size wx w'))
    (C3 : Hid (∀ wx, Below w.heap.size w wx → Calls Tryd.prog 22 #[.agg #[.int .i64 lx, .int .i64 ly]] wx fun e w' => e = .returned (.tuple #[.int .i64 l1, .int .i64 h1]) ∧ Below wx.heap.size wx w')) :
    Calls Tryd.prog 6 #[.agg #[.int .i64 a, .int .i64 b], .agg #[.int .i64 c, .int .i64 d]] w fun e w' => e = .returned (.tuple #[.agg #[.int .i64 l0, .int .i64 h1], .int .i64 0]) ∧ Below w.heap.size w w' := by
  have V1 := Lib.hid (fun wx => fr.pValid_is a b true h wx)
  have V2 := Lib.hid (fun wx => fr.pValid_is c d true k wx)
  have Z1 := Lib.hid (fun wx => hasZ_is a b true hz wx)
  have Z2 := Lib.hid (fun wx => hasZ_is c d false kz wx)
  clear h k hz kz
  obtain ⟨Y, X, R⟩ := At2.three w (.int .i64 a) (.int .i64 b) (.int .i64 c) (.int .i64 d) (.int .i64 0) (.int .i64 0) 23 23 25
  have HB := Lib.hid (below3 w (.cells #[.int .i64 a, .int .i64 b] 23) (.cells #[.int .i64 c, .int .i64 d] 23) (.cells #[.int .i64 0, .int .i64 0] 25))
  obtain ⟨Y0, Y1, -, -, -⟩ := id Y
  obtain ⟨X0, X1, -, -, -⟩ := id X
  go_enter Tryd.func6, Tryd.ntmps6
  go_wp2_with fail
  refine (V1.out _).mono ?_
  rintro e1 w1 ⟨rfl, hb⟩
  clear Y0 Y1 X0 X1
  have Y := Y.keep hb
  have X := X.keep hb
  have R := R.keep hb
  have HB := Lib.hid (bstep HB.out hb)
  clear hb
  obtain ⟨Y0, Y1, -, -, -⟩ := id Y
  obtain ⟨X0, X1, -, -, -⟩ := id X
  go_wp2_with fail
  refine (V2.out _).mono ?_
  rintro e2 w2 ⟨rfl, hb⟩
  clear Y0 Y1 X0 X1
  have Y := Y.keep hb
  have X := X.keep hb
  have R := R.keep hb
  have HB := Lib.hid (bstep HB.out hb)
  clear hb
  obtain ⟨Y0, Y1, -, -, -⟩ := id Y
  obtain ⟨X0, X1, -, -, -⟩ := id X
  go_wp2_with fail
  refine (Z1.out _).mono ?_
  rintro e3 w3 ⟨rfl, hb⟩
  clear Y0 Y1 X0 X1
  have Y := Y.keep hb
  have X := X.keep hb
  have R := R.keep hb
  have HB := Lib.hid (bstep HB.out hb)
  clear hb
  obtain ⟨Y0, Y1, -, -, -⟩ := id Y
  obtain ⟨X0, X1, -, -, -⟩ := id X
  go_wp2_with fail
  refine (Z2.out _).mono ?_
  rintro e4 w4 ⟨rfl, hb⟩
  clear Y0 Y1 X0 X1
  have Y := Y.keep hb
  have X := X.keep hb
  have R := R.keep hb
  have HB := Lib.hid (bstep HB.out hb)
  clear hb
  obtain ⟨Y0, Y1, -, -, -⟩ := id Y
  obtain ⟨X0, X1, -, -, -⟩ := id X
  go_wp2_with fail
  refine (C1.out _).mono ?_
  rintro e5 w5 ⟨rfl, hb⟩
  clear Y0 Y1 X0 X1
  have Y := Y.keep hb
  have X := X.keep hb
  have R := R.keep hb
  have HB := Lib.hid (bstep HB.out hb)
  clear hb
  obtain ⟨Y0, Y1, -, -, -⟩ := id Y
  obtain ⟨X0, X1, -, -, -⟩ := id X
  clear Y0 Y1 X0 X1 Y X
  have R := (R.alloc (.cells #[.int .i64 fx, .int .i64 fy] 50)).alloc (.cells #[.int .i64 lx, .int .i64 ly] 50)
  have P := (At2.new w5 (.int .i64 fx) (.int .i64 fy) 50).alloc (.cells #[.int .i64 lx, .int .i64 ly] 50)
  have Q := At2.new (w5.alloc (.cells #[.int .i64 fx, .int .i64 fy] 50)) (.int .i64 lx) (.int .i64 ly) 50
  have HB := Lib.hid (bstep HB.out (below2 w5 (.cells #[.int .i64 fx, .int .i64 fy] 50) (.cells #[.int .i64 lx, .int .i64 ly] 50)))
  simp at Q
  obtain ⟨P0, P1, -, -, -⟩ := id P
  obtain ⟨Q0, Q1, -, -, -⟩ := id Q
  go_wp2_with fail
  refine (C2.out _ HB.out).mono ?_
  rintro e6 w6 ⟨rfl, hb⟩
  clear P0 P1 Q0 Q1
  have R := R.keep hb
  have Q := Q.keep hb
  have HB := Lib.hid (bstep HB.out hb)
  clear hb
  obtain ⟨Q0, Q1, -, -, -⟩ := id Q
  go_wp2_with fail
  refine (C3.out _ HB.out).mono ?_
  rintro e7 w7 ⟨rfl, hb⟩
  have R := R.keep hb
  have HB := Lib.hid (bstep HB.out hb)
  clear hb Q0 Q1
  obtain ⟨R0, R1, R2, R3, -⟩ := id R
  obtain ⟨z0, z1⟩ := set2 R0 R1 (.int .i64 (l0)) (.int .i64 (h1))
  go_wp2_with fail
  refine bodyPost_ret (v := .tuple #[.agg #[.int .i64 (l0), .int .i64 (h1)], .int .i64 (0)]) (by simp [results, Tryd.results6, go_sem, z0, z1]) rfl ⟨rfl, ?_⟩
  exact below_set2 HB.out (by omega) _ _
set_option maxHeartbeats 1000000 in
theorem bear_main11 (a b c d fx fy lx ly l0 h0 l1 h1 t : Int) (w : World) (h : fok a b = true) (k : fok c d = true) (hz : zI a b = true) (kz : zI c d = false) (hc : h1 < l0) (ht : h1 + 21600000 = t) (n1 : 0 ≤ h1) (n2 : h1 ≤ 21600000)
    (C1 : Hid (∀ wx, Calls Tryd.prog 21 #[.agg #[.int .i64 c, .int .i64 a, .int .i64 c, .int .i64 b, .int .i64 d, .int .i64 a, .int .i64 d, .int .i64 b]] wx fun e w' => e = .returned (.tuple #[.agg #[.int .i64 fx, .int .i64 fy], .agg #[.int .i64 lx, .int .i64 ly]]) ∧ Below wx.heap.size wx w'))
    (C2 : Hid (∀ wx, Below w.heap.size w wx → Calls Tryd.prog 22 #[.agg #[.int .i64 fx, .int .i64 fy]] wx fun e w' => e = .returned (.tuple #[.int .i64 l0, .int .i64 h0]) ∧ Below wx.heap.size wx w'))
    (C3 : Hid (∀ wx, Below w.heap.size w wx → Calls Tryd.prog 22 #[.agg #[.int .i64 lx, .int .i64 ly]] wx fun e w' => e = .returned (.tuple #[.int .i64 l1, .int .i64 h1]) ∧ Below wx.heap.size wx w')) :
    Calls Tryd.prog 6 #[.agg #[.int .i64 a, .int .i64 b], .agg #[.int .i64 c, .int .i64 d]] w fun e w' => e = .returned (.tuple #[.agg #[.int .i64 l0, .int .i64 t], .int .i64 0]) ∧ Below w.heap.size w w' := by
  have V1 := Lib.hid (fun wx => fr.pValid_is a b true h wx)
  have V2 := Lib.hid (fun wx => fr.pValid_is c d true k wx)
  have Z1 := Lib.hid (fun wx => hasZ_is a b true hz wx)
  have Z2 := Lib.hid (fun wx => hasZ_is c d false kz wx)
  clear h k hz kz
  obtain ⟨Y, X, R⟩ := At2.three w (.int .i64 a) (.int .i64 b) (.int .i64 c) (.int .i64 d) (.int .i64 0) (.int .i64 0) 23 23 25
  have HB := Lib.hid (below3 w (.cells #[.int .i64 a, .int .i64 b] 23) (.cells #[.int .i64 c, .int .i64 d] 23) (.cells #[.int .i64 0, .int .i64 0] 25))
  obtain ⟨Y0, Y1, -, -, -⟩ := id Y
  obtain ⟨X0, X1, -, -, -⟩ := id X
  go_enter Tryd.func6, Tryd.ntmps6
  go_wp2_with fail
  refine (V1.out _).mono ?_
  rintro e1 w1 ⟨rfl, hb⟩
  clear Y0 Y1 X0 X1
  have Y := Y.keep hb
  have X := X.keep hb
  have R := R.keep hb
  have HB := Lib.hid (bstep HB.out hb)
  clear hb
  obtain ⟨Y0, Y1, -, -, -⟩ := id Y
  obtain ⟨X0, X1, -, -, -⟩ := id X
  go_wp2_with fail
  refine (V2.out _).mono ?_
  rintro e2 w2 ⟨rfl, hb⟩
  clear Y0 Y1 X0 X1
  have Y := Y.keep hb
  have X := X.keep hb
  have R := R.keep hb
  have HB := Lib.hid (bstep HB.out hb)
  clear hb
  obtain ⟨Y0, Y1, -, -, -⟩ := id Y
  obtain ⟨X0, X1, -, -, -⟩ := id X
  go_wp2_with fail
  refine (Z1.out _).mono ?_
  rintro e3 w3 ⟨rfl, hb⟩
  clear Y0 Y1 X0 X1
  have Y := Y.keep hb
  have X := X.keep hb
  have R := R.keep hb
  have HB := Lib.hid (bstep HB.out hb)
  clear hb
  obtain ⟨Y0, Y1, -, -, -⟩ := id Y
  obtain ⟨X0, X1, -, -, -⟩ := id X
  go_wp2_with fail
  refine (Z2.out _).mono ?_
  rintro e4 w4 ⟨rfl, hb⟩
  clear Y0 Y1 X0 X1
  have Y := Y.keep hb
  have X := X.keep hb
  have R := R.keep hb
  have HB := Lib.hid (bstep HB.out hb)
  clear hb
  obtain ⟨Y0, Y1, -, -, -⟩ := id Y
  obtain ⟨X0, X1, -, -, -⟩ := id X
  go_wp2_with fail
  refine (C1.out _).mono ?_
  rintro e5 w5 ⟨rfl, hb⟩
  clear Y0 Y1 X0 X1
  have Y := Y.keep hb
  have X := X.keep hb
  have R := R.keep hb
  have HB := Lib.hid (bstep HB.out hb)
  clear hb
  obtain ⟨Y0, Y1, -, -, -⟩ := id Y
  obtain ⟨X0, X1, -, -, -⟩ := id X
  clear Y0 Y1 X0 X1 Y X
  have R := (R.alloc (.cells #[.int .i64 fx, .int .i64 fy] 50)).alloc (.cells #[.int .i64 lx, .int .i64 ly] 50)
  have P := (At2.new w5 (.int .i64 fx) (.int .i64 fy) 50).alloc (.cells #[.int .i64 lx, .int .i64 ly] 50)
  have Q := At2.new (w5.alloc (.cells #[.int .i64 fx, .int .i64 fy] 50)) (.int .i64 lx) (.int .i64 ly) 50
  have HB := Lib.hid (bstep HB.out (below2 w5 (.cells #[.int .i64 fx, .int .i64 fy] 50) (.cells #[.int .i64 lx, .int .i64 ly] 50)))
  simp at Q
  obtain ⟨P0, P1, -, -, -⟩ := id P
  obtain ⟨Q0, Q1, -, -, -⟩ := id Q
  go_wp2_with fail
  refine (C2.out _ HB.out).mono ?_
  rintro e6 w6 ⟨rfl, hb⟩
  clear P0 P1 Q0 Q1
  have R := R.keep hb
  have Q := Q.keep hb
  have HB := Lib.hid (bstep HB.out hb)
  clear hb
  obtain ⟨Q0, Q1, -, -, -⟩ := id Q
  go_wp2_with fail
  refine (C3.out _ HB.out).mono ?_
  rintro e7 w7 ⟨rfl, hb⟩
  have R := R.keep hb
  have HB := Lib.hid (bstep HB.out hb)
  clear hb Q0 Q1
  obtain ⟨R0, R1, R2, R3, -⟩ := id R
  obtain ⟨z0, z1⟩ := set2 R0 R1 (.int .i64 (l0)) (.int .i64 (t))
  go_wp2_with fail
  refine bodyPost_ret (v := .tuple #[.agg #[.int .i64 (l0), .int .i64 (t)], .int .i64 (0)]) (by simp [results, Tryd.results6, go_sem, z0, z1]) rfl ⟨rfl, ?_⟩
  exact below_set2 HB.out (by omega) _ _
/-- the corners of a box -/
def cnr (a b c d : Int) : Nat → Int × Int
  | 0 => (c, a)
  | 1 => (c, b)
  | 2 => (d, a)
  | _ => (d, b)
theorem ex_mem (p : Nat → Int × Int) (j : Nat) : (∃ i, i ≤ j ∧ exF p j = p i) ∧ ∃ i, i ≤ j ∧ exL p j = p i := by
  induction j with
  | zero => exact ⟨⟨0, Nat.le_refl _, rfl⟩, ⟨0, Nat.le_refl _, rfl⟩⟩
  | succ j ih =>
    obtain ⟨⟨i, i1, i2⟩, k, k1, k2⟩ := ih
    constructor
    · rw [show exF p (j + 1) = if bf (p (j + 1)) (exF p j) = true then p (j + 1) else exF p j from rfl]
      split
      · exact ⟨j + 1, Nat.le_refl _, rfl⟩
      · exact ⟨i, by omega, i2⟩
    · rw [show exL p (j + 1) = if bf (exL p j) (p (j + 1)) = true then p (j + 1) else exL p j from rfl]
      split
      · exact ⟨j + 1, Nat.le_refl _, rfl⟩
      · exact ⟨k, by omega, k2⟩
theorem cnr_in {a b c d : Int} (h : fok a b = true) (k : fok c d = true) (i : Nat) : In31 (cnr a b c d i) := by
  obtain ⟨h1, h2, h3⟩ := (fok_iff _ _).1 h
  obtain ⟨k1, k2, k3⟩ := (fok_iff _ _).1 k
  match i with
  | 0 => exact ⟨k1, by show c ≤ _; omega, h1, by show a ≤ _; omega⟩
  | 1 => exact ⟨k1, by show c ≤ _; omega, by show _ ≤ b; omega, h2⟩
  | 2 => exact ⟨by show _ ≤ d; omega, k2, h1, by show a ≤ _; omega⟩
  | i + 3 => exact ⟨by show _ ≤ d; omega, k2, by show _ ≤ b; omega, h2⟩
theorem cnr_off {a b c d : Int} (h : fok a b = true) (k : fok c d = true) (z : (zI a b && zI c d) = false) (i : Nat) : ¬ ((cnr a b c d i).1 = 0 ∧ (cnr a b c d i).2 = 0) := by
  obtain ⟨h1, h2, h3⟩ := (fok_iff _ _).1 h
  obtain ⟨k1, k2, k3⟩ := (fok_iff _ _).1 k
  have key : ¬ ((a ≤ 0 ∧ 0 ≤ b) ∧ c ≤ 0 ∧ 0 ≤ d) := by
    intro q
    unfold zI at z
    rw [decide_eq_true q.1, decide_eq_true q.2] at z
    exact absurd z (by decide)
  match i with
  | 0 => show ¬ (c = 0 ∧ a = 0); omega
  | 1 => show ¬ (c = 0 ∧ b = 0); omega
  | 2 => show ¬ (d = 0 ∧ a = 0); omega
  | i + 3 => show ¬ (d = 0 ∧ b = 0); omega
/-- the first and the last corner -/
def fC (a b c d : Int) : Int × Int := exF (cnr a b c d) 3
def lC (a b c d : Int) : Int × Int := exL (cnr a b c d) 3
theorem fl7_in {a b c d : Int} (h : fok a b = true) (k : fok c d = true) : In31 (fC a b c d) ∧ In31 (lC a b c d) := ex_in (cnr_in h k) 3
theorem fl7_off {a b c d : Int} (h : fok a b = true) (k : fok c d = true) (z : (zI a b && zI c d) = false) : ¬ ((fC a b c d).1 = 0 ∧ (fC a b c d).2 = 0) ∧ ¬ ((lC a b c d).1 = 0 ∧ (lC a b c d).2 = 0) := by
  obtain ⟨⟨i, -, i2⟩, j, -, j2⟩ := ex_mem (cnr a b c d) 3
  unfold fC lC
  rw [i2, j2]
  exact ⟨cnr_off h k z i, cnr_off h k z j⟩
/-- the answers of Bearing -/
def beE (a b c d : Int) : Int := if (fok a b && fok c d) = true then 0 else 1
noncomputable def beL (a b c d : Int) : Int := if (fok a b && fok c d) = true then (if (zI a b && zI c d) = true then 0 else anD (fC a b c d)) else 0
noncomputable def beH (a b c d : Int) : Int := if (fok a b && fok c d) = true then (if (zI a b && zI c d) = true then 21600000 else if anU (lC a b c d) < anD (fC a b c d) then anU (lC a b c d) + 21600000 else anU (lC a b c d)) else 0
theorem pBearing (a b c d : Int) (w : World) (H : Held w) :
    Calls Tryd.prog 6 #[.agg #[.int .i64 a, .int .i64 b], .agg #[.int .i64 c, .int .i64 d]] w fun e w' => e = .returned (tAr (beL a b c d) (beH a b c d) (beE a b c d)) ∧ Below w.heap.size w w' := by
  unfold tAr beL beH beE
  rcases Bool.eq_false_or_eq_true (fok a b) with h | h
  · rcases Bool.eq_false_or_eq_true (fok c d) with k | k
    · have hk : (fok a b && fok c d) = true := by rw [h, k]; rfl
      rw [if_pos hk, if_pos hk, if_pos hk]
      rcases Bool.eq_false_or_eq_true (zI a b && zI c d) with z | z
      · rw [if_pos z, if_pos z]
        rw [Bool.and_eq_true] at z
        exact bear_zero a b c d w h k z.1 z.2
      · have zn : ¬ (zI a b && zI c d) = true := by rw [z]; exact Bool.false_ne_true
        rw [if_neg zn, if_neg zn]
        obtain ⟨i1, i2⟩ := fl7_in h k
        obtain ⟨o1, o2⟩ := fl7_off h k z
        have C1 := fun wx => ext_any (cnr a b c d) (cnr_in h k) wx
        have C2 := fun wx (hb : Below w.heap.size w wx) => angle_any (fC a b c d) o1 i1 wx (H.keep hb)
        have C3 := fun wx (hb : Below w.heap.size w wx) => angle_any (lC a b c d) o2 i2 wx (H.keep hb)
        obtain ⟨u1, u2, u3, u4, u5⟩ := an_in o2
        by_cases hc : anU (lC a b c d) < anD (fC a b c d)
        · rw [if_pos hc]
          rcases Bool.eq_false_or_eq_true (zI a b) with hz | hz
          · have kz : zI c d = false := by rw [hz, Bool.true_and] at z; exact z
            exact bear_main11 a b c d _ _ _ _ _ _ _ _ _ w h k hz kz hc rfl (by omega) u4 (Lib.hid C1) (Lib.hid C2) (Lib.hid C3)
          · exact bear_main01 a b c d _ _ _ _ _ _ _ _ _ w h k hz hc rfl (by omega) u4 (Lib.hid C1) (Lib.hid C2) (Lib.hid C3)
        · rw [if_neg hc]
          rcases Bool.eq_false_or_eq_true (zI a b) with hz | hz
          · have kz : zI c d = false := by rw [hz, Bool.true_and] at z; exact z
            exact bear_main10 a b c d _ _ _ _ _ _ _ _ w h k hz kz hc (Lib.hid C1) (Lib.hid C2) (Lib.hid C3)
          · exact bear_main00 a b c d _ _ _ _ _ _ _ _ w h k hz hc (Lib.hid C1) (Lib.hid C2) (Lib.hid C3)
    · have hk : ¬ (fok a b && fok c d) = true := by rw [k, Bool.and_false]; exact Bool.false_ne_true
      rw [if_neg hk, if_neg hk, if_neg hk]
      exact bear_bad2 a b c d w h k
  · have hk : ¬ (fok a b && fok c d) = true := by rw [h, Bool.false_and]; exact Bool.false_ne_true
    rw [if_neg hk, if_neg hk, if_neg hk]
    exact bear_bad1 a b c d w h
end Go.Proofs.YtndcjldnnfhedaaDoor

/- Arctrig: the program answers as the laws ask it. -/
namespace Go.Proofs.YtndcjldnnfhedaaDoor
open Go.RowKit
set_option linter.unusedVariables false
set_option maxRecDepth 100000

theorem fine1 : L6.irF 1593903 * 2147483648 < L6.irF (5400000 - 1593903) * 1073741824 ∧ L6.irF (5400000 - 1593904) * 1073741824 < L6.irF 1593904 * 2147483648 ∧ L6.irF (5400000 - 1) * 1 < L6.irF 1 * 1073741824 := by decide +kernel
theorem side1 : L6.sd 1593903 2147483648 1073741824 = -1 ∧ L6.sd 1593904 2147483648 1073741824 = 1 ∧ L6.sd 1 1073741824 1 = 1 := by
  obtain ⟨f1, f2, f3⟩ := fine1
  refine ⟨?_, ?_, ?_⟩
  · rcases L6.side_prog 1593903 2147483648 1073741824 (by decide) (by decide) (by decide) (by decide) (by decide) with ⟨a, b⟩ | ⟨a, b⟩
    · exact absurd b (Nat.lt_asymm f1)
    · exact a
  · rcases L6.side_prog 1593904 2147483648 1073741824 (by decide) (by decide) (by decide) (by decide) (by decide) with ⟨a, b⟩ | ⟨a, b⟩
    · exact a
    · exact absurd b (Nat.lt_asymm f2)
  · rcases L6.side_prog 1 1073741824 1 (by decide) (by decide) (by decide) (by decide) (by decide) with ⟨a, b⟩ | ⟨a, b⟩
    · exact a
    · exact absurd b (Nat.lt_asymm f3)
theorem g_one : L6.gN 2147483648 1073741824 = 1593903 ∧ L6.gU 2147483648 1073741824 = 1593904 ∧ L6.gN 1073741824 1 = 0 ∧ L6.gU 1073741824 1 = 1 := by
  obtain ⟨s1, s2, s3⟩ := side1
  have a : L6.gN 2147483648 1073741824 = 1593903 := L6.gN_eq (by decide) (by decide) (by decide) (by decide) ⟨by decide, by decide, by rw [s1]; decide, by rw [show (1593903 : Int) + 1 = 1593904 by decide, s2]; decide⟩
  have z : L6.sd 0 1073741824 1 = -1 := by rw [L6.sd_zero]; decide
  have b : L6.gN 1073741824 1 = 0 := L6.gN_eq (by decide) (by decide) (by decide) (by decide) ⟨by decide, by decide, by rw [z]; decide, by rw [show (0 : Int) + 1 = 1 by decide, s3]; decide⟩
  refine ⟨a, ?_, b, ?_⟩
  · unfold L6.gU; rw [a, s1]; decide
  · unfold L6.gU; rw [b, z]; decide
theorem tell_b1 : tAr (beL 1073741824 1073741824 2147483648 2147483648) (beH 1073741824 1073741824 2147483648 2147483648) (beE 1073741824 1073741824 2147483648 2147483648) = tAr 1593903 1593904 0 := by
  obtain ⟨a, b, -, -⟩ := g_one
  have v : (fok 1073741824 1073741824 && fok 2147483648 2147483648) = true := by decide
  have z : ¬ (zI 1073741824 1073741824 && zI 2147483648 2147483648) = true := by decide
  have f : fC 1073741824 1073741824 2147483648 2147483648 = (2147483648, 1073741824) := by decide
  have l : lC 1073741824 1073741824 2147483648 2147483648 = (2147483648, 1073741824) := by decide
  have d : anD (2147483648, 1073741824) = 1593903 := by
    unfold anD
    rw [show rk (2147483648, 1073741824) = 0 by decide, show rot (2147483648, 1073741824) 0 = (2147483648, 1073741824) by decide, a]
    decide
  have u : anU (2147483648, 1073741824) = 1593904 := by
    unfold anU
    rw [show rk (2147483648, 1073741824) = 0 by decide, show rot (2147483648, 1073741824) 0 = (2147483648, 1073741824) by decide, b]
    decide
  unfold beL beH beE
  rw [if_pos v, if_pos v, if_pos v, if_neg z, if_neg z, f, l, d, u, if_neg (by decide)]
theorem tell_b2 : tAr (beL (-1) 1 1073741824 1073741824) (beH (-1) 1 1073741824 1073741824) (beE (-1) 1 1073741824 1073741824) = tAr 21599999 21600001 0 := by
  obtain ⟨-, -, a, b⟩ := g_one
  have v : (fok (-1) 1 && fok 1073741824 1073741824) = true := by decide
  have z : ¬ (zI (-1) 1 && zI 1073741824 1073741824) = true := by decide
  have f : fC (-1) 1 1073741824 1073741824 = (1073741824, -1) := by decide
  have l : lC (-1) 1 1073741824 1073741824 = (1073741824, 1) := by decide
  obtain ⟨m1, m2, m3⟩ := L6.g_mirror (X := 1) (Y := 1073741824) (by decide) (by decide) (by decide)
  have d : anD (1073741824, -1) = 21599999 := by
    unfold anD
    rw [show rk (1073741824, -1) = 3 by decide, show rot (1073741824, -1) 3 = (1, 1073741824) by decide]
    show 5400000 * ((3 : Nat) : Int) + L6.gN 1 1073741824 = _
    rw [m1, a]; decide
  have u : anU (1073741824, 1) = 1 := by
    unfold anU
    rw [show rk (1073741824, 1) = 0 by decide, show rot (1073741824, 1) 0 = (1073741824, 1) by decide, b]
    decide
  unfold beL beH beE
  rw [if_pos v, if_pos v, if_pos v, if_neg z, if_neg z, f, l, d, u, if_pos (by decide)]
  rfl
/-- all that is asked of the program -/
theorem arProg (w : World) (H : Held w) : ArProg w where
  asin := fun a b wx hb _ _ => pAsin7 a b w wx (trProg w H) hb
  acos := fun a b wx hb _ _ => pAcos7 a b w wx (trProg w H) hb
  ahav := fun a b wx hb _ _ => pAhav7 a b w wx (trProg w H) hb
  bear1 := fun wx hb => told7 tell_b1 (pBearing 1073741824 1073741824 2147483648 2147483648 wx (H.keep hb))
  bear2 := fun wx hb => told7 tell_b2 (pBearing (-1) 1 1073741824 1073741824 wx (H.keep hb))
end Go.Proofs.YtndcjldnnfhedaaDoor
