/- ArctrigTurns: turned, mirrored, and stretched boxes. -/
import Derived.Test.YtebhflmmdfbjkaaDoorArO
import Derived.Test.YtebhflmmdfbjkaaDoorArAg
import Derived.Test.YtebhflmmdfbjkaaDoorArd
namespace Go.Proofs.YtebhflmmdfbjkaaDoor
open Go.RowKit
set_option linter.unusedVariables false
set_option maxRecDepth 100000

/-- a block of one cell -/
structure At1 (w : World) (b : Nat) (x : Value) : Prop where
  c0 : w.cell? ⟨b, 0, none⟩ = some x
theorem At1.lt {w : World} {b : Nat} {x : Value} (h : At1 w b x) : b < w.heap.size := World.block_lt_of_cell? _ _ h.c0
theorem At1.keep {w w1 : World} {b : Nat} {x : Value} (h : At1 w b x) (hb : Below w.heap.size w w1) : At1 w1 b x := ⟨(hb.cell (p := ⟨b, 0, none⟩) h.lt).trans h.c0⟩
theorem At1.alloc {w : World} {b : Nat} {x : Value} (h : At1 w b x) (o : Obj) : At1 (w.alloc o) b x := h.keep ((Below.refl _ _).alloc (Nat.le_refl _) o)
theorem At1.new (w : World) (x : Value) (T : Nat) : At1 (w.alloc (.cells #[x] T)) w.heap.size x := ⟨by simp⟩
theorem At1.far {w : World} {b c : Nat} {x : Value} (h : At1 w b x) (hne : b ≠ c) (u v : Value) : At1 ((w.setCell ⟨c, 0, none⟩ u).setCell ⟨c, 1, none⟩ v) b x :=
  ⟨(World.cell?_setCell_other _ _ _ _ (by simp; try omega)).trans ((World.cell?_setCell_other _ _ _ _ (by simp; try omega)).trans h.c0)⟩
theorem At1.drq {w : World} {b : Nat} {x : Value} (h : At1 w b x) : At1 w.drew b x := h.keep (Below.refl _ _).drew
theorem At2.drq {w : World} {b : Nat} {x y : Value} (h : At2 w b x y) : At2 w.drew b x y := h.keep (Below.refl _ _).drew
theorem neg7_any (a b p q : Int) (hp : -b = p) (hq : -a = q) (a1 : -2147483648 ≤ a) (a2 : a ≤ 2147483648) (b1 : -2147483648 ≤ b) (b2 : b ≤ 2147483648) (w : World) :
    Calls Tryd.prog 28 #[.agg #[.int .i64 a, .int .i64 b]] w fun e w' => e = .returned (.agg #[.int .i64 p, .int .i64 q]) ∧ Below w.heap.size w w' := by
  obtain ⟨A, R⟩ := At2.two w (.int .i64 a) (.int .i64 b) (.int .i64 0) (.int .i64 0) 23 23
  obtain ⟨A0, A1, -, -, -⟩ := id A
  go_enter Tryd.func28, Tryd.ntmps28
  go_wp2_with fail
  refine bodyPost_ret (v := .agg #[.int .i64 p, .int .i64 q]) (by simp [results, Tryd.results28, go_sem]) rfl ⟨rfl, ?_⟩
  exact below2 _ _ _
theorem str7_any (a b m p q : Int) (g : Nat) (hp : m * a = p) (hq : m * b = q) (p1 : -4611686018427387904 ≤ p ∧ p ≤ 4611686018427387904) (q1 : -4611686018427387904 ≤ q ∧ q ≤ 4611686018427387904) (w : World) (M : At1 w g (.int .i64 m)) :
    Calls Tryd.prog 30 #[.agg #[.int .i64 a, .int .i64 b], .pointer (some ⟨g, 0, none⟩)] w fun e w' => e = .returned (.agg #[.int .i64 p, .int .i64 q]) ∧ Below w.heap.size w w' := by
  obtain ⟨A, R⟩ := At2.two w (.int .i64 a) (.int .i64 b) (.int .i64 0) (.int .i64 0) 23 23
  obtain ⟨A0, A1, -, -, -⟩ := id A
  have M0 := ((M.alloc (.cells #[.int .i64 a, .int .i64 b] 23)).alloc (.cells #[.int .i64 0, .int .i64 0] 23)).c0
  obtain ⟨p2, p3⟩ := p1
  obtain ⟨q2, q3⟩ := q1
  clear M
  go_enter Tryd.func30, Tryd.ntmps30
  go_wp2_with fail
  refine bodyPost_ret (v := .agg #[.int .i64 p, .int .i64 q]) (by simp [results, Tryd.results30, go_sem]) rfl ⟨rfl, ?_⟩
  exact below2 _ _ _
end Go.Proofs.YtebhflmmdfbjkaaDoor
