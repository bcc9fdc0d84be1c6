/- Fixed: small tools: results, blocks of structs, worlds. -/
import Derived.Test.YtndcjldnnfhedaaDoorFxQ
import Derived.WalkKit
import Derived.WalkSpells
import Derived.WalkLawsBesides
import Derived.Lib.Hide
import Derived.Deep.QuietTactic
import Derived.BigQuiet
import Derived.Deep.RegionWith
import Derived.BigRegion
import Derived.StillTailTactics
import Derived.Deep.RegionHeld3
import Derived.Laws.Bits64b
import Derived.Deep.LoopGhost
namespace Go.Proofs.YtndcjldnnfhedaaDoor
open Go.RowKit
set_option linter.unusedVariables false

theorem ret_bool {a b : Bool} (h : a = b) : Ending.returned (.bool a) = .returned (.bool b) := by rw [h]
theorem ret_int {k : IntKind} {a b : Int} (h : a = b) : Ending.returned (.int k a) = .returned (.int k b) := by rw [h]
theorem below_drewN (B : Nat) (w : World) (n : Nat) : Below B w (w.drewN n) := ⟨rfl, rfl, rfl, Nat.le_refl _, fun _ _ => rfl⟩
/-- the block of a struct result, behind a call -/
theorem alloc_below {w w1 : World} {o : Obj} (hb : Below (w.alloc o).heap.size (w.alloc o) w1) : Below w.heap.size w w1 :=
  ((Below.refl _ _).alloc (Nat.le_refl _) o).trans (hb.mono (by simp))
theorem new2 {w w1 : World} {x y : Value} {T : Nat} (hb : Below (w.alloc (.cells #[x, y] T)).heap.size (w.alloc (.cells #[x, y] T)) w1) :
    w1.cell? ⟨w.heap.size, 0, none⟩ = some x ∧ w1.cell? ⟨w.heap.size, 1, none⟩ = some y ∧ w1.frozen? ⟨w.heap.size, 0, none⟩ = false ∧ w1.frozen? ⟨w.heap.size, 1, none⟩ = false ∧ w.heap.size < w1.heap.size := by
  have hs := hb.size
  simp at hs
  have c0 := hb.cell (p := ⟨w.heap.size, 0, none⟩) (by show w.heap.size < _; simp)
  have c1 := hb.cell (p := ⟨w.heap.size, 1, none⟩) (by show w.heap.size < _; simp)
  have f0 := hb.frozen (p := ⟨w.heap.size, 0, none⟩) (by show w.heap.size < _; simp)
  have f1 := hb.frozen (p := ⟨w.heap.size, 1, none⟩) (by show w.heap.size < _; simp)
  refine ⟨c0.trans ?_, c1.trans ?_, f0.trans ?_, f1.trans ?_, by omega⟩
  · rw [World.cell?_alloc_new]; rfl
  · rw [World.cell?_alloc_new]; rfl
  · go_simp
  · go_simp

/-- a struct of two fields lies in block b -/
structure At2 (w : World) (b : Nat) (x y : Value) : Prop where
  c0 : w.cell? ⟨b, 0, none⟩ = some x
  c1 : w.cell? ⟨b, 1, none⟩ = some y
  f0 : w.frozen? ⟨b, 0, none⟩ = false
  f1 : w.frozen? ⟨b, 1, none⟩ = false
  lt : b < w.heap.size
theorem At2.of {w w1 : World} {x y : Value} {T : Nat} (hb : Below (w.alloc (.cells #[x, y] T)).heap.size (w.alloc (.cells #[x, y] T)) w1) : At2 w1 w.heap.size x y := by
  obtain ⟨a, b, c, d, e⟩ := new2 hb; exact ⟨a, b, c, d, e⟩
theorem At2.keep {w w1 : World} {b : Nat} {x y : Value} (h : At2 w b x y) (hb : Below w.heap.size w w1) : At2 w1 b x y :=
  ⟨(hb.cell (p := ⟨b, 0, none⟩) h.lt).trans h.c0, (hb.cell (p := ⟨b, 1, none⟩) h.lt).trans h.c1, (hb.frozen (p := ⟨b, 0, none⟩) h.lt).trans h.f0, (hb.frozen (p := ⟨b, 1, none⟩) h.lt).trans h.f1, Nat.lt_of_lt_of_le h.lt hb.size⟩
theorem At2.new (w : World) (x y : Value) (T : Nat) : At2 (w.alloc (.cells #[x, y] T)) w.heap.size x y := At2.of (T := T) (Below.refl _ _)
theorem At2.alloc {w : World} {b : Nat} {x y : Value} (h : At2 w b x y) (o : Obj) : At2 (w.alloc o) b x y := h.keep ((Below.refl _ _).alloc (Nat.le_refl _) o)
theorem At2.three (w : World) (a b c d e f : Value) (T T' T'' : Nat) :
    At2 (((w.alloc (.cells #[a, b] T)).alloc (.cells #[c, d] T')).alloc (.cells #[e, f] T'')) w.heap.size a b ∧
    At2 (((w.alloc (.cells #[a, b] T)).alloc (.cells #[c, d] T')).alloc (.cells #[e, f] T'')) (w.heap.size + 1) c d ∧
    At2 (((w.alloc (.cells #[a, b] T)).alloc (.cells #[c, d] T')).alloc (.cells #[e, f] T'')) (w.heap.size + 1 + 1) e f := by
  have h1 := At2.new (w.alloc (.cells #[a, b] T)) c d T'
  have h2 := At2.new ((w.alloc (.cells #[a, b] T)).alloc (.cells #[c, d] T')) e f T''
  simp at h1 h2
  exact ⟨((At2.new w a b T).alloc _).alloc _, h1.alloc _, h2⟩
theorem At2.two (w : World) (a b c d : Value) (T T' : Nat) :
    At2 ((w.alloc (.cells #[a, b] T)).alloc (.cells #[c, d] T')) w.heap.size a b ∧
    At2 ((w.alloc (.cells #[a, b] T)).alloc (.cells #[c, d] T')) (w.heap.size + 1) c d := by
  have h1 := At2.new (w.alloc (.cells #[a, b] T)) c d T'
  simp at h1
  exact ⟨(At2.new w a b T).alloc _, h1⟩
theorem below1 (w : World) (o : Obj) : Below w.heap.size w (w.alloc o) := (Below.refl _ _).alloc (Nat.le_refl _) o
theorem below2 (w : World) (o o' : Obj) : Below w.heap.size w ((w.alloc o).alloc o') := (below1 w o).alloc (by simp) o'
theorem below3 (w : World) (o o' o'' : Obj) : Below w.heap.size w (((w.alloc o).alloc o').alloc o'') := (below2 w o o').alloc (by simp; omega) o''
theorem bstep {w w1 w2 : World} (h : Below w.heap.size w w1) (h' : Below w1.heap.size w1 w2) : Below w.heap.size w w2 := h.trans (h'.mono h.size)
theorem bdrew {w w2 : World} (h : Below w.drew.heap.size w.drew w2) : Below w.heap.size w w2 := (Below.refl _ _).drew.trans h
theorem below_set2 {w w' : World} {n b : Nat} (h : Below n w w') (hn : n ≤ b) (x y : Value) : Below n w ((w'.setCell ⟨b, 0, none⟩ x).setCell ⟨b, 1, none⟩ y) := (h.setCell hn x).setCell hn y
theorem set2 {w1 : World} {b : Nat} {u v : Value} (c0 : w1.cell? ⟨b, 0, none⟩ = some u) (c1 : w1.cell? ⟨b, 1, none⟩ = some v) (x y : Value) :
    (w1.setCell ⟨b, 0, none⟩ x).cell? ⟨b, 0, none⟩ = some x ∧ ((w1.setCell ⟨b, 0, none⟩ x).setCell ⟨b, 1, none⟩ y).cell? ⟨b, 1, none⟩ = some y := by
  have h1 : (w1.setCell ⟨b, 0, none⟩ x).cell? ⟨b, 1, none⟩ = some v := (World.cell?_setCell_other w1 _ _ x (by simp)).trans c1
  exact ⟨World.cell?_setCell_same w1 _ x c0, World.cell?_setCell_same _ _ y h1⟩
/-- a block of two cells behind two stores, and a new block behind -/
theorem put2 {w1 : World} {b : Nat} {u v : Value} (c0 : w1.cell? ⟨b, 0, none⟩ = some u) (c1 : w1.cell? ⟨b, 1, none⟩ = some v) (x y : Value) (o : Obj) :
    (((w1.setCell ⟨b, 0, none⟩ x).setCell ⟨b, 1, none⟩ y).alloc o).cell? ⟨b, 0, none⟩ = some x ∧ (((w1.setCell ⟨b, 0, none⟩ x).setCell ⟨b, 1, none⟩ y).alloc o).cell? ⟨b, 1, none⟩ = some y := by
  obtain ⟨s0, s1⟩ := set2 c0 c1 x y
  exact ⟨Lib.cell?_alloc_some _ ((World.cell?_setCell_other _ _ _ y (by simp)).trans s0), Lib.cell?_alloc_some _ s1⟩
theorem below_put2 {w w' : World} {n b : Nat} (h : Below n w w') (hn : n ≤ b) (hs : n ≤ w'.heap.size) (x y : Value) (o : Obj) : Below n w (((w'.setCell ⟨b, 0, none⟩ x).setCell ⟨b, 1, none⟩ y).alloc o) :=
  (below_set2 h hn x y).alloc (by simpa [World.setCell] using hs) o
theorem At2.put {w : World} {b : Nat} {x y : Value} (h : At2 w b x y) (u v : Value) : At2 ((w.setCell ⟨b, 0, none⟩ u).setCell ⟨b, 1, none⟩ v) b u v := by
  obtain ⟨s0, s1⟩ := set2 h.c0 h.c1 u v
  exact ⟨(World.cell?_setCell_other _ _ _ v (by simp)).trans s0, s1, (World.frozen?_setCell _ _ _ _).trans ((World.frozen?_setCell _ _ _ _).trans h.f0), (World.frozen?_setCell _ _ _ _).trans ((World.frozen?_setCell _ _ _ _).trans h.f1), by simpa [World.setCell] using h.lt⟩
theorem At2.far {w : World} {b c : Nat} {x y : Value} (h : At2 w b x y) (hne : b ≠ c) (u v : Value) : At2 ((w.setCell ⟨c, 0, none⟩ u).setCell ⟨c, 1, none⟩ v) b x y :=
  ⟨(World.cell?_setCell_other _ _ _ _ (by simp; try omega)).trans ((World.cell?_setCell_other _ _ _ _ (by simp; try omega)).trans h.c0), (World.cell?_setCell_other _ _ _ _ (by simp; try omega)).trans ((World.cell?_setCell_other _ _ _ _ (by simp; try omega)).trans h.c1),
   (World.frozen?_setCell _ _ _ _).trans ((World.frozen?_setCell _ _ _ _).trans h.f0), (World.frozen?_setCell _ _ _ _).trans ((World.frozen?_setCell _ _ _ _).trans h.f1), by simpa [World.setCell] using h.lt⟩
/-- worlds behind one, two, three blocks -/
theorem bel1 {w w1 : World} {o : Obj} (hb : Below (w.alloc o).heap.size (w.alloc o) w1) : Below w.heap.size w w1 := alloc_below hb
theorem bel2 {w w1 : World} {o o' : Obj} (hb : Below ((w.alloc o).alloc o').heap.size ((w.alloc o).alloc o') w1) : Below w.heap.size w w1 := bel1 (alloc_below hb)
theorem bel3 {w w1 : World} {o o' o'' : Obj} (hb : Below (((w.alloc o).alloc o').alloc o'').heap.size (((w.alloc o).alloc o').alloc o'') w1) : Below w.heap.size w w1 := bel2 (alloc_below hb)
end Go.Proofs.YtndcjldnnfhedaaDoor
