/- Fixed: a region that draws its order, only reads, and calls functions that lay blocks of their own: one walk, in the class of worlds above a given one. -/
import Derived.Test.YtndcjldnnfhedaaDoorFxU
namespace Go.Proofs.YtndcjldnnfhedaaDoor
open Go.RowKit
set_option linter.unusedVariables false

/-- a world above another one -/
structure Bel (W : World) where
  w : World
  h : Below W.heap.size W w
instance (W : World) : Inhabited (Bel W) := ⟨⟨W, Below.refl _ _⟩⟩
theorem wp_region_bel {P : Program} {id : Nat} {Q : Exit → Act → World → Prop} {a : Act} {w : World} {l : List Oper} (hm : P.follows .mixedOrders = true) (hB : Region.lexB .any l.toArray = true)
    (h : wpQuiet P l.toArray (fun w' => ∃ p : Bel w, w' = p.w) (fun a' => ∀ w', (∃ p : Bel w, w' = p.w) → Q .normal a' w') l a) : (Code.region id l.toArray true).wp P Q a w :=
  wp_region_quiet (C := fun w' => ∃ p : Bel w, w' = p.w) hm hB ⟨⟨w.drew, (Below.refl _ _).drew⟩, rfl⟩ (by simpa using h)
theorem bel_of {P : Program} {f : FuncId} {args : Array Value} {W : World} {p : Bel W} {v : Value}
    (h : Calls P f args p.w fun e w' => e = .returned v ∧ Below p.w.heap.size p.w w') : Calls P f args p.w fun e w'' => e = .returned v ∧ ∃ q : Bel W, w'' = q.w :=
  h.mono fun _ w' ⟨he, hb⟩ => ⟨he, ⟨w', p.h.trans (hb.mono p.h.size)⟩, rfl⟩
theorem At2.bel {W : World} {b : Nat} {x y : Value} (q : At2 W b x y) : (∀ p : Bel W, p.w.cell? ⟨b, 0, none⟩ = some x) ∧ (∀ p : Bel W, p.w.cell? ⟨b, 1, none⟩ = some y) :=
  ⟨fun p => (q.keep p.h).c0, fun p => (q.keep p.h).c1⟩
end Go.Proofs.YtndcjldnnfhedaaDoor
