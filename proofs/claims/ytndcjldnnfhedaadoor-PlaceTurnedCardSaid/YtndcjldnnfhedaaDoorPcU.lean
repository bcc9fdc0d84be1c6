/- Place: contracts of the reference's Around and parts. -/
import Derived.Test.YtndcjldnnfhedaaDoorPcS
import Derived.Test.YtndcjldnnfhedaaDoorPcG
import Derived.LoopTactic
namespace Go.Proofs.YtndcjldnnfhedaaDoor
open Go.RowKit
set_option linter.unusedVariables false
set_option maxRecDepth 100000

theorem row_bel {wr : World} {b off : Nat} {x : Value} {zs : List Ar} (hl : b < wr.heap.size) (h : wr.cell? ⟨b, off, none⟩ = some x) : ∀ p : Bel wr, p.w.cell? ⟨b, off, none⟩ = some x := fun p => (p.h.cell (p := ⟨b, off, none⟩) hl).trans h
end Go.Proofs.YtndcjldnnfhedaaDoor
