/- Place: contracts of the reference's parts, Hull and Meet. -/
import Derived.Test.YtndcjldnnfhedaaDoorPcU
namespace Go.Proofs.YtndcjldnnfhedaaDoor
open Go.RowKit
set_option linter.unusedVariables false
set_option maxRecDepth 100000

theorem toldV {f : Nat} {args : Array Value} {w : World} {v v' : Value} (h : v = v') (C : Calls Tryd.prog f args w fun e w' => e = .returned v ∧ Below w.heap.size w w') : Calls Tryd.prog f args w fun e w' => e = .returned v' ∧ Below w.heap.size w w' := h ▸ C
end Go.Proofs.YtndcjldnnfhedaaDoor
