/- Place: contracts of the reference's small functions. -/
import Derived.Test.YtndcjldnnfhedaaDoorPcF
import Derived.Test.YtndcjldnnfhedaaDoorAnB
namespace Go.Proofs.YtndcjldnnfhedaaDoor
open Go.RowKit
set_option linter.unusedVariables false
set_option maxRecDepth 100000

theorem still8 {f : Nat} {args : Array Value} {w : World} {v : Value} (C : Calls Tryd.prog f args w fun e w' => e = .returned v ∧ w' = w) : Calls Tryd.prog f args w fun e w' => e = .returned v ∧ Below w.heap.size w w' := C.mono fun e w' h => ⟨h.1, h.2 ▸ Below.refl _ _⟩
theorem has_part {c d y : Int} (k : lonOk c d = true) (hy : -10800000 ≤ y ∧ y < 10800000) : decide ((y - c) % 21600000 ≤ d - c) = partB y y c d := by
  rw [lonOk_iff] at k
  rw [Bool.eq_iff_iff, partB_iff, decide_eq_true_iff]
  omega
end Go.Proofs.YtndcjldnnfhedaaDoor
