/- Angle: contract of the reference's Agree. -/
import Derived.Test.YtndcjldnnfhedaaDoorAnC
namespace Go.Proofs.YtndcjldnnfhedaaDoor
open Go.RowKit
set_option linter.unusedVariables false

/-- do two arcs meet, the second one moved by so many turns -/
theorem rAgree_step (x y u v k : Int) : ameets x y (u + k * 21600000) (v + k * 21600000) = decide (x ≤ v + k * 21600000 ∧ u + k * 21600000 ≤ y) := rfl
end Go.Proofs.YtndcjldnnfhedaaDoor
