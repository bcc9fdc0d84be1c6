/- Angle: contracts of the reference's Times, Agree. -/
import Derived.Test.YtndcjldnnfhedaaDoorAnB
namespace Go.Proofs.YtndcjldnnfhedaaDoor
open Go.RowKit
set_option linter.unusedVariables false
set_option maxRecDepth 100000

/-- a product of an arc's end and a numerator -/
theorem prod60 {a n : Int} (h1 : -1099511627776 ≤ a) (h2 : a ≤ 1099511627776) (k1 : -1048576 ≤ n) (k2 : n ≤ 1048576) : -1152921504606846976 ≤ a * n ∧ a * n ≤ 1152921504606846976 := by
  have := mul_abs (a := a) (b := n) (A := 1099511627776) (B := 1048576) h1 h2 k1 k2
  omega
end Go.Proofs.YtndcjldnnfhedaaDoor
