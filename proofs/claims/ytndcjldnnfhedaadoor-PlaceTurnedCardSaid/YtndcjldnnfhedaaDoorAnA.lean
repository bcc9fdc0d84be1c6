/- Angle: contracts of the reference's small functions. -/
import Derived.Test.YtndcjldnnfhedaaDoorAnU
namespace Go.Proofs.YtndcjldnnfhedaaDoor
open Go.RowKit
set_option linter.unusedVariables false

theorem tmodT (n : Int) : (n.tmod 21600000 < 0 → n.tmod 21600000 + 21600000 = n % 21600000) ∧ (¬ n.tmod 21600000 < 0 → n.tmod 21600000 = n % 21600000) ∧ -21600000 < n.tmod 21600000 ∧ n.tmod 21600000 < 21600000 := by
  have e := Int.tmod_add_mul_tdiv n 21600000
  have b1 := Int.tmod_lt_of_pos n (show (0 : Int) < 21600000 by omega)
  have b2 := Int.lt_tmod_of_pos n (show (0 : Int) < 21600000 by omega)
  generalize n.tmod 21600000 = r at *
  generalize n.tdiv 21600000 = q at *
  omega
end Go.Proofs.YtndcjldnnfhedaaDoor
