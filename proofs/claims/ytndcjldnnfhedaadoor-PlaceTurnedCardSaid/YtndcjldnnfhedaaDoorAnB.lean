/- Angle: contracts of the reference's Neg, Add, Sub, Hull, Meet, Turn. -/
import Derived.Test.YtndcjldnnfhedaaDoorAnA
namespace Go.Proofs.YtndcjldnnfhedaaDoor
open Go.RowKit
set_option linter.unusedVariables false

end Go.Proofs.YtndcjldnnfhedaaDoor
