/- Place: contracts of the reference's Contains, Inside, Around. -/
import Derived.Test.YtndcjldnnfhedaaDoorPcS
import Derived.LoopTactic
namespace Go.Proofs.YtndcjldnnfhedaaDoor
open Go.RowKit
set_option linter.unusedVariables false
set_option maxRecDepth 100000

end Go.Proofs.YtndcjldnnfhedaaDoor
