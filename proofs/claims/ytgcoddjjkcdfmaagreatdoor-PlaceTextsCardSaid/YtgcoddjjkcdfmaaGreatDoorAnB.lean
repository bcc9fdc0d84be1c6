/- Angle: contracts of the reference's Neg, Add, Sub, Hull, Meet, Turn. -/
import Derived.Test.YtgcoddjjkcdfmaaGreatDoorAnA
namespace Go.Proofs.YtgcoddjjkcdfmaaGreatDoor
open Go.RowKit
set_option linter.unusedVariables false

end Go.Proofs.YtgcoddjjkcdfmaaGreatDoor
