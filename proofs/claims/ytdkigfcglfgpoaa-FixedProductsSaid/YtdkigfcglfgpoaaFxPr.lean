/- fixed: the program's functions answer as they should. -/
import Derived.Test.YtdkigfcglfgpoaaFrF
import Derived.Test.YtdkigfcglfgpoaaFrG
import Derived.Test.YtdkigfcglfgpoaaFrH
namespace Go.Proofs.Ytdkigfcglfgpoaa
open Go.RowKit
theorem fxProg : FxProg where
  valid := pValid
  inside := pInside
  make := fun n d w => pMake n d w
  add := pAdd
  sub := pSub
  mul := pMul
  div := pDiv
  hull := pHull
  meet := pMeet
  neg := pNeg
  square := pSquare
  root := pSqrt
  scale := pScale
  quotient := pQuotient
end Go.Proofs.Ytdkigfcglfgpoaa
