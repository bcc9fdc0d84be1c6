/- Angle: the program's functions answer as they should. -/
import Derived.Test.YtedcpmiadonmeaaDoorAnPb
namespace Go.Proofs.YtedcpmiadonmeaaDoor
open Go.RowKit
set_option linter.unusedVariables false

theorem still_below {f : Nat} {args : Array Value} {w : World} {v : Value} (C : Calls Tryd.prog f args w fun e w' => e = .returned v ∧ w' = w) :
    Calls Tryd.prog f args w fun e w' => e = .returned v ∧ Below w.heap.size w w' :=
  C.mono fun e w' h => ⟨h.1, h.2 ▸ Below.refl _ _⟩
theorem anAw (w : World) (htab : Tab w) : AnAw w where
  text n wx hb h1 h2 := pText n wx (Lib.tabBelow_of_tabIs htab wx hb)
  agree a b c d wx := pAgree a b c d wx
  print a b wx hb := pPrint a b wx (Lib.tabBelow_of_tabIs htab wx hb)
  times a b n d wx h1 h2 h3 h4 := pTimes a b n d wx
  wrap n wx h1 h2 := still_below (pWrap n wx)
  signed n wx h1 h2 := still_below (pSigned n wx)
theorem anPs (w : World) (hm : HasMax w) (he : HasErr w) : AnPs w where
  parse s wx hb hs := pParse s wx hs (hm.below hb) (he.below hb)
theorem anProg (w : World) (htab : Tab w) : AnProg w where
  toAnAw := anAw w htab
  valid a b wx := pValid a b wx
  inside a b c d wx := pInside a b c d wx
  add a b c d wx := pAdd a b c d wx
  sub a b c d wx := pSub a b c d wx
  neg a b wx := pNeg a b wx
  hull a b c d wx := pHull a b c d wx
  meet a b c d wx := pMeet a b c d wx
  turn a b wx := pTurn a b wx
end Go.Proofs.YtedcpmiadonmeaaDoor
