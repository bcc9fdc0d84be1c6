/-
  DERIVED. GIVEN WITH THE SEED: THE CARDS: each row of YtndcjldnnfhedaaDoorRows.lean that lists a variable, with what it lists TIED to the program's text (the seventh form; the later family's looks); each row that meets fmt, with fmt's text TOLD by the authors' own Lean function (tested against real Go, not proved from fmt's source: count such statements apart). THE CARD IS WHAT COUNTS. Prove the row's statement (the work); the ties are given (YtndcjldnnfhedaaDoorTie.lean); close each card by the builder's one call (the guide's Derived/Test/ToyasCard.lean, 'card_holds'). Laid BY PROGRAM, IN A SANDBOX (cutbox-door.mjs). By AI agents, Wed Nov 11 2026. No macro, syntax, notation, axiom, sorry.
-/
import Derived.Test.YtndcjldnnfhedaaDoorRows
import GoSem.ClaimSeven
namespace Go.Proofs.YtndcjldnnfhedaaDoor
namespace Rows

/-- THE TIED CARD OF 'almucantarlaw07.ArctrigBearings'. -/
def arctrigBearingsCard : Claim7 := { stood := { row := arctrigBearingsRow, standIns := [], harness := (true, "c6b9d21cbde2d721341636471c589ba0a6a4c12566b0951f12f981603ddb7445"), looks := false }, kinds := [], alts := [], laidByText := true, laidKinds := [.data, .data], laidTests := true, laidLooks := .later }
def ArctrigBearingsCardSaid : Prop := Claim7.holds Tryd.pinned (.plain (OpenSpec.ofChange arctrigBearingsSpec)) arctrigBearingsCard

/-- THE TIED CARD OF 'almucantarlaw08.PlaceTurned'. -/
def placeTurnedCard : Claim7 := { stood := { row := placeTurnedRow, standIns := [], harness := (true, "c6b9d21cbde2d721341636471c589ba0a6a4c12566b0951f12f981603ddb7445"), looks := false }, kinds := [], alts := [], laidByText := true, laidKinds := [.data, .data, .data, .data], laidTests := true, laidLooks := .later }
def PlaceTurnedCardSaid : Prop := Claim7.holds Tryd.pinned (.plain (OpenSpec.ofChange placeTurnedSpec)) placeTurnedCard

/-- THE SECOND FORM's CARD OF 'almucantarlaw07.ArctrigBearings'. -/
def arctrigBearingsUptoCard : Claim7 := { stood := { row := arctrigBearingsUptoRow, standIns := [], harness := (true, "c6b9d21cbde2d721341636471c589ba0a6a4c12566b0951f12f981603ddb7445"), looks := false }, kinds := [], alts := [], laidByText := true, laidKinds := [.data, .data], laidTests := true, laidLooks := .later }
def ArctrigBearingsUptoCardSaid : Prop := Claim7.holds Tryd.pinned (.plain (OpenSpec.upto arctrigBearingsSpec)) arctrigBearingsUptoCard

/-- THE SECOND FORM's CARD OF 'almucantarlaw08.PlaceTurned'. -/
def placeTurnedUptoCard : Claim7 := { stood := { row := placeTurnedUptoRow, standIns := [], harness := (true, "c6b9d21cbde2d721341636471c589ba0a6a4c12566b0951f12f981603ddb7445"), looks := false }, kinds := [], alts := [], laidByText := true, laidKinds := [.data, .data, .data, .data], laidTests := true, laidLooks := .later }
def PlaceTurnedUptoCardSaid : Prop := Claim7.holds Tryd.pinned (.plain (OpenSpec.upto placeTurnedSpec)) placeTurnedUptoCard
end Rows
end Go.Proofs.YtndcjldnnfhedaaDoor
