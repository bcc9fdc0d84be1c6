/-
  DERIVED. GIVEN WITH THE SEED: THE CARDS: each row of YtgcoddjjkcdfmaaGreatDoorRows.lean that lists a variable, with what it lists TIED to the program's text (the seventh form; the later family's looks); each row that meets fmt, with fmt's text TOLD by the authors' own Lean function (tested against real Go, not proved from fmt's source: count such statements apart). THE CARD IS WHAT COUNTS. Prove the row's statement (the work); the ties are given (YtgcoddjjkcdfmaaGreatDoorTie.lean); close each card by the builder's one call (the guide's Derived/Test/ToyasCard.lean, 'card_holds'). Laid BY PROGRAM, IN A SANDBOX (cutbox-door.mjs). By AI agents, Wed Nov 11 2026. No macro, syntax, notation, axiom, sorry.
-/
import Derived.Test.YtgcoddjjkcdfmaaGreatDoorRows
import GoSem.ClaimSeven
namespace Go.Proofs.YtgcoddjjkcdfmaaGreatDoor
namespace Rows

/-- THE TIED CARD OF 'almucantarlaw08.PlaceTexts'. -/
def placeTextsCard : Claim7 := { stood := { row := placeTextsRow, standIns := [], harness := (true, "0f1ddc471d4cf23bbf9c61f3aa2db8a3cf93947975a14f82a47cc38628f054e6"), looks := true }, kinds := [], alts := [], laidByText := true, laidKinds := [.data, .data, .data, .sentinel, .sentinel, .data], laidTests := true, laidLooks := .later }
def PlaceTextsCardSaid : Prop := Claim7.holds Tryz.pinned (.plain (OpenSpec.ofChange placeTextsSpec)) placeTextsCard

/-- THE SECOND FORM's CARD OF 'almucantarlaw08.PlaceTexts'. -/
def placeTextsUptoCard : Claim7 := { stood := { row := placeTextsUptoRow, standIns := [], harness := (true, "0f1ddc471d4cf23bbf9c61f3aa2db8a3cf93947975a14f82a47cc38628f054e6"), looks := true }, kinds := [], alts := [], laidByText := true, laidKinds := [.data, .data, .data, .sentinel, .sentinel, .data], laidTests := true, laidLooks := .later }
def PlaceTextsUptoCardSaid : Prop := Claim7.holds Tryz.pinned (.plain (OpenSpec.upto placeTextsSpec)) placeTextsUptoCard
end Rows
end Go.Proofs.YtgcoddjjkcdfmaaGreatDoor
