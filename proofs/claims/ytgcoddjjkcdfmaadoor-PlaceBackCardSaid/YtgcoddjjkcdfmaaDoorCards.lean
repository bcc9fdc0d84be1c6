/-
  DERIVED. GIVEN WITH THE SEED: THE CARDS: each row of YtgcoddjjkcdfmaaDoorRows.lean that lists a variable, with what it lists TIED to the program's text (the seventh form; the later family's looks); each row that meets fmt, with fmt's text TOLD by the authors' own Lean function (tested against real Go, not proved from fmt's source: count such statements apart). THE CARD IS WHAT COUNTS. Prove the row's statement (the work); the ties are given (YtgcoddjjkcdfmaaDoorTie.lean); close each card by the builder's one call (the guide's Derived/Test/ToyasCard.lean, 'card_holds'). Laid BY PROGRAM, IN A SANDBOX (cutbox-door.mjs). By AI agents, Wed Nov 11 2026. No macro, syntax, notation, axiom, sorry.
-/
import Derived.Test.YtgcoddjjkcdfmaaDoorRows
import GoSem.ClaimSeven
namespace Go.Proofs.YtgcoddjjkcdfmaaDoor
namespace Rows

/-- THE TIED CARD OF 'almucantarlaw08.PlaceForms'. -/
def placeFormsCard : Claim7 := { stood := { row := placeFormsRow, standIns := [], harness := (true, "d45e682dacae1c345b2a062dead2bc51909882f1899381685be8f2791c2dc78c"), looks := true }, kinds := [], alts := [], laidByText := true, laidKinds := [.data, .data, .data, .data], laidTests := true, laidLooks := .later }
def PlaceFormsCardSaid : Prop := Claim7.holds Tryd.pinned (.plain (OpenSpec.ofChange placeFormsSpec)) placeFormsCard

/-- THE TIED CARD OF 'almucantarlaw08.PlaceBoxes'. -/
def placeBoxesCard : Claim7 := { stood := { row := placeBoxesRow, standIns := [], harness := (true, "d45e682dacae1c345b2a062dead2bc51909882f1899381685be8f2791c2dc78c"), looks := true }, kinds := [], alts := [], laidByText := true, laidKinds := [.data, .data, .data, .data], laidTests := true, laidLooks := .later }
def PlaceBoxesCardSaid : Prop := Claim7.holds Tryd.pinned (.plain (OpenSpec.ofChange placeBoxesSpec)) placeBoxesCard

/-- THE TIED CARD OF 'almucantarlaw08.PlaceBack'. -/
def placeBackCard : Claim7 := { stood := { row := placeBackRow, standIns := [], harness := (true, "d45e682dacae1c345b2a062dead2bc51909882f1899381685be8f2791c2dc78c"), looks := true }, kinds := [], alts := [], laidByText := true, laidKinds := [.data, .data, .data, .sentinel, .sentinel, .data], laidTests := true, laidLooks := .later }
def PlaceBackCardSaid : Prop := Claim7.holds Tryd.pinned (.plain (OpenSpec.ofChange placeBackSpec)) placeBackCard

/-- THE TIED CARD OF 'almucantarlaw08.PlaceHolds'. -/
def placeHoldsCard : Claim7 := { stood := { row := placeHoldsRow, standIns := [], harness := (true, "d45e682dacae1c345b2a062dead2bc51909882f1899381685be8f2791c2dc78c"), looks := true }, kinds := [], alts := [], laidByText := true, laidKinds := [.data, .data, .data, .data], laidTests := true, laidLooks := .later }
def PlaceHoldsCardSaid : Prop := Claim7.holds Tryd.pinned (.plain (OpenSpec.ofChange placeHoldsSpec)) placeHoldsCard

/-- THE TIED CARD OF 'almucantarlaw08.PlaceTurned'. -/
def placeTurnedCard : Claim7 := { stood := { row := placeTurnedRow, standIns := [], harness := (true, "d45e682dacae1c345b2a062dead2bc51909882f1899381685be8f2791c2dc78c"), looks := true }, kinds := [], alts := [], laidByText := true, laidKinds := [.data, .data, .data, .data], laidTests := true, laidLooks := .later }
def PlaceTurnedCardSaid : Prop := Claim7.holds Tryd.pinned (.plain (OpenSpec.ofChange placeTurnedSpec)) placeTurnedCard

/-- THE SECOND FORM's CARD OF 'almucantarlaw08.PlaceForms'. -/
def placeFormsUptoCard : Claim7 := { stood := { row := placeFormsUptoRow, standIns := [], harness := (true, "d45e682dacae1c345b2a062dead2bc51909882f1899381685be8f2791c2dc78c"), looks := true }, kinds := [], alts := [], laidByText := true, laidKinds := [.data, .data, .data, .data], laidTests := true, laidLooks := .later }
def PlaceFormsUptoCardSaid : Prop := Claim7.holds Tryd.pinned (.plain (OpenSpec.upto placeFormsSpec)) placeFormsUptoCard

/-- THE SECOND FORM's CARD OF 'almucantarlaw08.PlaceBoxes'. -/
def placeBoxesUptoCard : Claim7 := { stood := { row := placeBoxesUptoRow, standIns := [], harness := (true, "d45e682dacae1c345b2a062dead2bc51909882f1899381685be8f2791c2dc78c"), looks := true }, kinds := [], alts := [], laidByText := true, laidKinds := [.data, .data, .data, .data], laidTests := true, laidLooks := .later }
def PlaceBoxesUptoCardSaid : Prop := Claim7.holds Tryd.pinned (.plain (OpenSpec.upto placeBoxesSpec)) placeBoxesUptoCard

/-- THE SECOND FORM's CARD OF 'almucantarlaw08.PlaceBack'. -/
def placeBackUptoCard : Claim7 := { stood := { row := placeBackUptoRow, standIns := [], harness := (true, "d45e682dacae1c345b2a062dead2bc51909882f1899381685be8f2791c2dc78c"), looks := true }, kinds := [], alts := [], laidByText := true, laidKinds := [.data, .data, .data, .sentinel, .sentinel, .data], laidTests := true, laidLooks := .later }
def PlaceBackUptoCardSaid : Prop := Claim7.holds Tryd.pinned (.plain (OpenSpec.upto placeBackSpec)) placeBackUptoCard

/-- THE SECOND FORM's CARD OF 'almucantarlaw08.PlaceHolds'. -/
def placeHoldsUptoCard : Claim7 := { stood := { row := placeHoldsUptoRow, standIns := [], harness := (true, "d45e682dacae1c345b2a062dead2bc51909882f1899381685be8f2791c2dc78c"), looks := true }, kinds := [], alts := [], laidByText := true, laidKinds := [.data, .data, .data, .data], laidTests := true, laidLooks := .later }
def PlaceHoldsUptoCardSaid : Prop := Claim7.holds Tryd.pinned (.plain (OpenSpec.upto placeHoldsSpec)) placeHoldsUptoCard

/-- THE SECOND FORM's CARD OF 'almucantarlaw08.PlaceTurned'. -/
def placeTurnedUptoCard : Claim7 := { stood := { row := placeTurnedUptoRow, standIns := [], harness := (true, "d45e682dacae1c345b2a062dead2bc51909882f1899381685be8f2791c2dc78c"), looks := true }, kinds := [], alts := [], laidByText := true, laidKinds := [.data, .data, .data, .data], laidTests := true, laidLooks := .later }
def PlaceTurnedUptoCardSaid : Prop := Claim7.holds Tryd.pinned (.plain (OpenSpec.upto placeTurnedSpec)) placeTurnedUptoCard
end Rows
end Go.Proofs.YtgcoddjjkcdfmaaDoor
