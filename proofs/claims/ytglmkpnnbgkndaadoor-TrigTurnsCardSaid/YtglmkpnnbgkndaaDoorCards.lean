/-
  DERIVED. GIVEN WITH THE SEED: THE CARDS: each row of YtglmkpnnbgkndaaDoorRows.lean that lists a variable, with what it lists TIED to the program's text (the seventh form; the later family's looks); each row that meets fmt, with fmt's text TOLD by the authors' own Lean function (tested against real Go, not proved from fmt's source: count such statements apart). THE CARD IS WHAT COUNTS. Prove the row's statement (the work); the ties are given (YtglmkpnnbgkndaaDoorTie.lean); close each card by the builder's one call (the guide's Derived/Test/ToyasCard.lean, 'card_holds'). Laid BY PROGRAM, IN A SANDBOX (cutbox-door.mjs). By AI agents, Wed Nov 11 2026. No macro, syntax, notation, axiom, sorry.
-/
import Derived.Test.YtglmkpnnbgkndaaDoorRows
import GoSem.ClaimSeven
namespace Go.Proofs.YtglmkpnnbgkndaaDoor
namespace Rows

/-- THE TIED CARD OF 'almucantarlaw06.TrigSines'. -/
def trigSinesCard : Claim7 := { stood := { row := trigSinesRow, standIns := [], harness := (true, "848b77f510322ae2a80898279d9d8a2ebaaac49e2e75673d79b749fcd1d64457"), looks := false }, kinds := [], alts := [], laidByText := true, laidKinds := [.data, .data], laidTests := true, laidLooks := .later }
def TrigSinesCardSaid : Prop := Claim7.holds Tryd.pinned (.plain (OpenSpec.ofChange trigSinesSpec)) trigSinesCard

/-- THE TIED CARD OF 'almucantarlaw06.TrigHaversines'. -/
def trigHaversinesCard : Claim7 := { stood := { row := trigHaversinesRow, standIns := [], harness := (true, "848b77f510322ae2a80898279d9d8a2ebaaac49e2e75673d79b749fcd1d64457"), looks := false }, kinds := [], alts := [], laidByText := true, laidKinds := [.data, .data], laidTests := true, laidLooks := .later }
def TrigHaversinesCardSaid : Prop := Claim7.holds Tryd.pinned (.plain (OpenSpec.ofChange trigHaversinesSpec)) trigHaversinesCard

/-- THE TIED CARD OF 'almucantarlaw06.TrigBelows'. -/
def trigBelowsCard : Claim7 := { stood := { row := trigBelowsRow, standIns := [], harness := (true, "848b77f510322ae2a80898279d9d8a2ebaaac49e2e75673d79b749fcd1d64457"), looks := false }, kinds := [], alts := [], laidByText := true, laidKinds := [.data, .data], laidTests := true, laidLooks := .later }
def TrigBelowsCardSaid : Prop := Claim7.holds Tryd.pinned (.plain (OpenSpec.ofChange trigBelowsSpec)) trigBelowsCard

/-- THE TIED CARD OF 'almucantarlaw06.TrigTurns'. -/
def trigTurnsCard : Claim7 := { stood := { row := trigTurnsRow, standIns := [], harness := (true, "848b77f510322ae2a80898279d9d8a2ebaaac49e2e75673d79b749fcd1d64457"), looks := false }, kinds := [], alts := [], laidByText := true, laidKinds := [.data, .data], laidTests := true, laidLooks := .later }
def TrigTurnsCardSaid : Prop := Claim7.holds Tryd.pinned (.plain (OpenSpec.ofChange trigTurnsSpec)) trigTurnsCard

/-- THE TIED CARD OF 'almucantarlaw06.TrigParts'. -/
def trigPartsCard : Claim7 := { stood := { row := trigPartsRow, standIns := [], harness := (true, "848b77f510322ae2a80898279d9d8a2ebaaac49e2e75673d79b749fcd1d64457"), looks := false }, kinds := [], alts := [], laidByText := true, laidKinds := [.data, .data], laidTests := true, laidLooks := .later }
def TrigPartsCardSaid : Prop := Claim7.holds Tryd.pinned (.plain (OpenSpec.ofChange trigPartsSpec)) trigPartsCard

/-- THE TIED CARD OF 'almucantarlaw06.TrigOrder'. -/
def trigOrderCard : Claim7 := { stood := { row := trigOrderRow, standIns := [], harness := (true, "848b77f510322ae2a80898279d9d8a2ebaaac49e2e75673d79b749fcd1d64457"), looks := false }, kinds := [], alts := [], laidByText := true, laidKinds := [.data, .data], laidTests := true, laidLooks := .later }
def TrigOrderCardSaid : Prop := Claim7.holds Tryd.pinned (.plain (OpenSpec.ofChange trigOrderSpec)) trigOrderCard

/-- THE TIED CARD OF 'almucantarlaw06.TrigSquares'. -/
def trigSquaresCard : Claim7 := { stood := { row := trigSquaresRow, standIns := [], harness := (true, "848b77f510322ae2a80898279d9d8a2ebaaac49e2e75673d79b749fcd1d64457"), looks := false }, kinds := [], alts := [], laidByText := true, laidKinds := [.data, .data], laidTests := true, laidLooks := .later }
def TrigSquaresCardSaid : Prop := Claim7.holds Tryd.pinned (.plain (OpenSpec.ofChange trigSquaresSpec)) trigSquaresCard

/-- THE TIED CARD OF 'almucantarlaw06.TrigSums'. -/
def trigSumsCard : Claim7 := { stood := { row := trigSumsRow, standIns := [], harness := (true, "848b77f510322ae2a80898279d9d8a2ebaaac49e2e75673d79b749fcd1d64457"), looks := false }, kinds := [], alts := [], laidByText := true, laidKinds := [.data, .data], laidTests := true, laidLooks := .later }
def TrigSumsCardSaid : Prop := Claim7.holds Tryd.pinned (.plain (OpenSpec.ofChange trigSumsSpec)) trigSumsCard

/-- THE TIED CARD OF 'almucantarlaw06.TrigThirds'. -/
def trigThirdsCard : Claim7 := { stood := { row := trigThirdsRow, standIns := [], harness := (true, "848b77f510322ae2a80898279d9d8a2ebaaac49e2e75673d79b749fcd1d64457"), looks := false }, kinds := [], alts := [], laidByText := true, laidKinds := [.data, .data], laidTests := true, laidLooks := .later }
def TrigThirdsCardSaid : Prop := Claim7.holds Tryd.pinned (.plain (OpenSpec.ofChange trigThirdsSpec)) trigThirdsCard

/-- THE SECOND FORM's CARD OF 'almucantarlaw06.TrigSines'. -/
def trigSinesUptoCard : Claim7 := { stood := { row := trigSinesUptoRow, standIns := [], harness := (true, "848b77f510322ae2a80898279d9d8a2ebaaac49e2e75673d79b749fcd1d64457"), looks := false }, kinds := [], alts := [], laidByText := true, laidKinds := [.data, .data], laidTests := true, laidLooks := .later }
def TrigSinesUptoCardSaid : Prop := Claim7.holds Tryd.pinned (.plain (OpenSpec.upto trigSinesSpec)) trigSinesUptoCard

/-- THE SECOND FORM's CARD OF 'almucantarlaw06.TrigHaversines'. -/
def trigHaversinesUptoCard : Claim7 := { stood := { row := trigHaversinesUptoRow, standIns := [], harness := (true, "848b77f510322ae2a80898279d9d8a2ebaaac49e2e75673d79b749fcd1d64457"), looks := false }, kinds := [], alts := [], laidByText := true, laidKinds := [.data, .data], laidTests := true, laidLooks := .later }
def TrigHaversinesUptoCardSaid : Prop := Claim7.holds Tryd.pinned (.plain (OpenSpec.upto trigHaversinesSpec)) trigHaversinesUptoCard

/-- THE SECOND FORM's CARD OF 'almucantarlaw06.TrigBelows'. -/
def trigBelowsUptoCard : Claim7 := { stood := { row := trigBelowsUptoRow, standIns := [], harness := (true, "848b77f510322ae2a80898279d9d8a2ebaaac49e2e75673d79b749fcd1d64457"), looks := false }, kinds := [], alts := [], laidByText := true, laidKinds := [.data, .data], laidTests := true, laidLooks := .later }
def TrigBelowsUptoCardSaid : Prop := Claim7.holds Tryd.pinned (.plain (OpenSpec.upto trigBelowsSpec)) trigBelowsUptoCard

/-- THE SECOND FORM's CARD OF 'almucantarlaw06.TrigTurns'. -/
def trigTurnsUptoCard : Claim7 := { stood := { row := trigTurnsUptoRow, standIns := [], harness := (true, "848b77f510322ae2a80898279d9d8a2ebaaac49e2e75673d79b749fcd1d64457"), looks := false }, kinds := [], alts := [], laidByText := true, laidKinds := [.data, .data], laidTests := true, laidLooks := .later }
def TrigTurnsUptoCardSaid : Prop := Claim7.holds Tryd.pinned (.plain (OpenSpec.upto trigTurnsSpec)) trigTurnsUptoCard

/-- THE SECOND FORM's CARD OF 'almucantarlaw06.TrigParts'. -/
def trigPartsUptoCard : Claim7 := { stood := { row := trigPartsUptoRow, standIns := [], harness := (true, "848b77f510322ae2a80898279d9d8a2ebaaac49e2e75673d79b749fcd1d64457"), looks := false }, kinds := [], alts := [], laidByText := true, laidKinds := [.data, .data], laidTests := true, laidLooks := .later }
def TrigPartsUptoCardSaid : Prop := Claim7.holds Tryd.pinned (.plain (OpenSpec.upto trigPartsSpec)) trigPartsUptoCard

/-- THE SECOND FORM's CARD OF 'almucantarlaw06.TrigOrder'. -/
def trigOrderUptoCard : Claim7 := { stood := { row := trigOrderUptoRow, standIns := [], harness := (true, "848b77f510322ae2a80898279d9d8a2ebaaac49e2e75673d79b749fcd1d64457"), looks := false }, kinds := [], alts := [], laidByText := true, laidKinds := [.data, .data], laidTests := true, laidLooks := .later }
def TrigOrderUptoCardSaid : Prop := Claim7.holds Tryd.pinned (.plain (OpenSpec.upto trigOrderSpec)) trigOrderUptoCard

/-- THE SECOND FORM's CARD OF 'almucantarlaw06.TrigSquares'. -/
def trigSquaresUptoCard : Claim7 := { stood := { row := trigSquaresUptoRow, standIns := [], harness := (true, "848b77f510322ae2a80898279d9d8a2ebaaac49e2e75673d79b749fcd1d64457"), looks := false }, kinds := [], alts := [], laidByText := true, laidKinds := [.data, .data], laidTests := true, laidLooks := .later }
def TrigSquaresUptoCardSaid : Prop := Claim7.holds Tryd.pinned (.plain (OpenSpec.upto trigSquaresSpec)) trigSquaresUptoCard

/-- THE SECOND FORM's CARD OF 'almucantarlaw06.TrigSums'. -/
def trigSumsUptoCard : Claim7 := { stood := { row := trigSumsUptoRow, standIns := [], harness := (true, "848b77f510322ae2a80898279d9d8a2ebaaac49e2e75673d79b749fcd1d64457"), looks := false }, kinds := [], alts := [], laidByText := true, laidKinds := [.data, .data], laidTests := true, laidLooks := .later }
def TrigSumsUptoCardSaid : Prop := Claim7.holds Tryd.pinned (.plain (OpenSpec.upto trigSumsSpec)) trigSumsUptoCard

/-- THE SECOND FORM's CARD OF 'almucantarlaw06.TrigThirds'. -/
def trigThirdsUptoCard : Claim7 := { stood := { row := trigThirdsUptoRow, standIns := [], harness := (true, "848b77f510322ae2a80898279d9d8a2ebaaac49e2e75673d79b749fcd1d64457"), looks := false }, kinds := [], alts := [], laidByText := true, laidKinds := [.data, .data], laidTests := true, laidLooks := .later }
def TrigThirdsUptoCardSaid : Prop := Claim7.holds Tryd.pinned (.plain (OpenSpec.upto trigThirdsSpec)) trigThirdsUptoCard
end Rows
end Go.Proofs.YtglmkpnnbgkndaaDoor
