/-
  DERIVED. GIVEN WITH THE SEED: THE CARDS: each row of YtebhflmmdfbjkaaDoorRows.lean that lists a variable, with what it lists TIED to the program's text (the seventh form; the later family's looks); each row that meets fmt, with fmt's text TOLD by the authors' own Lean function (tested against real Go, not proved from fmt's source: count such statements apart). THE CARD IS WHAT COUNTS. Prove the row's statement (the work); the ties are given (YtebhflmmdfbjkaaDoorTie.lean); close each card by the builder's one call (the guide's Derived/Test/ToyasCard.lean, 'card_holds'). Laid BY PROGRAM, IN A SANDBOX (cutbox-door.mjs). By AI agents, Wed Nov 11 2026. No macro, syntax, notation, axiom, sorry.
-/
import Derived.Test.YtebhflmmdfbjkaaDoorRows
import GoSem.ClaimSeven
namespace Go.Proofs.YtebhflmmdfbjkaaDoor
namespace Rows

/-- THE TIED CARD OF 'almucantarlaw07.ArctrigSines'. -/
def arctrigSinesCard : Claim7 := { stood := { row := arctrigSinesRow, standIns := [], harness := (true, "1da33f23b13baeba6e64c93284a26d63b4a802701c82cfaca42f517be04c6345"), looks := false }, kinds := [], alts := [], laidByText := true, laidKinds := [.data, .data], laidTests := true, laidLooks := .later }
def ArctrigSinesCardSaid : Prop := Claim7.holds Tryd.pinned (.plain (OpenSpec.ofChange arctrigSinesSpec)) arctrigSinesCard

/-- THE TIED CARD OF 'almucantarlaw07.ArctrigBearings'. -/
def arctrigBearingsCard : Claim7 := { stood := { row := arctrigBearingsRow, standIns := [], harness := (true, "1da33f23b13baeba6e64c93284a26d63b4a802701c82cfaca42f517be04c6345"), looks := false }, kinds := [], alts := [], laidByText := true, laidKinds := [.data, .data], laidTests := true, laidLooks := .later }
def ArctrigBearingsCardSaid : Prop := Claim7.holds Tryd.pinned (.plain (OpenSpec.ofChange arctrigBearingsSpec)) arctrigBearingsCard

/-- THE TIED CARD OF 'almucantarlaw07.ArctrigLeast'. -/
def arctrigLeastCard : Claim7 := { stood := { row := arctrigLeastRow, standIns := [], harness := (true, "1da33f23b13baeba6e64c93284a26d63b4a802701c82cfaca42f517be04c6345"), looks := false }, kinds := [], alts := [], laidByText := true, laidKinds := [.data, .data], laidTests := true, laidLooks := .later }
def ArctrigLeastCardSaid : Prop := Claim7.holds Tryd.pinned (.plain (OpenSpec.ofChange arctrigLeastSpec)) arctrigLeastCard

/-- THE TIED CARD OF 'almucantarlaw07.ArctrigOpposite'. -/
def arctrigOppositeCard : Claim7 := { stood := { row := arctrigOppositeRow, standIns := [], harness := (true, "1da33f23b13baeba6e64c93284a26d63b4a802701c82cfaca42f517be04c6345"), looks := false }, kinds := [], alts := [], laidByText := true, laidKinds := [.data, .data], laidTests := true, laidLooks := .later }
def ArctrigOppositeCardSaid : Prop := Claim7.holds Tryd.pinned (.plain (OpenSpec.ofChange arctrigOppositeSpec)) arctrigOppositeCard

/-- THE TIED CARD OF 'almucantarlaw07.ArctrigBack'. -/
def arctrigBackCard : Claim7 := { stood := { row := arctrigBackRow, standIns := [], harness := (true, "1da33f23b13baeba6e64c93284a26d63b4a802701c82cfaca42f517be04c6345"), looks := false }, kinds := [], alts := [], laidByText := true, laidKinds := [.data, .data], laidTests := true, laidLooks := .later }
def ArctrigBackCardSaid : Prop := Claim7.holds Tryd.pinned (.plain (OpenSpec.ofChange arctrigBackSpec)) arctrigBackCard

/-- THE TIED CARD OF 'almucantarlaw07.ArctrigGrows'. -/
def arctrigGrowsCard : Claim7 := { stood := { row := arctrigGrowsRow, standIns := [], harness := (true, "1da33f23b13baeba6e64c93284a26d63b4a802701c82cfaca42f517be04c6345"), looks := false }, kinds := [], alts := [], laidByText := true, laidKinds := [.data, .data], laidTests := true, laidLooks := .later }
def ArctrigGrowsCardSaid : Prop := Claim7.holds Tryd.pinned (.plain (OpenSpec.ofChange arctrigGrowsSpec)) arctrigGrowsCard

/-- THE TIED CARD OF 'almucantarlaw07.ArctrigTurns'. -/
def arctrigTurnsCard : Claim7 := { stood := { row := arctrigTurnsRow, standIns := [], harness := (true, "1da33f23b13baeba6e64c93284a26d63b4a802701c82cfaca42f517be04c6345"), looks := false }, kinds := [], alts := [], laidByText := true, laidKinds := [.data, .data], laidTests := true, laidLooks := .later }
def ArctrigTurnsCardSaid : Prop := Claim7.holds Tryd.pinned (.plain (OpenSpec.ofChange arctrigTurnsSpec)) arctrigTurnsCard

/-- THE TIED CARD OF 'almucantarlaw07.ArctrigDirections'. -/
def arctrigDirectionsCard : Claim7 := { stood := { row := arctrigDirectionsRow, standIns := [], harness := (true, "1da33f23b13baeba6e64c93284a26d63b4a802701c82cfaca42f517be04c6345"), looks := false }, kinds := [], alts := [], laidByText := true, laidKinds := [.data, .data], laidTests := true, laidLooks := .later }
def ArctrigDirectionsCardSaid : Prop := Claim7.holds Tryd.pinned (.plain (OpenSpec.ofChange arctrigDirectionsSpec)) arctrigDirectionsCard

/-- THE SECOND FORM's CARD OF 'almucantarlaw07.ArctrigSines'. -/
def arctrigSinesUptoCard : Claim7 := { stood := { row := arctrigSinesUptoRow, standIns := [], harness := (true, "1da33f23b13baeba6e64c93284a26d63b4a802701c82cfaca42f517be04c6345"), looks := false }, kinds := [], alts := [], laidByText := true, laidKinds := [.data, .data], laidTests := true, laidLooks := .later }
def ArctrigSinesUptoCardSaid : Prop := Claim7.holds Tryd.pinned (.plain (OpenSpec.upto arctrigSinesSpec)) arctrigSinesUptoCard

/-- THE SECOND FORM's CARD OF 'almucantarlaw07.ArctrigBearings'. -/
def arctrigBearingsUptoCard : Claim7 := { stood := { row := arctrigBearingsUptoRow, standIns := [], harness := (true, "1da33f23b13baeba6e64c93284a26d63b4a802701c82cfaca42f517be04c6345"), looks := false }, kinds := [], alts := [], laidByText := true, laidKinds := [.data, .data], laidTests := true, laidLooks := .later }
def ArctrigBearingsUptoCardSaid : Prop := Claim7.holds Tryd.pinned (.plain (OpenSpec.upto arctrigBearingsSpec)) arctrigBearingsUptoCard

/-- THE SECOND FORM's CARD OF 'almucantarlaw07.ArctrigLeast'. -/
def arctrigLeastUptoCard : Claim7 := { stood := { row := arctrigLeastUptoRow, standIns := [], harness := (true, "1da33f23b13baeba6e64c93284a26d63b4a802701c82cfaca42f517be04c6345"), looks := false }, kinds := [], alts := [], laidByText := true, laidKinds := [.data, .data], laidTests := true, laidLooks := .later }
def ArctrigLeastUptoCardSaid : Prop := Claim7.holds Tryd.pinned (.plain (OpenSpec.upto arctrigLeastSpec)) arctrigLeastUptoCard

/-- THE SECOND FORM's CARD OF 'almucantarlaw07.ArctrigOpposite'. -/
def arctrigOppositeUptoCard : Claim7 := { stood := { row := arctrigOppositeUptoRow, standIns := [], harness := (true, "1da33f23b13baeba6e64c93284a26d63b4a802701c82cfaca42f517be04c6345"), looks := false }, kinds := [], alts := [], laidByText := true, laidKinds := [.data, .data], laidTests := true, laidLooks := .later }
def ArctrigOppositeUptoCardSaid : Prop := Claim7.holds Tryd.pinned (.plain (OpenSpec.upto arctrigOppositeSpec)) arctrigOppositeUptoCard

/-- THE SECOND FORM's CARD OF 'almucantarlaw07.ArctrigBack'. -/
def arctrigBackUptoCard : Claim7 := { stood := { row := arctrigBackUptoRow, standIns := [], harness := (true, "1da33f23b13baeba6e64c93284a26d63b4a802701c82cfaca42f517be04c6345"), looks := false }, kinds := [], alts := [], laidByText := true, laidKinds := [.data, .data], laidTests := true, laidLooks := .later }
def ArctrigBackUptoCardSaid : Prop := Claim7.holds Tryd.pinned (.plain (OpenSpec.upto arctrigBackSpec)) arctrigBackUptoCard

/-- THE SECOND FORM's CARD OF 'almucantarlaw07.ArctrigGrows'. -/
def arctrigGrowsUptoCard : Claim7 := { stood := { row := arctrigGrowsUptoRow, standIns := [], harness := (true, "1da33f23b13baeba6e64c93284a26d63b4a802701c82cfaca42f517be04c6345"), looks := false }, kinds := [], alts := [], laidByText := true, laidKinds := [.data, .data], laidTests := true, laidLooks := .later }
def ArctrigGrowsUptoCardSaid : Prop := Claim7.holds Tryd.pinned (.plain (OpenSpec.upto arctrigGrowsSpec)) arctrigGrowsUptoCard

/-- THE SECOND FORM's CARD OF 'almucantarlaw07.ArctrigTurns'. -/
def arctrigTurnsUptoCard : Claim7 := { stood := { row := arctrigTurnsUptoRow, standIns := [], harness := (true, "1da33f23b13baeba6e64c93284a26d63b4a802701c82cfaca42f517be04c6345"), looks := false }, kinds := [], alts := [], laidByText := true, laidKinds := [.data, .data], laidTests := true, laidLooks := .later }
def ArctrigTurnsUptoCardSaid : Prop := Claim7.holds Tryd.pinned (.plain (OpenSpec.upto arctrigTurnsSpec)) arctrigTurnsUptoCard

/-- THE SECOND FORM's CARD OF 'almucantarlaw07.ArctrigDirections'. -/
def arctrigDirectionsUptoCard : Claim7 := { stood := { row := arctrigDirectionsUptoRow, standIns := [], harness := (true, "1da33f23b13baeba6e64c93284a26d63b4a802701c82cfaca42f517be04c6345"), looks := false }, kinds := [], alts := [], laidByText := true, laidKinds := [.data, .data], laidTests := true, laidLooks := .later }
def ArctrigDirectionsUptoCardSaid : Prop := Claim7.holds Tryd.pinned (.plain (OpenSpec.upto arctrigDirectionsSpec)) arctrigDirectionsUptoCard
end Rows
end Go.Proofs.YtebhflmmdfbjkaaDoor
