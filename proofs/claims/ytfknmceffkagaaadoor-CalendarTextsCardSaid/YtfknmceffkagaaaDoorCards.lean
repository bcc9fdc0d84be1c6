/-
  DERIVED. GIVEN WITH THE SEED: THE CARDS: each row of YtfknmceffkagaaaDoorRows.lean that lists a variable, with what it lists TIED to the program's text (the seventh form; the later family's looks); each row that meets fmt, with fmt's text TOLD by the authors' own Lean function (tested against real Go, not proved from fmt's source: count such statements apart). THE CARD IS WHAT COUNTS. Prove the row's statement (the work); the ties are given (YtfknmceffkagaaaDoorTie.lean); close each card by the builder's one call (the guide's Derived/Test/ToyasCard.lean, 'card_holds'). Laid BY PROGRAM, IN A SANDBOX (cutbox-door.mjs). By AI agents, Wed Nov 11 2026. No macro, syntax, notation, axiom, sorry.
-/
import Derived.Test.YtfknmceffkagaaaDoorRows
import GoSem.ClaimSeven
namespace Go.Proofs.YtfknmceffkagaaaDoor
namespace Rows

/-- THE TIED CARD OF 'almucantarlaw09.CalendarDates'. -/
def calendarDatesCard : Claim7 := { stood := { row := calendarDatesRow, standIns := [], harness := (true, "e95cb3ddfc0167d55472ca81d08d5dd8a6227a607c0e8dedc0b65693a6044544"), looks := false }, kinds := [], alts := [], laidByText := true, laidKinds := [.data], laidTests := true, laidLooks := .later }
def CalendarDatesCardSaid : Prop := Claim7.holds Tryd.pinned (.plain (OpenSpec.ofChange calendarDatesSpec)) calendarDatesCard

/-- THE TIED CARD OF 'almucantarlaw09.CalendarNumbers'. -/
def calendarNumbersCard : Claim7 := { stood := { row := calendarNumbersRow, standIns := [], harness := (true, "e95cb3ddfc0167d55472ca81d08d5dd8a6227a607c0e8dedc0b65693a6044544"), looks := false }, kinds := [], alts := [], laidByText := true, laidKinds := [.data], laidTests := true, laidLooks := .later }
def CalendarNumbersCardSaid : Prop := Claim7.holds Tryd.pinned (.plain (OpenSpec.ofChange calendarNumbersSpec)) calendarNumbersCard

/-- THE TIED CARD OF 'almucantarlaw09.CalendarAdds'. -/
def calendarAddsCard : Claim7 := { stood := { row := calendarAddsRow, standIns := [], harness := (true, "e95cb3ddfc0167d55472ca81d08d5dd8a6227a607c0e8dedc0b65693a6044544"), looks := false }, kinds := [], alts := [], laidByText := true, laidKinds := [.data], laidTests := true, laidLooks := .later }
def CalendarAddsCardSaid : Prop := Claim7.holds Tryd.pinned (.plain (OpenSpec.ofChange calendarAddsSpec)) calendarAddsCard

/-- THE TIED CARD OF 'almucantarlaw09.CalendarTexts'. -/
def calendarTextsCard : Claim7 := { stood := { row := calendarTextsRow, standIns := [], harness := (true, "e95cb3ddfc0167d55472ca81d08d5dd8a6227a607c0e8dedc0b65693a6044544"), looks := false }, kinds := [], alts := [], laidByText := true, laidKinds := [.data], laidTests := true, laidLooks := .later }
def CalendarTextsCardSaid : Prop := Claim7.holds Tryd.pinned (.plain (OpenSpec.ofChange calendarTextsSpec)) calendarTextsCard

/-- THE TIED CARD OF 'almucantarlaw09.CalendarSteps'. -/
def calendarStepsCard : Claim7 := { stood := { row := calendarStepsRow, standIns := [], harness := (true, "e95cb3ddfc0167d55472ca81d08d5dd8a6227a607c0e8dedc0b65693a6044544"), looks := false }, kinds := [], alts := [], laidByText := true, laidKinds := [.data], laidTests := true, laidLooks := .later }
def CalendarStepsCardSaid : Prop := Claim7.holds Tryd.pinned (.plain (OpenSpec.ofChange calendarStepsSpec)) calendarStepsCard

/-- THE TIED CARD OF 'almucantarlaw09.CalendarCycles'. -/
def calendarCyclesCard : Claim7 := { stood := { row := calendarCyclesRow, standIns := [], harness := (true, "e95cb3ddfc0167d55472ca81d08d5dd8a6227a607c0e8dedc0b65693a6044544"), looks := false }, kinds := [], alts := [], laidByText := true, laidKinds := [.data], laidTests := true, laidLooks := .later }
def CalendarCyclesCardSaid : Prop := Claim7.holds Tryd.pinned (.plain (OpenSpec.ofChange calendarCyclesSpec)) calendarCyclesCard

/-- THE SECOND FORM's CARD OF 'almucantarlaw09.CalendarDates'. -/
def calendarDatesUptoCard : Claim7 := { stood := { row := calendarDatesUptoRow, standIns := [], harness := (true, "e95cb3ddfc0167d55472ca81d08d5dd8a6227a607c0e8dedc0b65693a6044544"), looks := false }, kinds := [], alts := [], laidByText := true, laidKinds := [.data], laidTests := true, laidLooks := .later }
def CalendarDatesUptoCardSaid : Prop := Claim7.holds Tryd.pinned (.plain (OpenSpec.upto calendarDatesSpec)) calendarDatesUptoCard

/-- THE SECOND FORM's CARD OF 'almucantarlaw09.CalendarNumbers'. -/
def calendarNumbersUptoCard : Claim7 := { stood := { row := calendarNumbersUptoRow, standIns := [], harness := (true, "e95cb3ddfc0167d55472ca81d08d5dd8a6227a607c0e8dedc0b65693a6044544"), looks := false }, kinds := [], alts := [], laidByText := true, laidKinds := [.data], laidTests := true, laidLooks := .later }
def CalendarNumbersUptoCardSaid : Prop := Claim7.holds Tryd.pinned (.plain (OpenSpec.upto calendarNumbersSpec)) calendarNumbersUptoCard

/-- THE SECOND FORM's CARD OF 'almucantarlaw09.CalendarAdds'. -/
def calendarAddsUptoCard : Claim7 := { stood := { row := calendarAddsUptoRow, standIns := [], harness := (true, "e95cb3ddfc0167d55472ca81d08d5dd8a6227a607c0e8dedc0b65693a6044544"), looks := false }, kinds := [], alts := [], laidByText := true, laidKinds := [.data], laidTests := true, laidLooks := .later }
def CalendarAddsUptoCardSaid : Prop := Claim7.holds Tryd.pinned (.plain (OpenSpec.upto calendarAddsSpec)) calendarAddsUptoCard

/-- THE SECOND FORM's CARD OF 'almucantarlaw09.CalendarTexts'. -/
def calendarTextsUptoCard : Claim7 := { stood := { row := calendarTextsUptoRow, standIns := [], harness := (true, "e95cb3ddfc0167d55472ca81d08d5dd8a6227a607c0e8dedc0b65693a6044544"), looks := false }, kinds := [], alts := [], laidByText := true, laidKinds := [.data], laidTests := true, laidLooks := .later }
def CalendarTextsUptoCardSaid : Prop := Claim7.holds Tryd.pinned (.plain (OpenSpec.upto calendarTextsSpec)) calendarTextsUptoCard

/-- THE SECOND FORM's CARD OF 'almucantarlaw09.CalendarSteps'. -/
def calendarStepsUptoCard : Claim7 := { stood := { row := calendarStepsUptoRow, standIns := [], harness := (true, "e95cb3ddfc0167d55472ca81d08d5dd8a6227a607c0e8dedc0b65693a6044544"), looks := false }, kinds := [], alts := [], laidByText := true, laidKinds := [.data], laidTests := true, laidLooks := .later }
def CalendarStepsUptoCardSaid : Prop := Claim7.holds Tryd.pinned (.plain (OpenSpec.upto calendarStepsSpec)) calendarStepsUptoCard

/-- THE SECOND FORM's CARD OF 'almucantarlaw09.CalendarCycles'. -/
def calendarCyclesUptoCard : Claim7 := { stood := { row := calendarCyclesUptoRow, standIns := [], harness := (true, "e95cb3ddfc0167d55472ca81d08d5dd8a6227a607c0e8dedc0b65693a6044544"), looks := false }, kinds := [], alts := [], laidByText := true, laidKinds := [.data], laidTests := true, laidLooks := .later }
def CalendarCyclesUptoCardSaid : Prop := Claim7.holds Tryd.pinned (.plain (OpenSpec.upto calendarCyclesSpec)) calendarCyclesUptoCard
end Rows
end Go.Proofs.YtfknmceffkagaaaDoor
