/-
  NARROWER THAN 'FOR EVERY INPUT', by the rows' own cells (each row's printed sentence says how): CalendarDates: laid · CalendarNumbers: laid · CalendarAdds: laid · CalendarTexts: laid · CalendarSteps: laid · CalendarCycles: laid.
  DERIVED. THE GIVEN ROWS OF THIS SEAT. 6 by the template 'for every input the law returns true; each argument reads behind the call as it read before'; 0 by the template 'total and deterministic' (their statements: YtfknmceffkagaaaDoorTotals.lean).
  GIVEN WITH THE SEED: the statements are not yours to turn. If you find one false, say at which input.
  Laid BY PROGRAM, IN A SANDBOX (cutbox-rows.mjs): the forced cells as the released guide's own fill.sh prints them over the translation 137cb728cfaeeb80… (all of the seat's roots in one cut). By AI agents, Wed Nov 11 2026. No macro, syntax, notation, axiom, sorry.
-/
import Derived.Test.YtfknmceffkagaaaDoorChecked
import GoSem.Claim
import GoSem.ClaimJoined
import GoSem.ClaimMapViews
import Derived.JoinedTies
import Derived.KernelRfl
namespace Go.Proofs.YtfknmceffkagaaaDoor
/- THE CELL 'sum', in the pinned program and in every row, IS THE sha256 OF THE DUMP (.gsa) THAT YtfknmceffkagaaaDoorProg.lean LOADS. Nothing in Lean hashes anything: it is a label: what it is worth is what the hold of that sum in a sandbox is worth. -/
noncomputable def Tryd.pinned : Pinned := { name := "ytfknmceffkagaaadoor", sum := "137cb728cfaeeb8018ad74013314c07749aa76cca126d3ae91a992d082ed1834", checked := Tryd.checked }
namespace Rows
def none {H : Type} : Left H := { results := [], args := [] }

/- WHAT THE LISTED PACKAGE-LEVEL VARIABLES READ AS WHEN THE CALL BEGINS. Each datum BY PROGRAM (the guide's laid-datum.mjs) off the statement by which the dump's own 'gosem.cut.vars' lays the variable. In a bare row this is a premise. The card (YtfknmceffkagaaaDoorCards.lean) ties it to the program's text. -/
def laid_almucantar_calendar_lengths {H : Type} : DataW H := .agg [.lit (.int .i64 31), .lit (.int .i64 28), .lit (.int .i64 31), .lit (.int .i64 30), .lit (.int .i64 31), .lit (.int .i64 30), .lit (.int .i64 31), .lit (.int .i64 31), .lit (.int .i64 30), .lit (.int .i64 31), .lit (.int .i64 30), .lit (.int .i64 31)]

/-- 'almucantarlaw09.CalendarDates': WHATEVER THE INPUT: true; the input reads as it did. -/
def calendarDatesSpec : ChangeSpec := { name := "calendarDates", fn := fun _ => fun
  | [d1, d2, d3] => { results := [.lit (.bool true)], args := [d1, d2, d3] }
  | _ => none }
def calendarDatesRow : OpenClaim := { program := "ytfknmceffkagaaadoor", sum := "137cb728cfaeeb8018ad74013314c07749aa76cca126d3ae91a992d082ed1834", func := "almucantar/almucantarlaw09.CalendarDates", spec := "calendarDates", unfollowed := true, recurses := true, named := ["almucantar/calendar.lengths"], apart := false, laid := [("almucantar/calendar.lengths", laid_almucantar_calendar_lengths)] }
def CalendarDatesSaid : Prop := calendarDatesRow.holds Tryd.pinned (OpenSpec.ofChange calendarDatesSpec)

/-- ITS FALSE NEIGHBOUR: 'it returns false'. Refute it at one input. -/
def calendarDatesWrong : ChangeSpec := { name := "calendarDates", fn := fun _ => fun
  | [d1, d2, d3] => { results := [.lit (.bool false)], args := [d1, d2, d3] }
  | _ => none }
def CalendarDatesWrongFalsely : Prop := calendarDatesRow.holds Tryd.pinned (OpenSpec.ofChange calendarDatesWrong)

/-- 'almucantarlaw09.CalendarNumbers': WHATEVER THE INPUT: true; the input reads as it did. -/
def calendarNumbersSpec : ChangeSpec := { name := "calendarNumbers", fn := fun _ => fun
  | [d] => { results := [.lit (.bool true)], args := [d] }
  | _ => none }
def calendarNumbersRow : OpenClaim := { program := "ytfknmceffkagaaadoor", sum := "137cb728cfaeeb8018ad74013314c07749aa76cca126d3ae91a992d082ed1834", func := "almucantar/almucantarlaw09.CalendarNumbers", spec := "calendarNumbers", unfollowed := true, recurses := true, named := ["almucantar/calendar.lengths"], apart := false, laid := [("almucantar/calendar.lengths", laid_almucantar_calendar_lengths)] }
def CalendarNumbersSaid : Prop := calendarNumbersRow.holds Tryd.pinned (OpenSpec.ofChange calendarNumbersSpec)

/-- ITS FALSE NEIGHBOUR: 'it returns false'. Refute it at one input. -/
def calendarNumbersWrong : ChangeSpec := { name := "calendarNumbers", fn := fun _ => fun
  | [d] => { results := [.lit (.bool false)], args := [d] }
  | _ => none }
def CalendarNumbersWrongFalsely : Prop := calendarNumbersRow.holds Tryd.pinned (OpenSpec.ofChange calendarNumbersWrong)

/-- 'almucantarlaw09.CalendarAdds': WHATEVER THE INPUT: true; the input reads as it did. -/
def calendarAddsSpec : ChangeSpec := { name := "calendarAdds", fn := fun _ => fun
  | [d1, d2, d3] => { results := [.lit (.bool true)], args := [d1, d2, d3] }
  | _ => none }
def calendarAddsRow : OpenClaim := { program := "ytfknmceffkagaaadoor", sum := "137cb728cfaeeb8018ad74013314c07749aa76cca126d3ae91a992d082ed1834", func := "almucantar/almucantarlaw09.CalendarAdds", spec := "calendarAdds", unfollowed := true, recurses := true, named := ["almucantar/calendar.lengths"], apart := false, laid := [("almucantar/calendar.lengths", laid_almucantar_calendar_lengths)] }
def CalendarAddsSaid : Prop := calendarAddsRow.holds Tryd.pinned (OpenSpec.ofChange calendarAddsSpec)

/-- ITS FALSE NEIGHBOUR: 'it returns false'. Refute it at one input. -/
def calendarAddsWrong : ChangeSpec := { name := "calendarAdds", fn := fun _ => fun
  | [d1, d2, d3] => { results := [.lit (.bool false)], args := [d1, d2, d3] }
  | _ => none }
def CalendarAddsWrongFalsely : Prop := calendarAddsRow.holds Tryd.pinned (OpenSpec.ofChange calendarAddsWrong)

/-- 'almucantarlaw09.CalendarTexts': WHATEVER THE INPUT: true; the input reads as it did. -/
def calendarTextsSpec : ChangeSpec := { name := "calendarTexts", fn := fun _ => fun
  | [d1, d2] => { results := [.lit (.bool true)], args := [d1, d2] }
  | _ => none }
def calendarTextsRow : OpenClaim := { program := "ytfknmceffkagaaadoor", sum := "137cb728cfaeeb8018ad74013314c07749aa76cca126d3ae91a992d082ed1834", func := "almucantar/almucantarlaw09.CalendarTexts", spec := "calendarTexts", inPlace := ["internal/bytealg.IndexByteString", "internal/bytealg.IndexString", "internal/abi.NoEscape", "internal/bytealg.MakeNoZero"], unfollowed := true, recurses := true, named := ["almucantar/calendar.lengths", "internal/bytealg.MaxLen"], apart := false, laid := [("almucantar/calendar.lengths", laid_almucantar_calendar_lengths)] }
def CalendarTextsSaid : Prop := calendarTextsRow.holds Tryd.pinned (OpenSpec.ofChange calendarTextsSpec)

/-- ITS FALSE NEIGHBOUR: 'it returns false'. Refute it at one input. -/
def calendarTextsWrong : ChangeSpec := { name := "calendarTexts", fn := fun _ => fun
  | [d1, d2] => { results := [.lit (.bool false)], args := [d1, d2] }
  | _ => none }
def CalendarTextsWrongFalsely : Prop := calendarTextsRow.holds Tryd.pinned (OpenSpec.ofChange calendarTextsWrong)

/-- 'almucantarlaw09.CalendarSteps': WHATEVER THE INPUT: true; the input reads as it did. -/
def calendarStepsSpec : ChangeSpec := { name := "calendarSteps", fn := fun _ => fun
  | [d] => { results := [.lit (.bool true)], args := [d] }
  | _ => none }
def calendarStepsRow : OpenClaim := { program := "ytfknmceffkagaaadoor", sum := "137cb728cfaeeb8018ad74013314c07749aa76cca126d3ae91a992d082ed1834", func := "almucantar/almucantarlaw09.CalendarSteps", spec := "calendarSteps", unfollowed := true, recurses := true, named := ["almucantar/calendar.lengths"], apart := false, laid := [("almucantar/calendar.lengths", laid_almucantar_calendar_lengths)] }
def CalendarStepsSaid : Prop := calendarStepsRow.holds Tryd.pinned (OpenSpec.ofChange calendarStepsSpec)

/-- ITS FALSE NEIGHBOUR: 'it returns false'. Refute it at one input. -/
def calendarStepsWrong : ChangeSpec := { name := "calendarSteps", fn := fun _ => fun
  | [d] => { results := [.lit (.bool false)], args := [d] }
  | _ => none }
def CalendarStepsWrongFalsely : Prop := calendarStepsRow.holds Tryd.pinned (OpenSpec.ofChange calendarStepsWrong)

/-- 'almucantarlaw09.CalendarCycles': WHATEVER THE INPUT: true; the input reads as it did. -/
def calendarCyclesSpec : ChangeSpec := { name := "calendarCycles", fn := fun _ => fun
  | [d] => { results := [.lit (.bool true)], args := [d] }
  | _ => none }
def calendarCyclesRow : OpenClaim := { program := "ytfknmceffkagaaadoor", sum := "137cb728cfaeeb8018ad74013314c07749aa76cca126d3ae91a992d082ed1834", func := "almucantar/almucantarlaw09.CalendarCycles", spec := "calendarCycles", unfollowed := true, recurses := true, named := ["almucantar/calendar.lengths"], apart := false, laid := [("almucantar/calendar.lengths", laid_almucantar_calendar_lengths)] }
def CalendarCyclesSaid : Prop := calendarCyclesRow.holds Tryd.pinned (OpenSpec.ofChange calendarCyclesSpec)

/-- ITS FALSE NEIGHBOUR: 'it returns false'. Refute it at one input. -/
def calendarCyclesWrong : ChangeSpec := { name := "calendarCycles", fn := fun _ => fun
  | [d] => { results := [.lit (.bool false)], args := [d] }
  | _ => none }
def CalendarCyclesWrongFalsely : Prop := calendarCyclesRow.holds Tryd.pinned (OpenSpec.ofChange calendarCyclesWrong)

/- THE SECOND FORM. 'bulk': how many values and letters a reading holds, each counted each time it is reached (what is shared counts as often as it is met; a slice's spare places count too). A statement '..UptoSaid' is the law's where the arguments, and the package variables that the reading takes, are together of bulk at most 1048576: NARROWER than '..Said'. Prove '..Said' where nothing that the law and all that it calls make is longer than what came in: it says more and counts as full. Else prove '..UptoSaid'. A law counts once. -/
mutual
def uptoBulk {H : Type} : DataW H → Nat
  | .lit (.string bytes) => bytes.length + 1
  | .lit _ => 1
  | .nil => 1
  | .ptr d => uptoBulk d + 1
  | .slice elems spare => uptoBulkAll elems + uptoBulkAll spare + 1
  | .agg parts => uptoBulkAll parts + 1
  | .iface _ d => uptoBulk d + 1
  | .map entries => uptoBulkEntries entries + 1
  | .held _ => 1
def uptoBulkAll {H : Type} : List (DataW H) → Nat
  | [] => 0
  | d :: r => uptoBulk d + uptoBulkAll r
def uptoBulkEntries {H : Type} : List (Lit × DataW H) → Nat
  | [] => 0
  | x :: r => uptoBulkEntry x + uptoBulkEntries r
def uptoBulkEntry {H : Type} : Lit × DataW H → Nat
  | (.string bytes, d) => bytes.length + uptoBulk d + 1
  | (_, d) => uptoBulk d + 1
 end
def uptoSmall : (H : Type) → List (DataW H) → Bool := fun _ ds => decide (uptoBulkAll ds ≤ 1048576)
def OpenSpec.upto (s : _root_.Go.ChangeSpec) : _root_.Go.OpenSpec := { _root_.Go.OpenSpec.ofChange s with cond := some uptoSmall }

/-- 'almucantarlaw09.CalendarDates', WHERE WHAT IT READS IS OF BULK AT MOST 1048576: true; the input reads as it did. -/
def calendarDatesUptoRow : OpenClaim := { program := "ytfknmceffkagaaadoor", sum := "137cb728cfaeeb8018ad74013314c07749aa76cca126d3ae91a992d082ed1834", func := "almucantar/almucantarlaw09.CalendarDates", spec := "calendarDates", unfollowed := true, recurses := true, named := ["almucantar/calendar.lengths"], apart := false, laid := [("almucantar/calendar.lengths", laid_almucantar_calendar_lengths)], narrowed := true }
def CalendarDatesUptoSaid : Prop := calendarDatesUptoRow.holds Tryd.pinned (OpenSpec.upto calendarDatesSpec)

/-- 'almucantarlaw09.CalendarNumbers', WHERE WHAT IT READS IS OF BULK AT MOST 1048576: true; the input reads as it did. -/
def calendarNumbersUptoRow : OpenClaim := { program := "ytfknmceffkagaaadoor", sum := "137cb728cfaeeb8018ad74013314c07749aa76cca126d3ae91a992d082ed1834", func := "almucantar/almucantarlaw09.CalendarNumbers", spec := "calendarNumbers", unfollowed := true, recurses := true, named := ["almucantar/calendar.lengths"], apart := false, laid := [("almucantar/calendar.lengths", laid_almucantar_calendar_lengths)], narrowed := true }
def CalendarNumbersUptoSaid : Prop := calendarNumbersUptoRow.holds Tryd.pinned (OpenSpec.upto calendarNumbersSpec)

/-- 'almucantarlaw09.CalendarAdds', WHERE WHAT IT READS IS OF BULK AT MOST 1048576: true; the input reads as it did. -/
def calendarAddsUptoRow : OpenClaim := { program := "ytfknmceffkagaaadoor", sum := "137cb728cfaeeb8018ad74013314c07749aa76cca126d3ae91a992d082ed1834", func := "almucantar/almucantarlaw09.CalendarAdds", spec := "calendarAdds", unfollowed := true, recurses := true, named := ["almucantar/calendar.lengths"], apart := false, laid := [("almucantar/calendar.lengths", laid_almucantar_calendar_lengths)], narrowed := true }
def CalendarAddsUptoSaid : Prop := calendarAddsUptoRow.holds Tryd.pinned (OpenSpec.upto calendarAddsSpec)

/-- 'almucantarlaw09.CalendarTexts', WHERE WHAT IT READS IS OF BULK AT MOST 1048576: true; the input reads as it did. -/
def calendarTextsUptoRow : OpenClaim := { program := "ytfknmceffkagaaadoor", sum := "137cb728cfaeeb8018ad74013314c07749aa76cca126d3ae91a992d082ed1834", func := "almucantar/almucantarlaw09.CalendarTexts", spec := "calendarTexts", inPlace := ["internal/bytealg.IndexByteString", "internal/bytealg.IndexString", "internal/abi.NoEscape", "internal/bytealg.MakeNoZero"], unfollowed := true, recurses := true, named := ["almucantar/calendar.lengths", "internal/bytealg.MaxLen"], apart := false, laid := [("almucantar/calendar.lengths", laid_almucantar_calendar_lengths)], narrowed := true }
def CalendarTextsUptoSaid : Prop := calendarTextsUptoRow.holds Tryd.pinned (OpenSpec.upto calendarTextsSpec)

/-- 'almucantarlaw09.CalendarSteps', WHERE WHAT IT READS IS OF BULK AT MOST 1048576: true; the input reads as it did. -/
def calendarStepsUptoRow : OpenClaim := { program := "ytfknmceffkagaaadoor", sum := "137cb728cfaeeb8018ad74013314c07749aa76cca126d3ae91a992d082ed1834", func := "almucantar/almucantarlaw09.CalendarSteps", spec := "calendarSteps", unfollowed := true, recurses := true, named := ["almucantar/calendar.lengths"], apart := false, laid := [("almucantar/calendar.lengths", laid_almucantar_calendar_lengths)], narrowed := true }
def CalendarStepsUptoSaid : Prop := calendarStepsUptoRow.holds Tryd.pinned (OpenSpec.upto calendarStepsSpec)

/-- 'almucantarlaw09.CalendarCycles', WHERE WHAT IT READS IS OF BULK AT MOST 1048576: true; the input reads as it did. -/
def calendarCyclesUptoRow : OpenClaim := { program := "ytfknmceffkagaaadoor", sum := "137cb728cfaeeb8018ad74013314c07749aa76cca126d3ae91a992d082ed1834", func := "almucantar/almucantarlaw09.CalendarCycles", spec := "calendarCycles", unfollowed := true, recurses := true, named := ["almucantar/calendar.lengths"], apart := false, laid := [("almucantar/calendar.lengths", laid_almucantar_calendar_lengths)], narrowed := true }
def CalendarCyclesUptoSaid : Prop := calendarCyclesUptoRow.holds Tryd.pinned (OpenSpec.upto calendarCyclesSpec)

end Rows
end Go.Proofs.YtfknmceffkagaaaDoor
