/-
  NARROWER THAN 'FOR EVERY INPUT', by the rows' own cells (each row's printed sentence says how): ArctrigSines: laid · ArctrigBearings: laid · ArctrigLeast: laid · ArctrigOpposite: laid · ArctrigBack: laid · ArctrigGrows: laid · ArctrigTurns: laid · ArctrigDirections: laid.
  DERIVED. THE GIVEN ROWS OF THIS SEAT. 8 by the template 'for every input the law returns true; each argument reads behind the call as it read before'; 0 by the template 'total and deterministic' (their statements: YtebhflmmdfbjkaaDoorTotals.lean).
  GIVEN WITH THE SEED: the statements are not yours to turn. If you find one false, say at which input.
  Laid BY PROGRAM, IN A SANDBOX (cutbox-rows.mjs): the forced cells as the released guide's own fill.sh prints them over the translation 254c698e124c4512… (all of the seat's roots in one cut). By AI agents, Wed Nov 11 2026. No macro, syntax, notation, axiom, sorry.
-/
import Derived.Test.YtebhflmmdfbjkaaDoorChecked
import GoSem.Claim
import GoSem.ClaimJoined
import GoSem.ClaimMapViews
import Derived.JoinedTies
import Derived.KernelRfl
namespace Go.Proofs.YtebhflmmdfbjkaaDoor
/- THE CELL 'sum', in the pinned program and in every row, IS THE sha256 OF THE DUMP (.gsa) THAT YtebhflmmdfbjkaaDoorProg.lean LOADS. Nothing in Lean hashes anything: it is a label: what it is worth is what the hold of that sum in a sandbox is worth. -/
noncomputable def Tryd.pinned : Pinned := { name := "ytebhflmmdfbjkaadoor", sum := "254c698e124c4512fa41606f78a2881af747cd3262567ededb813bf81723971e", checked := Tryd.checked }
namespace Rows
def none {H : Type} : Left H := { results := [], args := [] }

/- WHAT THE LISTED PACKAGE-LEVEL VARIABLES READ AS WHEN THE CALL BEGINS. Each datum BY PROGRAM (the guide's laid-datum.mjs) off the statement by which the dump's own 'gosem.cut.vars' lays the variable. In a bare row this is a premise. The card (YtebhflmmdfbjkaaDoorCards.lean) ties it to the program's text. -/
def laid_almucantar_digits_radian {H : Type} : DataW H := .agg [.lit (.int .u64 5365940339316), .lit (.int .u64 7144251595963602554)]
def laid_almucantar_digits_inverses {H : Type} : DataW H := .agg [.agg [.lit (.int .u64 9223372036854775808), .lit (.int .u64 0)], .agg [.lit (.int .u64 3074457345618258602), .lit (.int .u64 12297829382473034410)], .agg [.lit (.int .u64 768614336404564650), .lit (.int .u64 12297829382473034410)], .agg [.lit (.int .u64 153722867280912930), .lit (.int .u64 2459565876494606882)], .agg [.lit (.int .u64 25620477880152155), .lit (.int .u64 409927646082434480)], .agg [.lit (.int .u64 3660068268593165), .lit (.int .u64 58561092297490640)], .agg [.lit (.int .u64 457508533574145), .lit (.int .u64 11536535182605656090)], .agg [.lit (.int .u64 50834281508238), .lit (.int .u64 7430751933748256770)], .agg [.lit (.int .u64 5083428150823), .lit (.int .u64 15500470452342466969)], .agg [.lit (.int .u64 462129831893), .lit (.int .u64 1409133677485678815)], .agg [.lit (.int .u64 38510819324), .lit (.int .u64 7803571170502786407)], .agg [.lit (.int .u64 2962370717), .lit (.int .u64 4857215645510110865)], .agg [.lit (.int .u64 211597908), .lit (.int .u64 6935066858146990638)], .agg [.lit (.int .u64 14106527), .lit (.int .u64 4151686605285043032)], .agg [.lit (.int .u64 881657), .lit (.int .u64 17553302981933019829)], .agg [.lit (.int .u64 51862), .lit (.int .u64 4287855011944804392)], .agg [.lit (.int .u64 2881), .lit (.int .u64 4337490628154611714)], .agg [.lit (.int .u64 151), .lit (.int .u64 11878864184877327952)], .agg [.lit (.int .u64 7), .lit (.int .u64 10739652449784119786)], .agg [.lit (.int .u64 0), .lit (.int .u64 6660326712654808623)], .agg [.lit (.int .u64 0), .lit (.int .u64 302742123302491301)], .agg [.lit (.int .u64 0), .lit (.int .u64 13162701013151795)], .agg [.lit (.int .u64 0), .lit (.int .u64 548445875547991)], .agg [.lit (.int .u64 0), .lit (.int .u64 21937835021919)], .agg [.lit (.int .u64 0), .lit (.int .u64 843762885458)], .agg [.lit (.int .u64 0), .lit (.int .u64 31250477239)], .agg [.lit (.int .u64 0), .lit (.int .u64 1116088472)], .agg [.lit (.int .u64 0), .lit (.int .u64 38485809)]]

/-- 'almucantarlaw07.ArctrigSines': WHATEVER THE INPUT: true; the input reads as it did. -/
def arctrigSinesSpec : ChangeSpec := { name := "arctrigSines", fn := fun _ => fun
  | [d] => { results := [.lit (.bool true)], args := [d] }
  | _ => none }
def arctrigSinesRow : OpenClaim := { program := "ytebhflmmdfbjkaadoor", sum := "254c698e124c4512fa41606f78a2881af747cd3262567ededb813bf81723971e", func := "almucantar/almucantarlaw07.ArctrigSines", spec := "arctrigSines", inPlace := ["math/bits.Add64", "math/bits.Sub64"], unfollowed := true, recurses := true, named := ["almucantar/digits.radian", "almucantar/digits.inverses", "math/bits.divideError", "math/bits.overflowError"], apart := false, laid := [("almucantar/digits.radian", laid_almucantar_digits_radian), ("almucantar/digits.inverses", laid_almucantar_digits_inverses)] }
def ArctrigSinesSaid : Prop := arctrigSinesRow.holds Tryd.pinned (OpenSpec.ofChange arctrigSinesSpec)

/-- ITS FALSE NEIGHBOUR: 'it returns false'. Refute it at one input. -/
def arctrigSinesWrong : ChangeSpec := { name := "arctrigSines", fn := fun _ => fun
  | [d] => { results := [.lit (.bool false)], args := [d] }
  | _ => none }
def ArctrigSinesWrongFalsely : Prop := arctrigSinesRow.holds Tryd.pinned (OpenSpec.ofChange arctrigSinesWrong)

/-- 'almucantarlaw07.ArctrigBearings': WHATEVER THE INPUT: true; the input reads as it did. -/
def arctrigBearingsSpec : ChangeSpec := { name := "arctrigBearings", fn := fun _ => fun
  | [d1, d2] => { results := [.lit (.bool true)], args := [d1, d2] }
  | _ => none }
def arctrigBearingsRow : OpenClaim := { program := "ytebhflmmdfbjkaadoor", sum := "254c698e124c4512fa41606f78a2881af747cd3262567ededb813bf81723971e", func := "almucantar/almucantarlaw07.ArctrigBearings", spec := "arctrigBearings", inPlace := ["math/bits.Add64", "math/bits.Sub64"], unfollowed := true, recurses := true, named := ["almucantar/digits.radian", "almucantar/digits.inverses", "math/bits.divideError", "math/bits.overflowError"], apart := false, laid := [("almucantar/digits.radian", laid_almucantar_digits_radian), ("almucantar/digits.inverses", laid_almucantar_digits_inverses)] }
def ArctrigBearingsSaid : Prop := arctrigBearingsRow.holds Tryd.pinned (OpenSpec.ofChange arctrigBearingsSpec)

/-- ITS FALSE NEIGHBOUR: 'it returns false'. Refute it at one input. -/
def arctrigBearingsWrong : ChangeSpec := { name := "arctrigBearings", fn := fun _ => fun
  | [d1, d2] => { results := [.lit (.bool false)], args := [d1, d2] }
  | _ => none }
def ArctrigBearingsWrongFalsely : Prop := arctrigBearingsRow.holds Tryd.pinned (OpenSpec.ofChange arctrigBearingsWrong)

/-- 'almucantarlaw07.ArctrigLeast': WHATEVER THE INPUT: true; the input reads as it did. -/
def arctrigLeastSpec : ChangeSpec := { name := "arctrigLeast", fn := fun _ => fun
  | [d] => { results := [.lit (.bool true)], args := [d] }
  | _ => none }
def arctrigLeastRow : OpenClaim := { program := "ytebhflmmdfbjkaadoor", sum := "254c698e124c4512fa41606f78a2881af747cd3262567ededb813bf81723971e", func := "almucantar/almucantarlaw07.ArctrigLeast", spec := "arctrigLeast", inPlace := ["math/bits.Add64", "math/bits.Sub64"], unfollowed := true, recurses := true, named := ["almucantar/digits.radian", "almucantar/digits.inverses", "math/bits.divideError", "math/bits.overflowError"], apart := false, laid := [("almucantar/digits.radian", laid_almucantar_digits_radian), ("almucantar/digits.inverses", laid_almucantar_digits_inverses)] }
def ArctrigLeastSaid : Prop := arctrigLeastRow.holds Tryd.pinned (OpenSpec.ofChange arctrigLeastSpec)

/-- ITS FALSE NEIGHBOUR: 'it returns false'. Refute it at one input. -/
def arctrigLeastWrong : ChangeSpec := { name := "arctrigLeast", fn := fun _ => fun
  | [d] => { results := [.lit (.bool false)], args := [d] }
  | _ => none }
def ArctrigLeastWrongFalsely : Prop := arctrigLeastRow.holds Tryd.pinned (OpenSpec.ofChange arctrigLeastWrong)

/-- 'almucantarlaw07.ArctrigOpposite': WHATEVER THE INPUT: true; the input reads as it did. -/
def arctrigOppositeSpec : ChangeSpec := { name := "arctrigOpposite", fn := fun _ => fun
  | [d] => { results := [.lit (.bool true)], args := [d] }
  | _ => none }
def arctrigOppositeRow : OpenClaim := { program := "ytebhflmmdfbjkaadoor", sum := "254c698e124c4512fa41606f78a2881af747cd3262567ededb813bf81723971e", func := "almucantar/almucantarlaw07.ArctrigOpposite", spec := "arctrigOpposite", inPlace := ["math/bits.Add64", "math/bits.Sub64"], unfollowed := true, recurses := true, named := ["almucantar/digits.radian", "almucantar/digits.inverses", "math/bits.divideError", "math/bits.overflowError"], apart := false, laid := [("almucantar/digits.radian", laid_almucantar_digits_radian), ("almucantar/digits.inverses", laid_almucantar_digits_inverses)] }
def ArctrigOppositeSaid : Prop := arctrigOppositeRow.holds Tryd.pinned (OpenSpec.ofChange arctrigOppositeSpec)

/-- ITS FALSE NEIGHBOUR: 'it returns false'. Refute it at one input. -/
def arctrigOppositeWrong : ChangeSpec := { name := "arctrigOpposite", fn := fun _ => fun
  | [d] => { results := [.lit (.bool false)], args := [d] }
  | _ => none }
def ArctrigOppositeWrongFalsely : Prop := arctrigOppositeRow.holds Tryd.pinned (OpenSpec.ofChange arctrigOppositeWrong)

/-- 'almucantarlaw07.ArctrigBack': WHATEVER THE INPUT: true; the input reads as it did. -/
def arctrigBackSpec : ChangeSpec := { name := "arctrigBack", fn := fun _ => fun
  | [d1, d2] => { results := [.lit (.bool true)], args := [d1, d2] }
  | _ => none }
def arctrigBackRow : OpenClaim := { program := "ytebhflmmdfbjkaadoor", sum := "254c698e124c4512fa41606f78a2881af747cd3262567ededb813bf81723971e", func := "almucantar/almucantarlaw07.ArctrigBack", spec := "arctrigBack", inPlace := ["math/bits.Add64", "math/bits.Sub64"], unfollowed := true, recurses := true, named := ["almucantar/digits.radian", "almucantar/digits.inverses", "math/bits.divideError", "math/bits.overflowError"], apart := false, laid := [("almucantar/digits.radian", laid_almucantar_digits_radian), ("almucantar/digits.inverses", laid_almucantar_digits_inverses)] }
def ArctrigBackSaid : Prop := arctrigBackRow.holds Tryd.pinned (OpenSpec.ofChange arctrigBackSpec)

/-- ITS FALSE NEIGHBOUR: 'it returns false'. Refute it at one input. -/
def arctrigBackWrong : ChangeSpec := { name := "arctrigBack", fn := fun _ => fun
  | [d1, d2] => { results := [.lit (.bool false)], args := [d1, d2] }
  | _ => none }
def ArctrigBackWrongFalsely : Prop := arctrigBackRow.holds Tryd.pinned (OpenSpec.ofChange arctrigBackWrong)

/-- 'almucantarlaw07.ArctrigGrows': WHATEVER THE INPUT: true; the input reads as it did. -/
def arctrigGrowsSpec : ChangeSpec := { name := "arctrigGrows", fn := fun _ => fun
  | [d1, d2, d3, d4] => { results := [.lit (.bool true)], args := [d1, d2, d3, d4] }
  | _ => none }
def arctrigGrowsRow : OpenClaim := { program := "ytebhflmmdfbjkaadoor", sum := "254c698e124c4512fa41606f78a2881af747cd3262567ededb813bf81723971e", func := "almucantar/almucantarlaw07.ArctrigGrows", spec := "arctrigGrows", inPlace := ["math/bits.Add64", "math/bits.Sub64"], unfollowed := true, recurses := true, named := ["almucantar/digits.radian", "almucantar/digits.inverses", "math/bits.divideError", "math/bits.overflowError"], apart := false, laid := [("almucantar/digits.radian", laid_almucantar_digits_radian), ("almucantar/digits.inverses", laid_almucantar_digits_inverses)] }
def ArctrigGrowsSaid : Prop := arctrigGrowsRow.holds Tryd.pinned (OpenSpec.ofChange arctrigGrowsSpec)

/-- ITS FALSE NEIGHBOUR: 'it returns false'. Refute it at one input. -/
def arctrigGrowsWrong : ChangeSpec := { name := "arctrigGrows", fn := fun _ => fun
  | [d1, d2, d3, d4] => { results := [.lit (.bool false)], args := [d1, d2, d3, d4] }
  | _ => none }
def ArctrigGrowsWrongFalsely : Prop := arctrigGrowsRow.holds Tryd.pinned (OpenSpec.ofChange arctrigGrowsWrong)

/-- 'almucantarlaw07.ArctrigTurns': WHATEVER THE INPUT: true; the input reads as it did. -/
def arctrigTurnsSpec : ChangeSpec := { name := "arctrigTurns", fn := fun _ => fun
  | [d1, d2, d3] => { results := [.lit (.bool true)], args := [d1, d2, d3] }
  | _ => none }
def arctrigTurnsRow : OpenClaim := { program := "ytebhflmmdfbjkaadoor", sum := "254c698e124c4512fa41606f78a2881af747cd3262567ededb813bf81723971e", func := "almucantar/almucantarlaw07.ArctrigTurns", spec := "arctrigTurns", inPlace := ["math/bits.Add64", "math/bits.Sub64"], unfollowed := true, recurses := true, named := ["almucantar/digits.radian", "almucantar/digits.inverses", "math/bits.divideError", "math/bits.overflowError"], apart := false, laid := [("almucantar/digits.radian", laid_almucantar_digits_radian), ("almucantar/digits.inverses", laid_almucantar_digits_inverses)] }
def ArctrigTurnsSaid : Prop := arctrigTurnsRow.holds Tryd.pinned (OpenSpec.ofChange arctrigTurnsSpec)

/-- ITS FALSE NEIGHBOUR: 'it returns false'. Refute it at one input. -/
def arctrigTurnsWrong : ChangeSpec := { name := "arctrigTurns", fn := fun _ => fun
  | [d1, d2, d3] => { results := [.lit (.bool false)], args := [d1, d2, d3] }
  | _ => none }
def ArctrigTurnsWrongFalsely : Prop := arctrigTurnsRow.holds Tryd.pinned (OpenSpec.ofChange arctrigTurnsWrong)

/-- 'almucantarlaw07.ArctrigDirections': WHATEVER THE INPUT: true; the input reads as it did. -/
def arctrigDirectionsSpec : ChangeSpec := { name := "arctrigDirections", fn := fun _ => fun
  | [d] => { results := [.lit (.bool true)], args := [d] }
  | _ => none }
def arctrigDirectionsRow : OpenClaim := { program := "ytebhflmmdfbjkaadoor", sum := "254c698e124c4512fa41606f78a2881af747cd3262567ededb813bf81723971e", func := "almucantar/almucantarlaw07.ArctrigDirections", spec := "arctrigDirections", inPlace := ["math/bits.Add64", "math/bits.Sub64"], unfollowed := true, recurses := true, named := ["almucantar/digits.radian", "almucantar/digits.inverses", "math/bits.divideError", "math/bits.overflowError"], apart := false, laid := [("almucantar/digits.radian", laid_almucantar_digits_radian), ("almucantar/digits.inverses", laid_almucantar_digits_inverses)] }
def ArctrigDirectionsSaid : Prop := arctrigDirectionsRow.holds Tryd.pinned (OpenSpec.ofChange arctrigDirectionsSpec)

/-- ITS FALSE NEIGHBOUR: 'it returns false'. Refute it at one input. -/
def arctrigDirectionsWrong : ChangeSpec := { name := "arctrigDirections", fn := fun _ => fun
  | [d] => { results := [.lit (.bool false)], args := [d] }
  | _ => none }
def ArctrigDirectionsWrongFalsely : Prop := arctrigDirectionsRow.holds Tryd.pinned (OpenSpec.ofChange arctrigDirectionsWrong)

/- THE SECOND FORM. 'bulk': how many values and letters a reading holds, each counted each time it is reached (what is shared counts as often as it is met; a slice's spare places count too). A statement '..UptoSaid' is the law's where the arguments, and the package variables that the reading takes, are together of bulk at most 1048576: NARROWER than '..Said'. Prove '..Said' where nothing that the law and all that it calls make is longer than what came in: it says more and counts as full. Else prove '..UptoSaid'. A law counts once. -/
mutual
def uptoBulk {H : Type} : DataW H → Nat
  | .lit (.string bytes) => bytes.length + 1
  | .lit _ => 1
  | .nil => 1
  | .ptr d => uptoBulk d + 1
  | .slice elems spare => uptoBulkAll elems + uptoBulkAll spare + 1
  | .agg parts => uptoBulkAll parts + 1
  | .iface _ d => uptoBulk d + 1
  | .map entries => uptoBulkEntries entries + 1
  | .held _ => 1
def uptoBulkAll {H : Type} : List (DataW H) → Nat
  | [] => 0
  | d :: r => uptoBulk d + uptoBulkAll r
def uptoBulkEntries {H : Type} : List (Lit × DataW H) → Nat
  | [] => 0
  | x :: r => uptoBulkEntry x + uptoBulkEntries r
def uptoBulkEntry {H : Type} : Lit × DataW H → Nat
  | (.string bytes, d) => bytes.length + uptoBulk d + 1
  | (_, d) => uptoBulk d + 1
 end
def uptoSmall : (H : Type) → List (DataW H) → Bool := fun _ ds => decide (uptoBulkAll ds ≤ 1048576)
def OpenSpec.upto (s : _root_.Go.ChangeSpec) : _root_.Go.OpenSpec := { _root_.Go.OpenSpec.ofChange s with cond := some uptoSmall }

/-- 'almucantarlaw07.ArctrigSines', WHERE WHAT IT READS IS OF BULK AT MOST 1048576: true; the input reads as it did. -/
def arctrigSinesUptoRow : OpenClaim := { program := "ytebhflmmdfbjkaadoor", sum := "254c698e124c4512fa41606f78a2881af747cd3262567ededb813bf81723971e", func := "almucantar/almucantarlaw07.ArctrigSines", spec := "arctrigSines", inPlace := ["math/bits.Add64", "math/bits.Sub64"], unfollowed := true, recurses := true, named := ["almucantar/digits.radian", "almucantar/digits.inverses", "math/bits.divideError", "math/bits.overflowError"], apart := false, laid := [("almucantar/digits.radian", laid_almucantar_digits_radian), ("almucantar/digits.inverses", laid_almucantar_digits_inverses)], narrowed := true }
def ArctrigSinesUptoSaid : Prop := arctrigSinesUptoRow.holds Tryd.pinned (OpenSpec.upto arctrigSinesSpec)

/-- 'almucantarlaw07.ArctrigBearings', WHERE WHAT IT READS IS OF BULK AT MOST 1048576: true; the input reads as it did. -/
def arctrigBearingsUptoRow : OpenClaim := { program := "ytebhflmmdfbjkaadoor", sum := "254c698e124c4512fa41606f78a2881af747cd3262567ededb813bf81723971e", func := "almucantar/almucantarlaw07.ArctrigBearings", spec := "arctrigBearings", inPlace := ["math/bits.Add64", "math/bits.Sub64"], unfollowed := true, recurses := true, named := ["almucantar/digits.radian", "almucantar/digits.inverses", "math/bits.divideError", "math/bits.overflowError"], apart := false, laid := [("almucantar/digits.radian", laid_almucantar_digits_radian), ("almucantar/digits.inverses", laid_almucantar_digits_inverses)], narrowed := true }
def ArctrigBearingsUptoSaid : Prop := arctrigBearingsUptoRow.holds Tryd.pinned (OpenSpec.upto arctrigBearingsSpec)

/-- 'almucantarlaw07.ArctrigLeast', WHERE WHAT IT READS IS OF BULK AT MOST 1048576: true; the input reads as it did. -/
def arctrigLeastUptoRow : OpenClaim := { program := "ytebhflmmdfbjkaadoor", sum := "254c698e124c4512fa41606f78a2881af747cd3262567ededb813bf81723971e", func := "almucantar/almucantarlaw07.ArctrigLeast", spec := "arctrigLeast", inPlace := ["math/bits.Add64", "math/bits.Sub64"], unfollowed := true, recurses := true, named := ["almucantar/digits.radian", "almucantar/digits.inverses", "math/bits.divideError", "math/bits.overflowError"], apart := false, laid := [("almucantar/digits.radian", laid_almucantar_digits_radian), ("almucantar/digits.inverses", laid_almucantar_digits_inverses)], narrowed := true }
def ArctrigLeastUptoSaid : Prop := arctrigLeastUptoRow.holds Tryd.pinned (OpenSpec.upto arctrigLeastSpec)

/-- 'almucantarlaw07.ArctrigOpposite', WHERE WHAT IT READS IS OF BULK AT MOST 1048576: true; the input reads as it did. -/
def arctrigOppositeUptoRow : OpenClaim := { program := "ytebhflmmdfbjkaadoor", sum := "254c698e124c4512fa41606f78a2881af747cd3262567ededb813bf81723971e", func := "almucantar/almucantarlaw07.ArctrigOpposite", spec := "arctrigOpposite", inPlace := ["math/bits.Add64", "math/bits.Sub64"], unfollowed := true, recurses := true, named := ["almucantar/digits.radian", "almucantar/digits.inverses", "math/bits.divideError", "math/bits.overflowError"], apart := false, laid := [("almucantar/digits.radian", laid_almucantar_digits_radian), ("almucantar/digits.inverses", laid_almucantar_digits_inverses)], narrowed := true }
def ArctrigOppositeUptoSaid : Prop := arctrigOppositeUptoRow.holds Tryd.pinned (OpenSpec.upto arctrigOppositeSpec)

/-- 'almucantarlaw07.ArctrigBack', WHERE WHAT IT READS IS OF BULK AT MOST 1048576: true; the input reads as it did. -/
def arctrigBackUptoRow : OpenClaim := { program := "ytebhflmmdfbjkaadoor", sum := "254c698e124c4512fa41606f78a2881af747cd3262567ededb813bf81723971e", func := "almucantar/almucantarlaw07.ArctrigBack", spec := "arctrigBack", inPlace := ["math/bits.Add64", "math/bits.Sub64"], unfollowed := true, recurses := true, named := ["almucantar/digits.radian", "almucantar/digits.inverses", "math/bits.divideError", "math/bits.overflowError"], apart := false, laid := [("almucantar/digits.radian", laid_almucantar_digits_radian), ("almucantar/digits.inverses", laid_almucantar_digits_inverses)], narrowed := true }
def ArctrigBackUptoSaid : Prop := arctrigBackUptoRow.holds Tryd.pinned (OpenSpec.upto arctrigBackSpec)

/-- 'almucantarlaw07.ArctrigGrows', WHERE WHAT IT READS IS OF BULK AT MOST 1048576: true; the input reads as it did. -/
def arctrigGrowsUptoRow : OpenClaim := { program := "ytebhflmmdfbjkaadoor", sum := "254c698e124c4512fa41606f78a2881af747cd3262567ededb813bf81723971e", func := "almucantar/almucantarlaw07.ArctrigGrows", spec := "arctrigGrows", inPlace := ["math/bits.Add64", "math/bits.Sub64"], unfollowed := true, recurses := true, named := ["almucantar/digits.radian", "almucantar/digits.inverses", "math/bits.divideError", "math/bits.overflowError"], apart := false, laid := [("almucantar/digits.radian", laid_almucantar_digits_radian), ("almucantar/digits.inverses", laid_almucantar_digits_inverses)], narrowed := true }
def ArctrigGrowsUptoSaid : Prop := arctrigGrowsUptoRow.holds Tryd.pinned (OpenSpec.upto arctrigGrowsSpec)

/-- 'almucantarlaw07.ArctrigTurns', WHERE WHAT IT READS IS OF BULK AT MOST 1048576: true; the input reads as it did. -/
def arctrigTurnsUptoRow : OpenClaim := { program := "ytebhflmmdfbjkaadoor", sum := "254c698e124c4512fa41606f78a2881af747cd3262567ededb813bf81723971e", func := "almucantar/almucantarlaw07.ArctrigTurns", spec := "arctrigTurns", inPlace := ["math/bits.Add64", "math/bits.Sub64"], unfollowed := true, recurses := true, named := ["almucantar/digits.radian", "almucantar/digits.inverses", "math/bits.divideError", "math/bits.overflowError"], apart := false, laid := [("almucantar/digits.radian", laid_almucantar_digits_radian), ("almucantar/digits.inverses", laid_almucantar_digits_inverses)], narrowed := true }
def ArctrigTurnsUptoSaid : Prop := arctrigTurnsUptoRow.holds Tryd.pinned (OpenSpec.upto arctrigTurnsSpec)

/-- 'almucantarlaw07.ArctrigDirections', WHERE WHAT IT READS IS OF BULK AT MOST 1048576: true; the input reads as it did. -/
def arctrigDirectionsUptoRow : OpenClaim := { program := "ytebhflmmdfbjkaadoor", sum := "254c698e124c4512fa41606f78a2881af747cd3262567ededb813bf81723971e", func := "almucantar/almucantarlaw07.ArctrigDirections", spec := "arctrigDirections", inPlace := ["math/bits.Add64", "math/bits.Sub64"], unfollowed := true, recurses := true, named := ["almucantar/digits.radian", "almucantar/digits.inverses", "math/bits.divideError", "math/bits.overflowError"], apart := false, laid := [("almucantar/digits.radian", laid_almucantar_digits_radian), ("almucantar/digits.inverses", laid_almucantar_digits_inverses)], narrowed := true }
def ArctrigDirectionsUptoSaid : Prop := arctrigDirectionsUptoRow.holds Tryd.pinned (OpenSpec.upto arctrigDirectionsSpec)

end Rows
end Go.Proofs.YtebhflmmdfbjkaaDoor
