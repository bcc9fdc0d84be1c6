/-
  NARROWER THAN 'FOR EVERY INPUT', by the rows' own cells (each row's printed sentence says how): ArctrigBearings: laid · PlaceTurned: laid.
  DERIVED. THE GIVEN ROWS OF THIS SEAT. 2 by the template 'for every input the law returns true; each argument reads behind the call as it read before'; 0 by the template 'total and deterministic' (their statements: YtndcjldnnfhedaaDoorTotals.lean).
  GIVEN WITH THE SEED: the statements are not yours to turn. If you find one false, say at which input.
  Laid BY PROGRAM, IN A SANDBOX (cutbox-rows.mjs): the forced cells as the released guide's own fill.sh prints them over the translation dee937819d3de9a8… (all of the seat's roots in one cut). By AI agents, Wed Nov 11 2026. No macro, syntax, notation, axiom, sorry.
-/
import Derived.Test.YtndcjldnnfhedaaDoorChecked
import GoSem.Claim
import GoSem.ClaimJoined
import GoSem.ClaimMapViews
import Derived.JoinedTies
import Derived.KernelRfl
namespace Go.Proofs.YtndcjldnnfhedaaDoor
/- THE CELL 'sum', in the pinned program and in every row, IS THE sha256 OF THE DUMP (.gsa) THAT YtndcjldnnfhedaaDoorProg.lean LOADS. Nothing in Lean hashes anything: it is a label: what it is worth is what the hold of that sum in a sandbox is worth. -/
noncomputable def Tryd.pinned : Pinned := { name := "ytndcjldnnfhedaadoor", sum := "dee937819d3de9a840273140f4bd8de66c40094850b2d89cbac7ae98d6fc23d2", checked := Tryd.checked }
namespace Rows
def none {H : Type} : Left H := { results := [], args := [] }

/- WHAT THE LISTED PACKAGE-LEVEL VARIABLES READ AS WHEN THE CALL BEGINS. Each datum BY PROGRAM (the guide's laid-datum.mjs) off the statement by which the dump's own 'gosem.cut.vars' lays the variable. In a bare row this is a premise. The card (YtndcjldnnfhedaaDoorCards.lean) ties it to the program's text. -/
def laid_almucantar_digits_radian {H : Type} : DataW H := .agg [.lit (.int .u64 5365940339316), .lit (.int .u64 7144251595963602554)]
def laid_almucantar_digits_inverses {H : Type} : DataW H := .agg [.agg [.lit (.int .u64 9223372036854775808), .lit (.int .u64 0)], .agg [.lit (.int .u64 3074457345618258602), .lit (.int .u64 12297829382473034410)], .agg [.lit (.int .u64 768614336404564650), .lit (.int .u64 12297829382473034410)], .agg [.lit (.int .u64 153722867280912930), .lit (.int .u64 2459565876494606882)], .agg [.lit (.int .u64 25620477880152155), .lit (.int .u64 409927646082434480)], .agg [.lit (.int .u64 3660068268593165), .lit (.int .u64 58561092297490640)], .agg [.lit (.int .u64 457508533574145), .lit (.int .u64 11536535182605656090)], .agg [.lit (.int .u64 50834281508238), .lit (.int .u64 7430751933748256770)], .agg [.lit (.int .u64 5083428150823), .lit (.int .u64 15500470452342466969)], .agg [.lit (.int .u64 462129831893), .lit (.int .u64 1409133677485678815)], .agg [.lit (.int .u64 38510819324), .lit (.int .u64 7803571170502786407)], .agg [.lit (.int .u64 2962370717), .lit (.int .u64 4857215645510110865)], .agg [.lit (.int .u64 211597908), .lit (.int .u64 6935066858146990638)], .agg [.lit (.int .u64 14106527), .lit (.int .u64 4151686605285043032)], .agg [.lit (.int .u64 881657), .lit (.int .u64 17553302981933019829)], .agg [.lit (.int .u64 51862), .lit (.int .u64 4287855011944804392)], .agg [.lit (.int .u64 2881), .lit (.int .u64 4337490628154611714)], .agg [.lit (.int .u64 151), .lit (.int .u64 11878864184877327952)], .agg [.lit (.int .u64 7), .lit (.int .u64 10739652449784119786)], .agg [.lit (.int .u64 0), .lit (.int .u64 6660326712654808623)], .agg [.lit (.int .u64 0), .lit (.int .u64 302742123302491301)], .agg [.lit (.int .u64 0), .lit (.int .u64 13162701013151795)], .agg [.lit (.int .u64 0), .lit (.int .u64 548445875547991)], .agg [.lit (.int .u64 0), .lit (.int .u64 21937835021919)], .agg [.lit (.int .u64 0), .lit (.int .u64 843762885458)], .agg [.lit (.int .u64 0), .lit (.int .u64 31250477239)], .agg [.lit (.int .u64 0), .lit (.int .u64 1116088472)], .agg [.lit (.int .u64 0), .lit (.int .u64 38485809)]]
def laid_math_bits_deBruijn32tab {H : Type} : DataW H := .agg [.lit (.int .u8 0), .lit (.int .u8 1), .lit (.int .u8 28), .lit (.int .u8 2), .lit (.int .u8 29), .lit (.int .u8 14), .lit (.int .u8 24), .lit (.int .u8 3), .lit (.int .u8 30), .lit (.int .u8 22), .lit (.int .u8 20), .lit (.int .u8 15), .lit (.int .u8 25), .lit (.int .u8 17), .lit (.int .u8 4), .lit (.int .u8 8), .lit (.int .u8 31), .lit (.int .u8 27), .lit (.int .u8 13), .lit (.int .u8 23), .lit (.int .u8 21), .lit (.int .u8 19), .lit (.int .u8 16), .lit (.int .u8 7), .lit (.int .u8 26), .lit (.int .u8 12), .lit (.int .u8 18), .lit (.int .u8 6), .lit (.int .u8 11), .lit (.int .u8 5), .lit (.int .u8 10), .lit (.int .u8 9)]
def laid_math_bits_deBruijn64tab {H : Type} : DataW H := .agg [.lit (.int .u8 0), .lit (.int .u8 1), .lit (.int .u8 56), .lit (.int .u8 2), .lit (.int .u8 57), .lit (.int .u8 49), .lit (.int .u8 28), .lit (.int .u8 3), .lit (.int .u8 61), .lit (.int .u8 58), .lit (.int .u8 42), .lit (.int .u8 50), .lit (.int .u8 38), .lit (.int .u8 29), .lit (.int .u8 17), .lit (.int .u8 4), .lit (.int .u8 62), .lit (.int .u8 47), .lit (.int .u8 59), .lit (.int .u8 36), .lit (.int .u8 45), .lit (.int .u8 43), .lit (.int .u8 51), .lit (.int .u8 22), .lit (.int .u8 53), .lit (.int .u8 39), .lit (.int .u8 33), .lit (.int .u8 30), .lit (.int .u8 24), .lit (.int .u8 18), .lit (.int .u8 12), .lit (.int .u8 5), .lit (.int .u8 63), .lit (.int .u8 55), .lit (.int .u8 48), .lit (.int .u8 27), .lit (.int .u8 60), .lit (.int .u8 41), .lit (.int .u8 37), .lit (.int .u8 16), .lit (.int .u8 46), .lit (.int .u8 35), .lit (.int .u8 44), .lit (.int .u8 21), .lit (.int .u8 52), .lit (.int .u8 32), .lit (.int .u8 23), .lit (.int .u8 11), .lit (.int .u8 54), .lit (.int .u8 26), .lit (.int .u8 40), .lit (.int .u8 15), .lit (.int .u8 34), .lit (.int .u8 20), .lit (.int .u8 31), .lit (.int .u8 10), .lit (.int .u8 25), .lit (.int .u8 14), .lit (.int .u8 19), .lit (.int .u8 9), .lit (.int .u8 13), .lit (.int .u8 8), .lit (.int .u8 7), .lit (.int .u8 6)]
def laid_internal_strconv_uint64pow10 {H : Type} : DataW H := .agg [.lit (.int .u64 1), .lit (.int .u64 10), .lit (.int .u64 100), .lit (.int .u64 1000), .lit (.int .u64 10000), .lit (.int .u64 100000), .lit (.int .u64 1000000), .lit (.int .u64 10000000), .lit (.int .u64 100000000), .lit (.int .u64 1000000000), .lit (.int .u64 10000000000), .lit (.int .u64 100000000000), .lit (.int .u64 1000000000000), .lit (.int .u64 10000000000000), .lit (.int .u64 100000000000000), .lit (.int .u64 1000000000000000), .lit (.int .u64 10000000000000000), .lit (.int .u64 100000000000000000), .lit (.int .u64 1000000000000000000), .lit (.int .u64 10000000000000000000)]
def laid_almucantar_place_all {H : Type} : DataW H := .agg [.lit (.int .i64 (-10800000)), .lit (.int .i64 10800000)]

/-- 'almucantarlaw07.ArctrigBearings': WHATEVER THE INPUT: true; the input reads as it did. -/
def arctrigBearingsSpec : ChangeSpec := { name := "arctrigBearings", fn := fun _ => fun
  | [d1, d2] => { results := [.lit (.bool true)], args := [d1, d2] }
  | _ => none }
def arctrigBearingsRow : OpenClaim := { program := "ytndcjldnnfhedaadoor", sum := "dee937819d3de9a840273140f4bd8de66c40094850b2d89cbac7ae98d6fc23d2", func := "almucantar/almucantarlaw07.ArctrigBearings", spec := "arctrigBearings", inPlace := ["math/bits.Add64", "math/bits.Sub64"], unfollowed := true, recurses := true, named := ["almucantar/digits.radian", "almucantar/digits.inverses", "math/bits.divideError", "math/bits.overflowError"], apart := false, laid := [("almucantar/digits.radian", laid_almucantar_digits_radian), ("almucantar/digits.inverses", laid_almucantar_digits_inverses)] }
def ArctrigBearingsSaid : Prop := arctrigBearingsRow.holds Tryd.pinned (OpenSpec.ofChange arctrigBearingsSpec)

/-- ITS FALSE NEIGHBOUR: 'it returns false'. Refute it at one input. -/
def arctrigBearingsWrong : ChangeSpec := { name := "arctrigBearings", fn := fun _ => fun
  | [d1, d2] => { results := [.lit (.bool false)], args := [d1, d2] }
  | _ => none }
def ArctrigBearingsWrongFalsely : Prop := arctrigBearingsRow.holds Tryd.pinned (OpenSpec.ofChange arctrigBearingsWrong)

/-- 'almucantarlaw08.PlaceTurned': WHATEVER THE INPUT: true; the input reads as it did. -/
def placeTurnedSpec : ChangeSpec := { name := "placeTurned", fn := fun _ => fun
  | [d1, d2, d3, d4] => { results := [.lit (.bool true)], args := [d1, d2, d3, d4] }
  | _ => none }
def placeTurnedRow : OpenClaim := { program := "ytndcjldnnfhedaadoor", sum := "dee937819d3de9a840273140f4bd8de66c40094850b2d89cbac7ae98d6fc23d2", func := "almucantar/almucantarlaw08.PlaceTurned", spec := "placeTurned", inPlace := ["internal/abi.NoEscape", "internal/bytealg.MakeNoZero"], named := ["almucantar/place.all", "internal/strconv.uint64pow10", "math/bits.deBruijn32tab", "math/bits.deBruijn64tab"], apart := false, laid := [("math/bits.deBruijn32tab", laid_math_bits_deBruijn32tab), ("math/bits.deBruijn64tab", laid_math_bits_deBruijn64tab), ("internal/strconv.uint64pow10", laid_internal_strconv_uint64pow10), ("almucantar/place.all", laid_almucantar_place_all)] }
def PlaceTurnedSaid : Prop := placeTurnedRow.holds Tryd.pinned (OpenSpec.ofChange placeTurnedSpec)

/-- ITS FALSE NEIGHBOUR: 'it returns false'. Refute it at one input. -/
def placeTurnedWrong : ChangeSpec := { name := "placeTurned", fn := fun _ => fun
  | [d1, d2, d3, d4] => { results := [.lit (.bool false)], args := [d1, d2, d3, d4] }
  | _ => none }
def PlaceTurnedWrongFalsely : Prop := placeTurnedRow.holds Tryd.pinned (OpenSpec.ofChange placeTurnedWrong)

/- THE SECOND FORM. 'bulk': how many values and letters a reading holds, each counted each time it is reached (what is shared counts as often as it is met; a slice's spare places count too). A statement '..UptoSaid' is the law's where the arguments, and the package variables that the reading takes, are together of bulk at most 1048576: NARROWER than '..Said'. Prove '..Said' where nothing that the law and all that it calls make is longer than what came in: it says more and counts as full. Else prove '..UptoSaid'. A law counts once. -/
mutual
def uptoBulk {H : Type} : DataW H → Nat
  | .lit (.string bytes) => bytes.length + 1
  | .lit _ => 1
  | .nil => 1
  | .ptr d => uptoBulk d + 1
  | .slice elems spare => uptoBulkAll elems + uptoBulkAll spare + 1
  | .agg parts => uptoBulkAll parts + 1
  | .iface _ d => uptoBulk d + 1
  | .map entries => uptoBulkEntries entries + 1
  | .held _ => 1
def uptoBulkAll {H : Type} : List (DataW H) → Nat
  | [] => 0
  | d :: r => uptoBulk d + uptoBulkAll r
def uptoBulkEntries {H : Type} : List (Lit × DataW H) → Nat
  | [] => 0
  | x :: r => uptoBulkEntry x + uptoBulkEntries r
def uptoBulkEntry {H : Type} : Lit × DataW H → Nat
  | (.string bytes, d) => bytes.length + uptoBulk d + 1
  | (_, d) => uptoBulk d + 1
 end
def uptoSmall : (H : Type) → List (DataW H) → Bool := fun _ ds => decide (uptoBulkAll ds ≤ 1048576)
def OpenSpec.upto (s : _root_.Go.ChangeSpec) : _root_.Go.OpenSpec := { _root_.Go.OpenSpec.ofChange s with cond := some uptoSmall }

/-- 'almucantarlaw07.ArctrigBearings', WHERE WHAT IT READS IS OF BULK AT MOST 1048576: true; the input reads as it did. -/
def arctrigBearingsUptoRow : OpenClaim := { program := "ytndcjldnnfhedaadoor", sum := "dee937819d3de9a840273140f4bd8de66c40094850b2d89cbac7ae98d6fc23d2", func := "almucantar/almucantarlaw07.ArctrigBearings", spec := "arctrigBearings", inPlace := ["math/bits.Add64", "math/bits.Sub64"], unfollowed := true, recurses := true, named := ["almucantar/digits.radian", "almucantar/digits.inverses", "math/bits.divideError", "math/bits.overflowError"], apart := false, laid := [("almucantar/digits.radian", laid_almucantar_digits_radian), ("almucantar/digits.inverses", laid_almucantar_digits_inverses)], narrowed := true }
def ArctrigBearingsUptoSaid : Prop := arctrigBearingsUptoRow.holds Tryd.pinned (OpenSpec.upto arctrigBearingsSpec)

/-- 'almucantarlaw08.PlaceTurned', WHERE WHAT IT READS IS OF BULK AT MOST 1048576: true; the input reads as it did. -/
def placeTurnedUptoRow : OpenClaim := { program := "ytndcjldnnfhedaadoor", sum := "dee937819d3de9a840273140f4bd8de66c40094850b2d89cbac7ae98d6fc23d2", func := "almucantar/almucantarlaw08.PlaceTurned", spec := "placeTurned", inPlace := ["internal/abi.NoEscape", "internal/bytealg.MakeNoZero"], named := ["almucantar/place.all", "internal/strconv.uint64pow10", "math/bits.deBruijn32tab", "math/bits.deBruijn64tab"], apart := false, laid := [("math/bits.deBruijn32tab", laid_math_bits_deBruijn32tab), ("math/bits.deBruijn64tab", laid_math_bits_deBruijn64tab), ("internal/strconv.uint64pow10", laid_internal_strconv_uint64pow10), ("almucantar/place.all", laid_almucantar_place_all)], narrowed := true }
def PlaceTurnedUptoSaid : Prop := placeTurnedUptoRow.holds Tryd.pinned (OpenSpec.upto placeTurnedSpec)

end Rows
end Go.Proofs.YtndcjldnnfhedaaDoor
