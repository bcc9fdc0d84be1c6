/-
  NARROWER THAN 'FOR EVERY INPUT', by the rows' own cells (each row's printed sentence says how): TrigSines: laid · TrigHaversines: laid · TrigBelows: laid · TrigTurns: laid · TrigParts: laid · TrigOrder: laid · TrigSquares: laid · TrigSums: laid · TrigThirds: laid.
  DERIVED. THE GIVEN ROWS OF THIS SEAT. 9 by the template 'for every input the law returns true; each argument reads behind the call as it read before'; 0 by the template 'total and deterministic' (their statements: YtglmkpnnbgkndaaDoorTotals.lean).
  GIVEN WITH THE SEED: the statements are not yours to turn. If you find one false, say at which input.
  Laid BY PROGRAM, IN A SANDBOX (cutbox-rows.mjs): the forced cells as the released guide's own fill.sh prints them over the translation 998a8c35405ed138… (all of the seat's roots in one cut). By AI agents, Wed Nov 11 2026. No macro, syntax, notation, axiom, sorry.
-/
import Derived.Test.YtglmkpnnbgkndaaDoorChecked
import GoSem.Claim
import GoSem.ClaimJoined
import GoSem.ClaimMapViews
import Derived.JoinedTies
import Derived.KernelRfl
namespace Go.Proofs.YtglmkpnnbgkndaaDoor
/- THE CELL 'sum', in the pinned program and in every row, IS THE sha256 OF THE DUMP (.gsa) THAT YtglmkpnnbgkndaaDoorProg.lean LOADS. Nothing in Lean hashes anything: it is a label: what it is worth is what the hold of that sum in a sandbox is worth. -/
noncomputable def Tryd.pinned : Pinned := { name := "ytglmkpnnbgkndaadoor", sum := "998a8c35405ed13879d242cdf42e300aa56daf531e56335a901862e775c0fe07", checked := Tryd.checked }
namespace Rows
def none {H : Type} : Left H := { results := [], args := [] }

/- WHAT THE LISTED PACKAGE-LEVEL VARIABLES READ AS WHEN THE CALL BEGINS. Each datum BY PROGRAM (the guide's laid-datum.mjs) off the statement by which the dump's own 'gosem.cut.vars' lays the variable. In a bare row this is a premise. The card (YtglmkpnnbgkndaaDoorCards.lean) ties it to the program's text. -/
def laid_almucantar_digits_radian {H : Type} : DataW H := .agg [.lit (.int .u64 5365940339316), .lit (.int .u64 7144251595963602554)]
def laid_almucantar_digits_inverses {H : Type} : DataW H := .agg [.agg [.lit (.int .u64 9223372036854775808), .lit (.int .u64 0)], .agg [.lit (.int .u64 3074457345618258602), .lit (.int .u64 12297829382473034410)], .agg [.lit (.int .u64 768614336404564650), .lit (.int .u64 12297829382473034410)], .agg [.lit (.int .u64 153722867280912930), .lit (.int .u64 2459565876494606882)], .agg [.lit (.int .u64 25620477880152155), .lit (.int .u64 409927646082434480)], .agg [.lit (.int .u64 3660068268593165), .lit (.int .u64 58561092297490640)], .agg [.lit (.int .u64 457508533574145), .lit (.int .u64 11536535182605656090)], .agg [.lit (.int .u64 50834281508238), .lit (.int .u64 7430751933748256770)], .agg [.lit (.int .u64 5083428150823), .lit (.int .u64 15500470452342466969)], .agg [.lit (.int .u64 462129831893), .lit (.int .u64 1409133677485678815)], .agg [.lit (.int .u64 38510819324), .lit (.int .u64 7803571170502786407)], .agg [.lit (.int .u64 2962370717), .lit (.int .u64 4857215645510110865)], .agg [.lit (.int .u64 211597908), .lit (.int .u64 6935066858146990638)], .agg [.lit (.int .u64 14106527), .lit (.int .u64 4151686605285043032)], .agg [.lit (.int .u64 881657), .lit (.int .u64 17553302981933019829)], .agg [.lit (.int .u64 51862), .lit (.int .u64 4287855011944804392)], .agg [.lit (.int .u64 2881), .lit (.int .u64 4337490628154611714)], .agg [.lit (.int .u64 151), .lit (.int .u64 11878864184877327952)], .agg [.lit (.int .u64 7), .lit (.int .u64 10739652449784119786)], .agg [.lit (.int .u64 0), .lit (.int .u64 6660326712654808623)], .agg [.lit (.int .u64 0), .lit (.int .u64 302742123302491301)], .agg [.lit (.int .u64 0), .lit (.int .u64 13162701013151795)], .agg [.lit (.int .u64 0), .lit (.int .u64 548445875547991)], .agg [.lit (.int .u64 0), .lit (.int .u64 21937835021919)], .agg [.lit (.int .u64 0), .lit (.int .u64 843762885458)], .agg [.lit (.int .u64 0), .lit (.int .u64 31250477239)], .agg [.lit (.int .u64 0), .lit (.int .u64 1116088472)], .agg [.lit (.int .u64 0), .lit (.int .u64 38485809)]]

/-- 'almucantarlaw06.TrigSines': WHATEVER THE INPUT: true; the input reads as it did. -/
def trigSinesSpec : ChangeSpec := { name := "trigSines", fn := fun _ => fun
  | [d] => { results := [.lit (.bool true)], args := [d] }
  | _ => none }
def trigSinesRow : OpenClaim := { program := "ytglmkpnnbgkndaadoor", sum := "998a8c35405ed13879d242cdf42e300aa56daf531e56335a901862e775c0fe07", func := "almucantar/almucantarlaw06.TrigSines", spec := "trigSines", inPlace := ["math/bits.Add64", "math/bits.Sub64"], named := ["almucantar/digits.radian", "almucantar/digits.inverses"], apart := false, laid := [("almucantar/digits.radian", laid_almucantar_digits_radian), ("almucantar/digits.inverses", laid_almucantar_digits_inverses)] }
def TrigSinesSaid : Prop := trigSinesRow.holds Tryd.pinned (OpenSpec.ofChange trigSinesSpec)

/-- ITS FALSE NEIGHBOUR: 'it returns false'. Refute it at one input. -/
def trigSinesWrong : ChangeSpec := { name := "trigSines", fn := fun _ => fun
  | [d] => { results := [.lit (.bool false)], args := [d] }
  | _ => none }
def TrigSinesWrongFalsely : Prop := trigSinesRow.holds Tryd.pinned (OpenSpec.ofChange trigSinesWrong)

/-- 'almucantarlaw06.TrigHaversines': WHATEVER THE INPUT: true; the input reads as it did. -/
def trigHaversinesSpec : ChangeSpec := { name := "trigHaversines", fn := fun _ => fun
  | [d] => { results := [.lit (.bool true)], args := [d] }
  | _ => none }
def trigHaversinesRow : OpenClaim := { program := "ytglmkpnnbgkndaadoor", sum := "998a8c35405ed13879d242cdf42e300aa56daf531e56335a901862e775c0fe07", func := "almucantar/almucantarlaw06.TrigHaversines", spec := "trigHaversines", inPlace := ["math/bits.Add64", "math/bits.Sub64"], named := ["almucantar/digits.radian", "almucantar/digits.inverses"], apart := false, laid := [("almucantar/digits.radian", laid_almucantar_digits_radian), ("almucantar/digits.inverses", laid_almucantar_digits_inverses)] }
def TrigHaversinesSaid : Prop := trigHaversinesRow.holds Tryd.pinned (OpenSpec.ofChange trigHaversinesSpec)

/-- ITS FALSE NEIGHBOUR: 'it returns false'. Refute it at one input. -/
def trigHaversinesWrong : ChangeSpec := { name := "trigHaversines", fn := fun _ => fun
  | [d] => { results := [.lit (.bool false)], args := [d] }
  | _ => none }
def TrigHaversinesWrongFalsely : Prop := trigHaversinesRow.holds Tryd.pinned (OpenSpec.ofChange trigHaversinesWrong)

/-- 'almucantarlaw06.TrigBelows': WHATEVER THE INPUT: true; the input reads as it did. -/
def trigBelowsSpec : ChangeSpec := { name := "trigBelows", fn := fun _ => fun
  | [d1, d2] => { results := [.lit (.bool true)], args := [d1, d2] }
  | _ => none }
def trigBelowsRow : OpenClaim := { program := "ytglmkpnnbgkndaadoor", sum := "998a8c35405ed13879d242cdf42e300aa56daf531e56335a901862e775c0fe07", func := "almucantar/almucantarlaw06.TrigBelows", spec := "trigBelows", inPlace := ["math/bits.Add64", "math/bits.Sub64"], named := ["almucantar/digits.radian", "almucantar/digits.inverses"], apart := false, laid := [("almucantar/digits.radian", laid_almucantar_digits_radian), ("almucantar/digits.inverses", laid_almucantar_digits_inverses)] }
def TrigBelowsSaid : Prop := trigBelowsRow.holds Tryd.pinned (OpenSpec.ofChange trigBelowsSpec)

/-- ITS FALSE NEIGHBOUR: 'it returns false'. Refute it at one input. -/
def trigBelowsWrong : ChangeSpec := { name := "trigBelows", fn := fun _ => fun
  | [d1, d2] => { results := [.lit (.bool false)], args := [d1, d2] }
  | _ => none }
def TrigBelowsWrongFalsely : Prop := trigBelowsRow.holds Tryd.pinned (OpenSpec.ofChange trigBelowsWrong)

/-- 'almucantarlaw06.TrigTurns': WHATEVER THE INPUT: true; the input reads as it did. -/
def trigTurnsSpec : ChangeSpec := { name := "trigTurns", fn := fun _ => fun
  | [d1, d2] => { results := [.lit (.bool true)], args := [d1, d2] }
  | _ => none }
def trigTurnsRow : OpenClaim := { program := "ytglmkpnnbgkndaadoor", sum := "998a8c35405ed13879d242cdf42e300aa56daf531e56335a901862e775c0fe07", func := "almucantar/almucantarlaw06.TrigTurns", spec := "trigTurns", inPlace := ["math/bits.Add64", "math/bits.Sub64"], unfollowed := true, recurses := true, named := ["almucantar/digits.radian", "almucantar/digits.inverses"], apart := false, laid := [("almucantar/digits.radian", laid_almucantar_digits_radian), ("almucantar/digits.inverses", laid_almucantar_digits_inverses)] }
def TrigTurnsSaid : Prop := trigTurnsRow.holds Tryd.pinned (OpenSpec.ofChange trigTurnsSpec)

/-- ITS FALSE NEIGHBOUR: 'it returns false'. Refute it at one input. -/
def trigTurnsWrong : ChangeSpec := { name := "trigTurns", fn := fun _ => fun
  | [d1, d2] => { results := [.lit (.bool false)], args := [d1, d2] }
  | _ => none }
def TrigTurnsWrongFalsely : Prop := trigTurnsRow.holds Tryd.pinned (OpenSpec.ofChange trigTurnsWrong)

/-- 'almucantarlaw06.TrigParts': WHATEVER THE INPUT: true; the input reads as it did. -/
def trigPartsSpec : ChangeSpec := { name := "trigParts", fn := fun _ => fun
  | [d1, d2, d3] => { results := [.lit (.bool true)], args := [d1, d2, d3] }
  | _ => none }
def trigPartsRow : OpenClaim := { program := "ytglmkpnnbgkndaadoor", sum := "998a8c35405ed13879d242cdf42e300aa56daf531e56335a901862e775c0fe07", func := "almucantar/almucantarlaw06.TrigParts", spec := "trigParts", inPlace := ["math/bits.Add64", "math/bits.Sub64"], unfollowed := true, recurses := true, named := ["almucantar/digits.radian", "almucantar/digits.inverses"], apart := false, laid := [("almucantar/digits.radian", laid_almucantar_digits_radian), ("almucantar/digits.inverses", laid_almucantar_digits_inverses)] }
def TrigPartsSaid : Prop := trigPartsRow.holds Tryd.pinned (OpenSpec.ofChange trigPartsSpec)

/-- ITS FALSE NEIGHBOUR: 'it returns false'. Refute it at one input. -/
def trigPartsWrong : ChangeSpec := { name := "trigParts", fn := fun _ => fun
  | [d1, d2, d3] => { results := [.lit (.bool false)], args := [d1, d2, d3] }
  | _ => none }
def TrigPartsWrongFalsely : Prop := trigPartsRow.holds Tryd.pinned (OpenSpec.ofChange trigPartsWrong)

/-- 'almucantarlaw06.TrigOrder': WHATEVER THE INPUT: true; the input reads as it did. -/
def trigOrderSpec : ChangeSpec := { name := "trigOrder", fn := fun _ => fun
  | [d1, d2] => { results := [.lit (.bool true)], args := [d1, d2] }
  | _ => none }
def trigOrderRow : OpenClaim := { program := "ytglmkpnnbgkndaadoor", sum := "998a8c35405ed13879d242cdf42e300aa56daf531e56335a901862e775c0fe07", func := "almucantar/almucantarlaw06.TrigOrder", spec := "trigOrder", inPlace := ["math/bits.Add64", "math/bits.Sub64"], named := ["almucantar/digits.radian", "almucantar/digits.inverses"], apart := false, laid := [("almucantar/digits.radian", laid_almucantar_digits_radian), ("almucantar/digits.inverses", laid_almucantar_digits_inverses)] }
def TrigOrderSaid : Prop := trigOrderRow.holds Tryd.pinned (OpenSpec.ofChange trigOrderSpec)

/-- ITS FALSE NEIGHBOUR: 'it returns false'. Refute it at one input. -/
def trigOrderWrong : ChangeSpec := { name := "trigOrder", fn := fun _ => fun
  | [d1, d2] => { results := [.lit (.bool false)], args := [d1, d2] }
  | _ => none }
def TrigOrderWrongFalsely : Prop := trigOrderRow.holds Tryd.pinned (OpenSpec.ofChange trigOrderWrong)

/-- 'almucantarlaw06.TrigSquares': WHATEVER THE INPUT: true; the input reads as it did. -/
def trigSquaresSpec : ChangeSpec := { name := "trigSquares", fn := fun _ => fun
  | [d] => { results := [.lit (.bool true)], args := [d] }
  | _ => none }
def trigSquaresRow : OpenClaim := { program := "ytglmkpnnbgkndaadoor", sum := "998a8c35405ed13879d242cdf42e300aa56daf531e56335a901862e775c0fe07", func := "almucantar/almucantarlaw06.TrigSquares", spec := "trigSquares", inPlace := ["math/bits.Add64", "math/bits.Sub64"], named := ["almucantar/digits.radian", "almucantar/digits.inverses"], apart := false, laid := [("almucantar/digits.radian", laid_almucantar_digits_radian), ("almucantar/digits.inverses", laid_almucantar_digits_inverses)] }
def TrigSquaresSaid : Prop := trigSquaresRow.holds Tryd.pinned (OpenSpec.ofChange trigSquaresSpec)

/-- ITS FALSE NEIGHBOUR: 'it returns false'. Refute it at one input. -/
def trigSquaresWrong : ChangeSpec := { name := "trigSquares", fn := fun _ => fun
  | [d] => { results := [.lit (.bool false)], args := [d] }
  | _ => none }
def TrigSquaresWrongFalsely : Prop := trigSquaresRow.holds Tryd.pinned (OpenSpec.ofChange trigSquaresWrong)

/-- 'almucantarlaw06.TrigSums': WHATEVER THE INPUT: true; the input reads as it did. -/
def trigSumsSpec : ChangeSpec := { name := "trigSums", fn := fun _ => fun
  | [d1, d2] => { results := [.lit (.bool true)], args := [d1, d2] }
  | _ => none }
def trigSumsRow : OpenClaim := { program := "ytglmkpnnbgkndaadoor", sum := "998a8c35405ed13879d242cdf42e300aa56daf531e56335a901862e775c0fe07", func := "almucantar/almucantarlaw06.TrigSums", spec := "trigSums", inPlace := ["math/bits.Add64", "math/bits.Sub64"], named := ["almucantar/digits.radian", "almucantar/digits.inverses"], apart := false, laid := [("almucantar/digits.radian", laid_almucantar_digits_radian), ("almucantar/digits.inverses", laid_almucantar_digits_inverses)] }
def TrigSumsSaid : Prop := trigSumsRow.holds Tryd.pinned (OpenSpec.ofChange trigSumsSpec)

/-- ITS FALSE NEIGHBOUR: 'it returns false'. Refute it at one input. -/
def trigSumsWrong : ChangeSpec := { name := "trigSums", fn := fun _ => fun
  | [d1, d2] => { results := [.lit (.bool false)], args := [d1, d2] }
  | _ => none }
def TrigSumsWrongFalsely : Prop := trigSumsRow.holds Tryd.pinned (OpenSpec.ofChange trigSumsWrong)

/-- 'almucantarlaw06.TrigThirds': WHATEVER THE INPUT: true; the input reads as it did. -/
def trigThirdsSpec : ChangeSpec := { name := "trigThirds", fn := fun _ => fun
  | [d] => { results := [.lit (.bool true)], args := [d] }
  | _ => none }
def trigThirdsRow : OpenClaim := { program := "ytglmkpnnbgkndaadoor", sum := "998a8c35405ed13879d242cdf42e300aa56daf531e56335a901862e775c0fe07", func := "almucantar/almucantarlaw06.TrigThirds", spec := "trigThirds", inPlace := ["math/bits.Add64", "math/bits.Sub64"], named := ["almucantar/digits.radian", "almucantar/digits.inverses"], apart := false, laid := [("almucantar/digits.radian", laid_almucantar_digits_radian), ("almucantar/digits.inverses", laid_almucantar_digits_inverses)] }
def TrigThirdsSaid : Prop := trigThirdsRow.holds Tryd.pinned (OpenSpec.ofChange trigThirdsSpec)

/-- ITS FALSE NEIGHBOUR: 'it returns false'. Refute it at one input. -/
def trigThirdsWrong : ChangeSpec := { name := "trigThirds", fn := fun _ => fun
  | [d] => { results := [.lit (.bool false)], args := [d] }
  | _ => none }
def TrigThirdsWrongFalsely : Prop := trigThirdsRow.holds Tryd.pinned (OpenSpec.ofChange trigThirdsWrong)

/- THE SECOND FORM. 'bulk': how many values and letters a reading holds, each counted each time it is reached (what is shared counts as often as it is met; a slice's spare places count too). A statement '..UptoSaid' is the law's where the arguments, and the package variables that the reading takes, are together of bulk at most 1048576: NARROWER than '..Said'. Prove '..Said' where nothing that the law and all that it calls make is longer than what came in: it says more and counts as full. Else prove '..UptoSaid'. A law counts once. -/
mutual
def uptoBulk {H : Type} : DataW H → Nat
  | .lit (.string bytes) => bytes.length + 1
  | .lit _ => 1
  | .nil => 1
  | .ptr d => uptoBulk d + 1
  | .slice elems spare => uptoBulkAll elems + uptoBulkAll spare + 1
  | .agg parts => uptoBulkAll parts + 1
  | .iface _ d => uptoBulk d + 1
  | .map entries => uptoBulkEntries entries + 1
  | .held _ => 1
def uptoBulkAll {H : Type} : List (DataW H) → Nat
  | [] => 0
  | d :: r => uptoBulk d + uptoBulkAll r
def uptoBulkEntries {H : Type} : List (Lit × DataW H) → Nat
  | [] => 0
  | x :: r => uptoBulkEntry x + uptoBulkEntries r
def uptoBulkEntry {H : Type} : Lit × DataW H → Nat
  | (.string bytes, d) => bytes.length + uptoBulk d + 1
  | (_, d) => uptoBulk d + 1
 end
def uptoSmall : (H : Type) → List (DataW H) → Bool := fun _ ds => decide (uptoBulkAll ds ≤ 1048576)
def OpenSpec.upto (s : _root_.Go.ChangeSpec) : _root_.Go.OpenSpec := { _root_.Go.OpenSpec.ofChange s with cond := some uptoSmall }

/-- 'almucantarlaw06.TrigSines', WHERE WHAT IT READS IS OF BULK AT MOST 1048576: true; the input reads as it did. -/
def trigSinesUptoRow : OpenClaim := { program := "ytglmkpnnbgkndaadoor", sum := "998a8c35405ed13879d242cdf42e300aa56daf531e56335a901862e775c0fe07", func := "almucantar/almucantarlaw06.TrigSines", spec := "trigSines", inPlace := ["math/bits.Add64", "math/bits.Sub64"], named := ["almucantar/digits.radian", "almucantar/digits.inverses"], apart := false, laid := [("almucantar/digits.radian", laid_almucantar_digits_radian), ("almucantar/digits.inverses", laid_almucantar_digits_inverses)], narrowed := true }
def TrigSinesUptoSaid : Prop := trigSinesUptoRow.holds Tryd.pinned (OpenSpec.upto trigSinesSpec)

/-- 'almucantarlaw06.TrigHaversines', WHERE WHAT IT READS IS OF BULK AT MOST 1048576: true; the input reads as it did. -/
def trigHaversinesUptoRow : OpenClaim := { program := "ytglmkpnnbgkndaadoor", sum := "998a8c35405ed13879d242cdf42e300aa56daf531e56335a901862e775c0fe07", func := "almucantar/almucantarlaw06.TrigHaversines", spec := "trigHaversines", inPlace := ["math/bits.Add64", "math/bits.Sub64"], named := ["almucantar/digits.radian", "almucantar/digits.inverses"], apart := false, laid := [("almucantar/digits.radian", laid_almucantar_digits_radian), ("almucantar/digits.inverses", laid_almucantar_digits_inverses)], narrowed := true }
def TrigHaversinesUptoSaid : Prop := trigHaversinesUptoRow.holds Tryd.pinned (OpenSpec.upto trigHaversinesSpec)

/-- 'almucantarlaw06.TrigBelows', WHERE WHAT IT READS IS OF BULK AT MOST 1048576: true; the input reads as it did. -/
def trigBelowsUptoRow : OpenClaim := { program := "ytglmkpnnbgkndaadoor", sum := "998a8c35405ed13879d242cdf42e300aa56daf531e56335a901862e775c0fe07", func := "almucantar/almucantarlaw06.TrigBelows", spec := "trigBelows", inPlace := ["math/bits.Add64", "math/bits.Sub64"], named := ["almucantar/digits.radian", "almucantar/digits.inverses"], apart := false, laid := [("almucantar/digits.radian", laid_almucantar_digits_radian), ("almucantar/digits.inverses", laid_almucantar_digits_inverses)], narrowed := true }
def TrigBelowsUptoSaid : Prop := trigBelowsUptoRow.holds Tryd.pinned (OpenSpec.upto trigBelowsSpec)

/-- 'almucantarlaw06.TrigTurns', WHERE WHAT IT READS IS OF BULK AT MOST 1048576: true; the input reads as it did. -/
def trigTurnsUptoRow : OpenClaim := { program := "ytglmkpnnbgkndaadoor", sum := "998a8c35405ed13879d242cdf42e300aa56daf531e56335a901862e775c0fe07", func := "almucantar/almucantarlaw06.TrigTurns", spec := "trigTurns", inPlace := ["math/bits.Add64", "math/bits.Sub64"], unfollowed := true, recurses := true, named := ["almucantar/digits.radian", "almucantar/digits.inverses"], apart := false, laid := [("almucantar/digits.radian", laid_almucantar_digits_radian), ("almucantar/digits.inverses", laid_almucantar_digits_inverses)], narrowed := true }
def TrigTurnsUptoSaid : Prop := trigTurnsUptoRow.holds Tryd.pinned (OpenSpec.upto trigTurnsSpec)

/-- 'almucantarlaw06.TrigParts', WHERE WHAT IT READS IS OF BULK AT MOST 1048576: true; the input reads as it did. -/
def trigPartsUptoRow : OpenClaim := { program := "ytglmkpnnbgkndaadoor", sum := "998a8c35405ed13879d242cdf42e300aa56daf531e56335a901862e775c0fe07", func := "almucantar/almucantarlaw06.TrigParts", spec := "trigParts", inPlace := ["math/bits.Add64", "math/bits.Sub64"], unfollowed := true, recurses := true, named := ["almucantar/digits.radian", "almucantar/digits.inverses"], apart := false, laid := [("almucantar/digits.radian", laid_almucantar_digits_radian), ("almucantar/digits.inverses", laid_almucantar_digits_inverses)], narrowed := true }
def TrigPartsUptoSaid : Prop := trigPartsUptoRow.holds Tryd.pinned (OpenSpec.upto trigPartsSpec)

/-- 'almucantarlaw06.TrigOrder', WHERE WHAT IT READS IS OF BULK AT MOST 1048576: true; the input reads as it did. -/
def trigOrderUptoRow : OpenClaim := { program := "ytglmkpnnbgkndaadoor", sum := "998a8c35405ed13879d242cdf42e300aa56daf531e56335a901862e775c0fe07", func := "almucantar/almucantarlaw06.TrigOrder", spec := "trigOrder", inPlace := ["math/bits.Add64", "math/bits.Sub64"], named := ["almucantar/digits.radian", "almucantar/digits.inverses"], apart := false, laid := [("almucantar/digits.radian", laid_almucantar_digits_radian), ("almucantar/digits.inverses", laid_almucantar_digits_inverses)], narrowed := true }
def TrigOrderUptoSaid : Prop := trigOrderUptoRow.holds Tryd.pinned (OpenSpec.upto trigOrderSpec)

/-- 'almucantarlaw06.TrigSquares', WHERE WHAT IT READS IS OF BULK AT MOST 1048576: true; the input reads as it did. -/
def trigSquaresUptoRow : OpenClaim := { program := "ytglmkpnnbgkndaadoor", sum := "998a8c35405ed13879d242cdf42e300aa56daf531e56335a901862e775c0fe07", func := "almucantar/almucantarlaw06.TrigSquares", spec := "trigSquares", inPlace := ["math/bits.Add64", "math/bits.Sub64"], named := ["almucantar/digits.radian", "almucantar/digits.inverses"], apart := false, laid := [("almucantar/digits.radian", laid_almucantar_digits_radian), ("almucantar/digits.inverses", laid_almucantar_digits_inverses)], narrowed := true }
def TrigSquaresUptoSaid : Prop := trigSquaresUptoRow.holds Tryd.pinned (OpenSpec.upto trigSquaresSpec)

/-- 'almucantarlaw06.TrigSums', WHERE WHAT IT READS IS OF BULK AT MOST 1048576: true; the input reads as it did. -/
def trigSumsUptoRow : OpenClaim := { program := "ytglmkpnnbgkndaadoor", sum := "998a8c35405ed13879d242cdf42e300aa56daf531e56335a901862e775c0fe07", func := "almucantar/almucantarlaw06.TrigSums", spec := "trigSums", inPlace := ["math/bits.Add64", "math/bits.Sub64"], named := ["almucantar/digits.radian", "almucantar/digits.inverses"], apart := false, laid := [("almucantar/digits.radian", laid_almucantar_digits_radian), ("almucantar/digits.inverses", laid_almucantar_digits_inverses)], narrowed := true }
def TrigSumsUptoSaid : Prop := trigSumsUptoRow.holds Tryd.pinned (OpenSpec.upto trigSumsSpec)

/-- 'almucantarlaw06.TrigThirds', WHERE WHAT IT READS IS OF BULK AT MOST 1048576: true; the input reads as it did. -/
def trigThirdsUptoRow : OpenClaim := { program := "ytglmkpnnbgkndaadoor", sum := "998a8c35405ed13879d242cdf42e300aa56daf531e56335a901862e775c0fe07", func := "almucantar/almucantarlaw06.TrigThirds", spec := "trigThirds", inPlace := ["math/bits.Add64", "math/bits.Sub64"], named := ["almucantar/digits.radian", "almucantar/digits.inverses"], apart := false, laid := [("almucantar/digits.radian", laid_almucantar_digits_radian), ("almucantar/digits.inverses", laid_almucantar_digits_inverses)], narrowed := true }
def TrigThirdsUptoSaid : Prop := trigThirdsUptoRow.holds Tryd.pinned (OpenSpec.upto trigThirdsSpec)

end Rows
end Go.Proofs.YtglmkpnnbgkndaaDoor
