/- Angle: what is asked of the program's functions, by their plain answers; the law's examples. -/
import Derived.Test.YtndcjldnnfhedaaDoorAnD
import Derived.Test.YtndcjldnnfhedaaDoorAnF
import Derived.Deep.LoopGhost
namespace Go.Proofs.YtndcjldnnfhedaaDoor
open Go.RowKit
set_option linter.unusedVariables false

/-- the answer, if the arguments are valid -/
def vA (r : Bool) (R : Fx) : Fx := if r = true then R else ⟨0, 0, 1⟩
theorem vA_yes {r : Bool} (R : Fx) (h : r = true) : vA r R = R := if_pos h
theorem vA_no {r : Bool} (R : Fx) (h : r = false) : vA r R = ⟨0, 0, 1⟩ := if_neg (by rw [h]; simp)
def agB (a b c d : Int) : Bool := aok a b && (aok c d && agR a b c d)
def agE (a b c d : Int) : Int := if aok a b = true ∧ aok c d = true then 0 else 1
theorem toldA {f : Nat} {args : Array Value} {w : World} {r s : Bool} {x y : Int} (e : r = s) (e' : x = y) (C : Calls Tryd.prog f args w fun e w' => e = .returned (.tuple #[.bool r, .int .i64 x]) ∧ Below w.heap.size w w') :
    Calls Tryd.prog f args w fun e w' => e = .returned (.tuple #[.bool s, .int .i64 y]) ∧ Below w.heap.size w w' := by
  rw [e, e'] at C; exact C
theorem toldT {f : Nat} {args : Array Value} {w : World} {r s : ByteArray} {x y : Int} (e : r = s) (e' : x = y) (C : Calls Tryd.prog f args w fun e w' => e = .returned (.tuple #[.string r, .int .i64 x]) ∧ Below w.heap.size w w') :
    Calls Tryd.prog f args w fun e w' => e = .returned (.tuple #[.string s, .int .i64 y]) ∧ Below w.heap.size w w' := by
  rw [e, e'] at C; exact C
theorem toldP {f : Nat} {args : Array Value} {w : World} {r s x y : Int} (e : r = s) (e' : x = y) (C : Calls Tryd.prog f args w fun e w' => e = .returned (.tuple #[.int .i64 r, .int .i64 x]) ∧ Below w.heap.size w w') :
    Calls Tryd.prog f args w fun e w' => e = .returned (.tuple #[.int .i64 s, .int .i64 y]) ∧ Below w.heap.size w w' := by
  rw [e, e'] at C; exact C

end Go.Proofs.YtndcjldnnfhedaaDoor
