/- Angle: results as values, contracts told by their numbers. -/
import Derived.Test.YtndcjldnnfhedaaDoorFxV
import Derived.Test.YtndcjldnnfhedaaDoorAnP
import Derived.Deep.CutRange
namespace Go.Proofs.YtndcjldnnfhedaaDoor
open Go.RowKit
set_option linter.unusedVariables false

def vI (l h : Int) : Value := .agg #[.int .i64 l, .int .i64 h]
def vR (R : Fx) : Value := .tuple #[.agg #[.int .i64 R.l, .int .i64 R.h], .int .i64 R.e]
theorem w64_is {x y : Int} (h : x = y) (h1 : -9223372036854775808 ≤ y) (h2 : y ≤ 9223372036854775807) : wrap64 x = y := by rw [h, IntWalk.wrap64_in _ ⟨h1, h2⟩]
theorem i64_is {x : Int} (h1 : -9223372036854775808 ≤ x) (h2 : x ≤ 9223372036854775807) : IntKind.i64.wrap x = x := by rw [IntKind.wrap_i64]; omega
theorem told {f : Nat} {args : Array Value} {w : World} {R : Fx} (l h k : Int) (e : R = ⟨l, h, k⟩) (C : Calls Tryd.prog f args w fun e w' => e = .returned (vR R) ∧ Below w.heap.size w w') :
    Calls Tryd.prog f args w fun e w' => e = .returned (.tuple #[.agg #[.int .i64 l, .int .i64 h], .int .i64 k]) ∧ Below w.heap.size w w' := by
  rw [e] at C; exact C
theorem told1 {f : Nat} {args : Array Value} {w : World} {r : Bool} (s : Bool) (e : r = s) (C : Calls Tryd.prog f args w fun e w' => e = .returned (.bool r) ∧ Below w.heap.size w w') :
    Calls Tryd.prog f args w fun e w' => e = .returned (.bool s) ∧ Below w.heap.size w w' := by
  rw [e] at C; exact C
theorem toldI {f : Nat} {args : Array Value} {w : World} {r : Int} (s : Int) (e : r = s) (C : Calls Tryd.prog f args w fun e w' => e = .returned (.int .i64 r) ∧ Below w.heap.size w w') :
    Calls Tryd.prog f args w fun e w' => e = .returned (.int .i64 s) ∧ Below w.heap.size w w' := by
  rw [e] at C; exact C
theorem tceil (a b : Int) (hb : 0 < b) : (0 < a.tmod b → a.tdiv b + 1 = cdiv a b) ∧ (¬ 0 < a.tmod b → a.tdiv b = cdiv a b) := by
  obtain ⟨f1, f2⟩ := tfloor (-a) b hb
  rw [Int.neg_tmod, Int.neg_tdiv] at f1 f2
  unfold cdiv
  exact ⟨fun h => by have := f1 (by omega); omega, fun h => by have := f2 (by omega); omega⟩
theorem fl_abs {a b : Int} (hb : 0 < b) (h1 : -9223372036854775807 ≤ a) (h2 : a ≤ 9223372036854775807) : -9223372036854775807 ≤ a / b ∧ a / b ≤ 9223372036854775807 := by
  constructor
  · rw [le_fl hb]
    have := mul_ge_l (a := 1) (b := b) (c := -9223372036854775807) (by omega) (by omega); omega
  · have : a / b < 9223372036854775807 + 1 := by
      rw [fl_lt hb]
      have := mul_le_l (a := 1) (b := b) (c := 9223372036854775807 + 1) (by omega) (by omega); omega
    omega
/-- quotients are not greater than the number -/
theorem fl_bd {N y B : Int} (hy : 0 < y) (h1 : -B ≤ N) (h2 : N ≤ B) : (-B ≤ N / y ∧ N / y ≤ B) ∧ -B ≤ cdiv N y ∧ cdiv N y ≤ B := by
  have hB : 0 ≤ B := by omega
  have k1 : -B ≤ N / y := by
    rw [le_fl hy]
    have := mul_ge_l (a := 1) (b := y) (c := -B) (by omega) (by omega); omega
  have k2 : cdiv N y ≤ B := by
    rw [ce_le hy]
    have := mul_le_l (a := 1) (b := y) (c := B) (by omega) (by omega); omega
  have := fl_le_ce (x := N) hy
  omega
end Go.Proofs.YtndcjldnnfhedaaDoor
