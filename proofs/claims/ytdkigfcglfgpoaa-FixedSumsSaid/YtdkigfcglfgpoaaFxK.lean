/- Fixed: what is asked of the program's functions, by their plain answers; the law's small functions. -/
import Derived.Test.YtdkigfcglfgpoaaFxJ
import Derived.Test.YtdkigfcglfgpoaaFxM
import Derived.Test.YtdkigfcglfgpoaaFxF
import Derived.Test.YtdkigfcglfgpoaaFxV
import Derived.Deep.CutRange
namespace Go.Proofs.Ytdkigfcglfgpoaa
open Go.RowKit
set_option linter.unusedVariables false

/-- the answer, if the arguments are valid -/
def vF (r : Bool) (R : Fx) : Fx := if r = true then R else argR
/-- the program's functions answer as they should -/
structure FxProg : Prop where
  valid : ∀ (a b : Int) (w : World), Calls Try.prog 15 #[.agg #[.int .i64 a, .int .i64 b]] w fun e w' => e = .returned (.bool (fok a b)) ∧ Below w.heap.size w w'
  inside : ∀ (a b c d : Int) (w : World), Calls Try.prog 17 #[.agg #[.int .i64 a, .int .i64 b], .agg #[.int .i64 c, .int .i64 d]] w fun e w' => e = .returned (.bool (insideR a b c d)) ∧ Below w.heap.size w w'
  make : ∀ (n d : Int) (w : World), -9223372036854775808 ≤ n → n ≤ 9223372036854775807 → -9223372036854775808 ≤ d → d ≤ 9223372036854775807 → Calls Try.prog 12 #[.int .i64 n, .int .i64 d] w fun e w' => e = .returned (vR (makeR n d)) ∧ Below w.heap.size w w'
  add : ∀ (a b c d : Int) (w : World), Calls Try.prog 23 #[.agg #[.int .i64 a, .int .i64 b], .agg #[.int .i64 c, .int .i64 d]] w fun e w' => e = .returned (vR (vF (fok a b && fok c d) (addR a b c d))) ∧ Below w.heap.size w w'
  sub : ∀ (a b c d : Int) (w : World), Calls Try.prog 24 #[.agg #[.int .i64 a, .int .i64 b], .agg #[.int .i64 c, .int .i64 d]] w fun e w' => e = .returned (vR (vF (fok a b && fok c d) (subR a b c d))) ∧ Below w.heap.size w w'
  mul : ∀ (a b c d : Int) (w : World), Calls Try.prog 29 #[.agg #[.int .i64 a, .int .i64 b], .agg #[.int .i64 c, .int .i64 d]] w fun e w' => e = .returned (vR (vF (fok a b && fok c d) (mulR a b c d))) ∧ Below w.heap.size w w'
  div : ∀ (a b c d : Int) (w : World), Calls Try.prog 31 #[.agg #[.int .i64 a, .int .i64 b], .agg #[.int .i64 c, .int .i64 d]] w fun e w' => e = .returned (vR (vF (fok a b && fok c d) (divR a b c d))) ∧ Below w.heap.size w w'
  hull : ∀ (a b c d : Int) (w : World), Calls Try.prog 19 #[.agg #[.int .i64 a, .int .i64 b], .agg #[.int .i64 c, .int .i64 d]] w fun e w' => e = .returned (vR (vF (fok a b && fok c d) (hullR a b c d))) ∧ Below w.heap.size w w'
  meet : ∀ (a b c d : Int) (w : World), Calls Try.prog 20 #[.agg #[.int .i64 a, .int .i64 b], .agg #[.int .i64 c, .int .i64 d]] w fun e w' => e = .returned (vR (vF (fok a b && fok c d) (meetR a b c d))) ∧ Below w.heap.size w w'
  neg : ∀ (a b : Int) (w : World), Calls Try.prog 25 #[.agg #[.int .i64 a, .int .i64 b]] w fun e w' => e = .returned (vR (vF (fok a b) (negR a b))) ∧ Below w.heap.size w w'
  square : ∀ (a b : Int) (w : World), Calls Try.prog 30 #[.agg #[.int .i64 a, .int .i64 b]] w fun e w' => e = .returned (vR (vF (fok a b) (squareR a b))) ∧ Below w.heap.size w w'
  root : ∀ (a b : Int) (w : World), Calls Try.prog 35 #[.agg #[.int .i64 a, .int .i64 b]] w fun e w' => e = .returned (vR (vF (fok a b) (sqrtR a b))) ∧ Below w.heap.size w w'
  scale : ∀ (a b n : Int) (w : World), -9223372036854775808 ≤ n → n ≤ 9223372036854775807 → Calls Try.prog 37 #[.agg #[.int .i64 a, .int .i64 b], .int .i64 n] w fun e w' => e = .returned (vS (vF (fok a b) (scaleR a b n))) ∧ Below w.heap.size w w'
  quotient : ∀ (a b c d n : Int) (w : World), -9223372036854775808 ≤ n → n ≤ 9223372036854775807 → Calls Try.prog 38 #[.agg #[.int .i64 a, .int .i64 b], .agg #[.int .i64 c, .int .i64 d], .int .i64 n] w fun e w' => e = .returned (vS (vF (fok a b && fok c d) (quotR a b c d n))) ∧ Below w.heap.size w w'

/-- a contract, told with the answer's three numbers -/
theorem told {f : Nat} {args : Array Value} {w : World} {R : Fx} (l h k : Int) (e : R = ⟨l, h, k⟩) (C : Calls Try.prog f args w fun e w' => e = .returned (vR R) ∧ Below w.heap.size w w') :
    Calls Try.prog f args w fun e w' => e = .returned (.tuple #[.agg #[.int .i64 l, .int .i64 h], .int .i64 k]) ∧ Below w.heap.size w w' := by
  rw [e] at C; exact C
theorem toldS {f : Nat} {args : Array Value} {w : World} {R : Fx} (l h k : Int) (e : R = ⟨l, h, k⟩) (C : Calls Try.prog f args w fun e w' => e = .returned (vS R) ∧ Below w.heap.size w w') :
    Calls Try.prog f args w fun e w' => e = .returned (.tuple #[.int .i64 l, .int .i64 h, .int .i64 k]) ∧ Below w.heap.size w w' := by
  rw [e] at C; exact C
theorem told1 {f : Nat} {args : Array Value} {w : World} {r : Bool} (s : Bool) (e : r = s) (C : Calls Try.prog f args w fun e w' => e = .returned (.bool r) ∧ Below w.heap.size w w') :
    Calls Try.prog f args w fun e w' => e = .returned (.bool s) ∧ Below w.heap.size w w' := by
  rw [e] at C; exact C
theorem vF_yes {r : Bool} (R : Fx) (h : r = true) : vF r R = R := if_pos h
theorem vF_no {r : Bool} (R : Fx) (h : r = false) : vF r R = ⟨0, 0, 1⟩ := if_neg (by rw [h]; simp)
theorem fx_eta (R : Fx) : R = ⟨R.l, R.h, R.e⟩ := rfl

theorem result_bad (l h f : Int) (w : World) :
    Calls Try.prog 14 #[.agg #[.int .i64 0, .int .i64 0], .int .i64 1, .bool false, .agg #[.int .i64 l, .int .i64 h], .int .i64 f] w fun e w' => e = .returned (.bool true) ∧ Below w.heap.size w w' := by
  obtain ⟨A, B⟩ := At2.two w (.int .i64 0) (.int .i64 0) (.int .i64 l) (.int .i64 h) 23 23
  obtain ⟨a0, a1, af0, af1, alt⟩ := A
  go_enter Try.func14, Try.ntmps14
  go_wp2_with fail
  go_ret
  exact ⟨rfl, below2 _ _ _⟩
theorem result_ok (l h f : Int) (w : World) :
    Calls Try.prog 14 #[.agg #[.int .i64 l, .int .i64 h], .int .i64 f, .bool true, .agg #[.int .i64 l, .int .i64 h], .int .i64 f] w fun e w' => e = .returned (.bool true) ∧ Below w.heap.size w w' := by
  obtain ⟨A, B⟩ := At2.two w (.int .i64 l) (.int .i64 h) (.int .i64 l) (.int .i64 h) 23 23
  obtain ⟨a0, a1, af0, af1, alt⟩ := A
  obtain ⟨b0, b1, bf0, bf1, blt⟩ := B
  go_enter Try.func14, Try.ntmps14
  go_wp2_with fail
  go_ret
  exact ⟨rfl, below2 _ _ _⟩
end Go.Proofs.Ytdkigfcglfgpoaa
