/- Contracts of the reference's Up and Sqrt. -/
import Derived.Test.YtpneahdbiikonaaDoorDgY
import Derived.Deep.LoopGhost
namespace Go.Proofs.YtpneahdbiikonaaDoor
open Go.RowKit
set_option linter.unusedVariables false
attribute [local go_sem ↓] Go.wp_at_zero Go.wp_at_succ

-- Sqrt
theorem can_snoc_one {a : List Nat} (h : Dok a) : Can (a ++ [1]) := by
  refine ⟨Dok.append.2 ⟨h, dok_single (by omega)⟩, .inr ?_⟩
  rw [val_snoc, List.length_append]
  show pw (a.length + 1 - 1) ≤ _
  rw [Nat.add_sub_cancel]; omega

theorem sq_unique {N r l : Nat} (h1 : r * r ≤ N) (h2 : N < (r + 1) * (r + 1)) (h3 : l * l ≤ N) (h4 : N < (l + 1) * (l + 1)) : l = r := by
  rcases Nat.lt_trichotomy l r with h | h | h
  · have := Nat.mul_le_mul (show l + 1 ≤ r by omega) (show l + 1 ≤ r by omega); omega
  · exact h
  · have := Nat.mul_le_mul (show r + 1 ≤ l by omega) (show r + 1 ≤ l by omega); omega
theorem sq_lt {N l h : Nat} (h1 : l * l ≤ N) (h2 : N < h * h) : l < h := by
  rcases Nat.lt_or_ge l h with q | q
  · exact q
  · have := Nat.mul_le_mul q q; omega
/-- what Sqrt's loop knows of its two bounds -/
structure SqI (w : World) (N lo hh : Nat) (A1 : Option Addr) (n1 c1 : Nat) (A2 : Option Addr) (n2 c2 : Nat) (wr : World) : Prop where
  d1 : Dig wr A1 n1 c1 (dgs lo)
  d2 : Dig wr A2 n2 c2 (dgs hh)
  low : lo * lo ≤ N
  high : N < hh * hh
  len : (dgs hh).length ≤ 400001
  fr : Fr w A1
  bel : Below w.heap.size w wr
theorem can_one : Can [1] := by rw [can_single (m := 1) (by omega) (by omega)]; exact can_dgs 1
theorem can_two : Can [2] := by rw [can_single (m := 2) (by omega) (by omega)]; exact can_dgs 2

end Go.Proofs.YtpneahdbiikonaaDoor
