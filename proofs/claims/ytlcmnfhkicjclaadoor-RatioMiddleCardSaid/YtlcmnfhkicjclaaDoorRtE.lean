/- Contracts of the reference's Make and Valid. -/
import Derived.Test.YtlcmnfhkicjclaaDoorRtC
namespace Go.Proofs.YtlcmnfhkicjclaaDoor
open Go.RowKit
set_option linter.unusedVariables false

/-- what the last numbers of the reference's Make say -/
def RmFin (q : Rat) (x y : Int) : Prop :=
  (x < -1073741824 ∨ 1073741824 < x ∨ y < 1 ∨ 1073741824 < y → rfit q = false) ∧ (-1073741824 ≤ x → x ≤ 1073741824 → 1 ≤ y → y ≤ 1073741824 → rfit q = true ∧ q.num = x ∧ (q.den : Int) = y)
theorem ref_parts (n d : Int) (hd : d ≠ 0) (n1 : -9223372036854775808 ≤ n) (n2 : n ≤ 9223372036854775807) (d1 : -9223372036854775808 ≤ d) (d2 : d ≤ 9223372036854775807) (q1 q2 : Int)
    (h1 : q1 = IntKind.i64.wrap (n.tdiv (-((n.natAbs.gcd d.natAbs : Nat) : Int)))) (h2 : q2 = IntKind.i64.wrap (d.tdiv (-((n.natAbs.gcd d.natAbs : Nat) : Int)))) :
    (q2 < 0 → RmFin (Rat.divInt n d) (IntKind.i64.wrap (-q1)) (IntKind.i64.wrap (-q2))) ∧ (¬ q2 < 0 → RmFin (Rat.divInt n d) q1 q2) := by
  obtain ⟨N, D, g, U, L, F⟩ := mkF n d hd
  have hN := F.hN
  have hD := F.hD
  have hg := F.hg
  rw [hN, hD] at hg
  rw [← hg] at h1 h2
  have lU := F.lU
  have lL := F.lL
  have L1 := F.L1
  have eU := F.eU
  have eL := F.eL
  have e1 : n.tdiv (-(g : Int)) = if n < 0 then (U : Int) else -(U : Int) := by
    rw [Int.tdiv_neg]
    by_cases h : n < 0
    · rw [if_pos h, show n = -(N : Int) by omega, Int.neg_tdiv, eU]; omega
    · rw [if_neg h, show n = (N : Int) by omega, eU]
  have e2 : d.tdiv (-(g : Int)) = if d < 0 then (L : Int) else -(L : Int) := by
    rw [Int.tdiv_neg]
    by_cases h : d < 0
    · rw [if_pos h, show d = -(D : Int) by omega, Int.neg_tdiv, eL]; omega
    · rw [if_neg h, show d = (D : Int) by omega, eL]
  rw [e1, IntKind.wrap_i64] at h1
  rw [e2, IntKind.wrap_i64] at h2
  have hnum := F.num
  have hden := F.den
  have U0 : U = 0 → n = 0 := by
    intro h
    have := F.mU
    rw [h] at this
    simp at this
    omega
  unfold RmFin
  rw [rfit_not, rfit_iff, hnum, hden, IntKind.wrap_i64, IntKind.wrap_i64]
  clear hnum hden e1 e2 eU eL hg
  by_cases hn : n < 0
  · rw [if_pos hn] at h1
    by_cases h : d < 0
    · rw [if_pos h] at h2
      rw [if_neg (by omega)]
      omega
    · rw [if_neg h] at h2
      rw [if_pos (by omega)]
      omega
  · rw [if_neg hn] at h1
    by_cases h : d < 0
    · rw [if_pos h] at h2
      rw [if_pos (by omega)]
      omega
    · rw [if_neg h] at h2
      rw [if_neg (by omega)]
      omega
end Go.Proofs.YtlcmnfhkicjclaaDoor
