/- Contracts of the reference's OfInt (any int) and IsInt. -/
import Derived.Test.YtpneahdbiikonaaDoorDgX
namespace Go.Proofs.YtpneahdbiikonaaDoor
open Go.RowKit
set_option linter.unusedVariables false
attribute [local go_sem ↓] Go.wp_at_zero Go.wp_at_succ

theorem ofint_any (z : Int) (w : World) (h1 : -9223372036854775808 ≤ z) (h2 : z ≤ 9223372036854775807) :
    Calls Tryd.prog 37 #[.int .i64 z] w (RetZ w z) := by
  by_cases hz : z < 0
  · obtain ⟨N, rfl⟩ : ∃ N : Nat, z = -(N : Int) := ⟨z.natAbs, by omega⟩
    refine (ofint_neg N w (by omega) (by omega)).mono ?_
    rintro e w' ⟨A, n, c, he, hd, hf, hb⟩
    exact ⟨A, n, c, true, he, ⟨by rw [Int.natAbs_neg, Int.natAbs_natCast]; exact hd, (decide_eq_true hz).symm⟩, hf, hb⟩
  · obtain ⟨N, rfl⟩ : ∃ N : Nat, z = (N : Int) := ⟨z.natAbs, by omega⟩
    refine (ofint_pos N w (by omega)).mono ?_
    rintro e w' ⟨A, n, c, he, hd, hf, hb⟩
    exact ⟨A, n, c, false, he, ⟨by rw [Int.natAbs_natCast]; exact hd, (decide_eq_false hz).symm⟩, hf, hb⟩

theorem sm_i64 {z : Int} (h1 : -9223372036854775808 ≤ z) (h2 : z ≤ 9223372036854775808) : Sm z := by
  unfold Sm
  have := dgs_len_ten (n := z.natAbs) (by omega)
  omega
theorem sgn_lt (z : Int) : (sgn z < 0) ↔ z < 0 := by unfold sgn; split; omega; split <;> omega
theorem sgn_gt (z : Int) : (0 < sgn z) ↔ 0 < z := by unfold sgn; split; omega; split <;> omega

/-- one struct of the call's own, and what lay before is as it was -/
structure One (w : World) (a0 a1 : Value) (wr : World) : Prop where
  l : Bl2 wr w.heap.size a0 a1
  bel : Below w.heap.size w wr
theorem One.new (w : World) (a0 a1 : Value) (T : Nat) : One w a0 a1 (w.alloc (.cells #[a0, a1] T)) := ⟨Bl2.new w a0 a1 T, (Below.refl _ _).alloc (Nat.le_refl _) _⟩
theorem One.keep {w wr w2 : World} {a0 a1 : Value} (h : One w a0 a1 wr) (hb : Below wr.heap.size wr w2) : One w a0 a1 w2 := ⟨h.l.keep hb, h.bel.trans (hb.mono h.bel.size)⟩
theorem One.drew {w wr : World} {a0 a1 : Value} (h : One w a0 a1 wr) : One w a0 a1 wr.drew := h.keep (Below.refl _ _).drew
theorem One.alloc {w wr : World} {a0 a1 : Value} (h : One w a0 a1 wr) (o : Obj) : One w a0 a1 (wr.alloc o) := h.keep ((Below.refl _ _).alloc (Nat.le_refl _) o)

theorem ofint_min (wx : World) : Calls Tryd.prog 37 #[.int .i64 (-9223372036854775808)] wx (RetZ wx (-9223372036854775808)) := by
  obtain ⟨M, hM⟩ : ∃ M : Int, M = -9223372036854775808 := ⟨_, rfl⟩
  rw [← hM]
  exact ofint_any M wx (by omega) (by omega)
theorem ofint_max (wx : World) : Calls Tryd.prog 37 #[.int .i64 9223372036854775807] wx (RetZ wx 9223372036854775807) := by
  obtain ⟨M, hM⟩ : ∃ M : Int, M = 9223372036854775807 := ⟨_, rfl⟩
  rw [← hM]
  exact ofint_any M wx (by omega) (by omega)
end Go.Proofs.YtpneahdbiikonaaDoor
