/- Contract of wide.halves, and the run of math/bits.Sub64. -/
import Derived.Test.YtdkigfcglfgpoaaWdB
import Derived.Shelf.Spec.BitsCarry
namespace Go.Proofs.Ytdkigfcglfgpoaa.wd
open Go.RowKit
set_option linter.unusedVariables false

theorem sub64_run (x y b : Nat) (hb : b ≤ 1) (w : World) :
    (callFunc 82 #[.int .u64 x, .int .u64 y, .int .u64 b]).run Try.prog w =
      .ok (.value (.tuple #[.int .u64 (((x + 18446744073709551616 - y - b) % 18446744073709551616 : Nat) : Int), .int .u64 ((if x < y + b then 1 else 0 : Nat) : Int)])) w := by
  rw [run_callFunc_extern Try.func82 (by kernel_rfl) (by kernel_rfl) (by kernel_rfl) (e := sub64Entry) (by kernel_rfl), run_sub64 x y b hb]
  rfl

theorem or_low (h l : Int) (h0 : 0 ≤ l) (h1 : l < 1152921504606846976) :
    bits .or .u64 (IntKind.u64.wrap (IntKind.u64.wrap h * 1152921504606846976)) l = wv h l % 18446744073709551616 := by
  have e1 : (BitVec.ofInt 64 (IntKind.u64.wrap (IntKind.u64.wrap h * 1152921504606846976))).toNat = (h % 16).toNat <<< 60 := by
    rw [BitVec.toNat_ofInt, IntKind.wrap_u64, IntKind.wrap_u64, Nat.shiftLeft_eq]; omega
  have e2 : (BitVec.ofInt 64 l).toNat = l.toNat := by rw [BitVec.toNat_ofInt]; omega
  show IntKind.u64.wrap ((BitVec.ofInt 64 (IntKind.u64.wrap (IntKind.u64.wrap h * 1152921504606846976)) ||| BitVec.ofInt 64 l).toNat : Int) = _
  rw [BitVec.toNat_or, e1, e2, ← Nat.shiftLeft_add_eq_or_of_lt (by omega), Nat.shiftLeft_eq, IntKind.wrap_u64]
  unfold wv
  omega

theorem or_low_pos (h l : Int) (hs : 0 ≤ h) (h2 : h < 1152921504606846976) (h0 : 0 ≤ l) (h1 : l < 1152921504606846976) :
    bits .or .u64 (IntKind.u64.wrap (h * 1152921504606846976)) l = wv h l % 18446744073709551616 := by
  have := or_low h l h0 h1
  rw [show IntKind.u64.wrap h = h from IntWalk.u64_in h (by omega)] at this
  exact this

set_option maxHeartbeats 400000 in
theorem halves_pos (h l : Int) (w : World) (hk : wok h l = true) (hs : 0 ≤ h) :
    Calls Try.prog 77 #[.agg #[.int .i64 h, .int .i64 l]] w fun e w' => e = .returned (.tuple #[.int .u64 (((wv h l).natAbs / 18446744073709551616 : Nat) : Int), .int .u64 (((wv h l).natAbs % 18446744073709551616 : Nat) : Int)]) ∧ Below w.heap.size w w' := by
  obtain ⟨k1, k2, k3, k4⟩ := (wok_iff _ _).1 hk
  have hor := or_low_pos h l hs k2 k3 k4
  obtain ⟨x, hx⟩ : ∃ x, x = wv h l % 18446744073709551616 := ⟨_, rfl⟩
  rw [← hx] at hor
  have e1 : (((wv h l).natAbs / 18446744073709551616 : Nat) : Int) = h / 16 := by unfold wv; omega
  have e2 : (((wv h l).natAbs % 18446744073709551616 : Nat) : Int) = x := by rw [hx]; unfold wv; omega
  rw [e1, e2]
  clear e1 e2 hx hk
  go_enter Try.func77, Try.ntmps77
  go_wp2_with fail
  go_quiet (fail)
  go_wp2_with fail
  go_ret2
  exact ⟨rfl, below_drewN (below1 w _) _⟩

set_option maxHeartbeats 400000 in
theorem halves_neg (h l : Int) (w : World) (hk : wok h l = true) (hs : h < 0) :
    Calls Try.prog 77 #[.agg #[.int .i64 h, .int .i64 l]] w fun e w' => e = .returned (.tuple #[.int .u64 (((wv h l).natAbs / 18446744073709551616 : Nat) : Int), .int .u64 (((wv h l).natAbs % 18446744073709551616 : Nat) : Int)]) ∧ Below w.heap.size w w' := by
  obtain ⟨k1, k2, k3, k4⟩ := (wok_iff _ _).1 hk
  have hor := or_low h l k3 k4
  obtain ⟨x, hx⟩ : ∃ x : Nat, (x : Int) = wv h l % 18446744073709551616 := ⟨(wv h l % 18446744073709551616).toNat, by omega⟩
  rw [← hx] at hor
  obtain ⟨y, hy⟩ : ∃ y : Nat, IntKind.u64.wrap (h / 16) = (y : Int) := ⟨(IntKind.u64.wrap (h / 16)).toNat, by rw [IntKind.wrap_u64]; omega⟩
  have hy2 : (y : Int) = h / 16 + 18446744073709551616 := by rw [← hy, IntKind.wrap_u64]; omega
  obtain ⟨b, hb⟩ : ∃ b : Nat, b = if 0 < x + 0 then 1 else 0 := ⟨_, rfl⟩
  have hb1 : b ≤ 1 := by rw [hb]; split <;> omega
  have S1 := fun wx => sub64_run 0 x 0 (by omega) wx
  have S2 := fun wx => sub64_run 0 y b hb1 wx
  rw [← hb] at S1
  obtain ⟨x', hx'⟩ : ∃ x' : Nat, x' = (0 + 18446744073709551616 - x - 0) % 18446744073709551616 := ⟨_, rfl⟩
  obtain ⟨y', hy'⟩ : ∃ y' : Nat, y' = (0 + 18446744073709551616 - y - b) % 18446744073709551616 := ⟨_, rfl⟩
  obtain ⟨c', hc'⟩ : ∃ c' : Nat, c' = if 0 < y + b then 1 else 0 := ⟨_, rfl⟩
  rw [← hx'] at S1
  rw [← hy', ← hc'] at S2
  have e1 : (wv h l).natAbs / 18446744073709551616 = y' := by
    rw [hy', hb]; unfold wv at hx ⊢; split <;> omega
  have e2 : (wv h l).natAbs % 18446744073709551616 = x' := by
    rw [hx']; unfold wv at hx ⊢; omega
  rw [e1, e2]
  simp only [Int.cast_ofNat_Int] at S1 S2
  clear e1 e2 hx hx' hy' hc' hy2 hb hb1 hk
  go_enter Try.func77, Try.ntmps77
  go_wp2_with fail
  go_quiet (fail)
  go_wp2_with fail
  go_ret2
  exact ⟨rfl, below_drewN (below1 w _) _⟩

theorem halves_any (h l : Int) (w : World) (hk : wok h l = true) :
    Calls Try.prog 77 #[.agg #[.int .i64 h, .int .i64 l]] w fun e w' => e = .returned (.tuple #[.int .u64 (((wv h l).natAbs / 18446744073709551616 : Nat) : Int), .int .u64 (((wv h l).natAbs % 18446744073709551616 : Nat) : Int)]) ∧ Below w.heap.size w w' := by
  by_cases hs : h < 0
  · exact halves_neg h l w hk hs
  · exact halves_pos h l w hk (by omega)
end Go.Proofs.Ytdkigfcglfgpoaa.wd
