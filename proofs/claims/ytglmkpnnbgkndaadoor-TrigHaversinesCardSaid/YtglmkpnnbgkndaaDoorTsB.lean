/- Trig: the program's tables, and the arcs and limbs that are read from them. -/
import Derived.Test.YtglmkpnnbgkndaaDoorTsA
namespace Go.Proofs.YtglmkpnnbgkndaaDoor
open Go.RowKit
set_option linter.unusedVariables false
set_option maxRecDepth 100000

/-- the tables hold what the program's text lays -/
structure Held (w : World) : Prop where
  r0 : w.cell? ⟨0, 0, none⟩ = some (.int .u64 5365940339316)
  r1 : w.cell? ⟨0, 1, none⟩ = some (.int .u64 7144251595963602554)
  i0 : ∀ i : Nat, i < 28 → w.cell? ⟨1, i * 2, none⟩ = some (.int .u64 (hb (L6.cf i)))
  i1 : ∀ i : Nat, i < 28 → w.cell? ⟨1, i * 2 + 1, none⟩ = some (.int .u64 (lb (L6.cf i)))
theorem Held.keep {w w1 : World} (h : Held w) (b : Below w.heap.size w w1) : Held w1 := by
  have l0 := World.block_lt_of_cell? _ _ h.r0
  have l1 := World.block_lt_of_cell? _ _ (h.i0 0 (by omega))
  exact ⟨(b.cell (p := ⟨0, 0, none⟩) l0).trans h.r0, (b.cell (p := ⟨0, 1, none⟩) l0).trans h.r1,
    fun i hi => (b.cell (p := ⟨1, i * 2, none⟩) l1).trans (h.i0 i hi), fun i hi => (b.cell (p := ⟨1, i * 2 + 1, none⟩) l1).trans (h.i1 i hi)⟩

theorem radians_any (n : Nat) (hn : n ≤ 2700000) (w : World) (H : Held w) :
    Calls Tryd.prog 69 #[.int .i64 n] w fun e w' => e = .returned (.agg #[.int .u64 (hb (L6.rad * n)), .int .u64 (lb (L6.rad * n))]) ∧ Below w.heap.size w w' := by
  unfold hb lb L6.rad
  have C1 := Lib.hid (fun (wx : World) => Tryd.bits_Mul64 7144251595963602554 n (by omega) (by omega) wx)
  obtain ⟨l, hl⟩ : ∃ x, x = 7144251595963602554 * n % 18446744073709551616 := ⟨_, rfl⟩
  obtain ⟨c, hc⟩ : ∃ x, x = 7144251595963602554 * n / 18446744073709551616 := ⟨_, rfl⟩
  obtain ⟨p, hp⟩ : ∃ x, x = 5365940339316 * n := ⟨_, rfl⟩
  obtain ⟨h, hh⟩ : ∃ x, x = p + c := ⟨_, rfl⟩
  rw [← hl, ← hc] at C1
  have e1 : 98984128154163587764785219737210 * n / 18446744073709551616 = h := by omega
  have e2 : 98984128154163587764785219737210 * n % 18446744073709551616 = l := by omega
  rw [e1, e2]
  have w0 : IntKind.u64.wrap (n : Int) = (n : Int) := by rw [IntKind.wrap_u64]; omega
  have w1 : IntKind.u64.wrap (5365940339316 * (n : Int)) = (p : Int) := by rw [IntKind.wrap_u64]; omega
  have w2 : IntKind.u64.wrap ((p : Int) + (c : Int)) = (h : Int) := by rw [IntKind.wrap_u64]; omega
  have n1 : (n : Int) ≤ 2700000 := by omega
  have n0 : (0 : Int) ≤ (n : Int) := by omega
  clear e1 e2 hl hc hp hh hn
  have K := H.keep (below1 w (.cells #[.int .u64 0, .int .u64 0] 74))
  obtain ⟨r0, r1, -, -⟩ := K
  obtain ⟨q0, q1, -, -⟩ := H
  simp only [Int.cast_ofNat_Int] at C1
  go_enter Tryd.func69, Tryd.ntmps69
  go_wp2_with fail
  refine (C1.out _).mono ?_
  rintro e w1 ⟨rfl, rfl⟩
  go_wp2_with fail
  refine bodyPost_ret (v := .agg #[.int .u64 h, .int .u64 l]) (by simp [results, Tryd.results69, go_sem]) rfl ⟨rfl, ?_⟩
  exact below1 _ _
end Go.Proofs.YtglmkpnnbgkndaaDoor
