/- Contract of ratio.Valid. -/
import Derived.Test.YtlcmnfhkicjclaaDoorRtB
namespace Go.Proofs.YtlcmnfhkicjclaaDoor
open Go.RowKit
set_option linter.unusedVariables false

theorem valid_out (n d : Int) (w : World) (h : n < -1073741824 ∨ 1073741824 < n ∨ d < 1 ∨ 1073741824 < d) :
    Calls Tryd.prog 15 #[.agg #[.int .i64 n, .int .i64 d]] w fun e w' => e = .returned (.bool false) ∧ Below w.heap.size w w' := by
  rcases (show n < -1073741824 ∨ (-1073741824 ≤ n ∧ 1073741824 < n) ∨ (-1073741824 ≤ n ∧ n ≤ 1073741824 ∧ d < 1) ∨ (-1073741824 ≤ n ∧ n ≤ 1073741824 ∧ 1 ≤ d ∧ 1073741824 < d) by omega) with h1 | ⟨h1, h2⟩ | ⟨h1, h2, h3⟩ | ⟨h1, h2, h3, h4⟩
  all_goals
    clear h
    go_enter Tryd.func15, Tryd.ntmps15
    go_wp2
    go_ret
    exact ⟨rfl, below1 _ _⟩

set_option maxRecDepth 100000 in
set_option maxHeartbeats 2000000 in
theorem valid_in (n d : Int) (w : World) (h1 : -1073741824 ≤ n) (h2 : n ≤ 1073741824) (h3 : 1 ≤ d) (h4 : d ≤ 1073741824) (r : Bool) (hr : r = decide (n.natAbs.gcd d.natAbs = 1)) :
    Calls Tryd.prog 15 #[.agg #[.int .i64 n, .int .i64 d]] w fun e w' => e = .returned (.bool r) ∧ Below w.heap.size w w' := by
  have CN := Lib.hid (fun wx => absolute_q n wx (by omega) (by omega))
  have CD := Lib.hid (fun wx => absolute_q d wx (by omega) (by omega))
  have CG := Lib.hid (fun wx => cd_q n.natAbs d.natAbs wx (by omega) (by omega))
  have E : Hid ((((n.natAbs.gcd d.natAbs : Nat) : Int) == 1) = r) := by show (((n.natAbs.gcd d.natAbs : Nat) : Int) == 1) = r; rw [hr, Bool.eq_iff_iff]; simp; omega
  obtain ⟨N, hN⟩ : ∃ N, N = n.natAbs := ⟨_, rfl⟩
  obtain ⟨D, hD⟩ : ∃ D, D = d.natAbs := ⟨_, rfl⟩
  rw [← hN] at CN CG E
  rw [← hD] at CD CG E
  obtain ⟨g, hg⟩ : ∃ g, g = N.gcd D := ⟨_, rfl⟩
  rw [← hg] at CG E
  have E' := E.out
  clear hN hD hg hr E
  go_enter Tryd.func15, Tryd.ntmps15
  go_wp2_with fail
  go_quiet (first | (go_at_call 44; first | (with_reducible refine Calls.quiet_of_same (CN.out _)) | (with_reducible refine Calls.quiet_of_same (CD.out _))) | (go_at_call 45; refine Calls.quiet_of (CG.out _)))
  go_wp2
  go_ret
  exact ⟨rfl, (below1 _ _).trans (below_drewN _ _ _)⟩
theorem valid_any (n d : Int) (w : World) :
    Calls Tryd.prog 15 #[.agg #[.int .i64 n, .int .i64 d]] w fun e w' => e = .returned (.bool (rok n d)) ∧ Below w.heap.size w w' := by
  by_cases h : -1073741824 ≤ n ∧ n ≤ 1073741824 ∧ 1 ≤ d ∧ d ≤ 1073741824
  · obtain ⟨h1, h2, h3, h4⟩ := h
    refine valid_in n d w h1 h2 h3 h4 (rok n d) ?_
    unfold rok
    simp [h1, h2, h3, h4]
  · have : rok n d = false := by rw [rok_not]; omega
    rw [this]
    exact valid_out n d w (by omega)
theorem valid_is (n d : Int) (b : Bool) (h : rok n d = b) (w : World) :
    Calls Tryd.prog 15 #[.agg #[.int .i64 n, .int .i64 d]] w fun e w' => e = .returned (.bool b) ∧ Below w.heap.size w w' := h ▸ valid_any n d w
end Go.Proofs.YtlcmnfhkicjclaaDoor
