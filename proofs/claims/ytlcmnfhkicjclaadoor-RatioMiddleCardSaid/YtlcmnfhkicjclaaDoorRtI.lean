/- Contracts of the reference's Valid, Neg, Of. -/
import Derived.Test.YtlcmnfhkicjclaaDoorRtF
namespace Go.Proofs.YtlcmnfhkicjclaaDoor
open Go.RowKit
set_option linter.unusedVariables false

theorem vref (n d : Int) (h1 : -1073741824 ≤ n) (h2 : n ≤ 1073741824) (h3 : 1 ≤ d) (h4 : d ≤ 1073741824) :
    (rok n d = true → rN (Rat.divInt n d) = n ∧ rD (Rat.divInt n d) = d) ∧ (rok n d = false → rD (Rat.divInt n d) ≠ d) := by
  constructor
  · intro h
    obtain ⟨q, hq, rfl, rfl⟩ := rok_rat h
    rw [self_parts, rN_fit hq, rD_fit hq]
    exact ⟨rfl, rfl⟩
  · intro h
    rw [rok_not] at h
    have hg : n.natAbs.gcd d.natAbs ≠ 1 := by omega
    have hg0 := gcd_pos n d (by omega)
    cases hf : rfit (Rat.divInt n d)
    · rw [rD_big hf]; omega
    · rw [rD_fit hf, divInt_den n d (by omega)]
      have : d.natAbs / n.natAbs.gcd d.natAbs < d.natAbs := Nat.div_lt_self (by omega) (by omega)
      omega

theorem rvalid_out (n d : Int) (w : World) (h : n < -1073741824 ∨ 1073741824 < n ∨ d < 1 ∨ 1073741824 < d) :
    Calls Tryd.prog 16 #[.agg #[.int .i64 n, .int .i64 d]] w fun e w' => e = .returned (.bool false) ∧ Below w.heap.size w w' := by
  rcases (show n < -1073741824 ∨ (-1073741824 ≤ n ∧ 1073741824 < n) ∨ (-1073741824 ≤ n ∧ n ≤ 1073741824 ∧ d < 1) ∨ (-1073741824 ≤ n ∧ n ≤ 1073741824 ∧ 1 ≤ d ∧ 1073741824 < d) by omega) with h1 | ⟨h1, h2⟩ | ⟨h1, h2, h3⟩ | ⟨h1, h2, h3, h4⟩
  all_goals
    clear h
    go_enter Tryd.func16, Tryd.ntmps16
    go_wp2
    go_ret
    exact ⟨rfl, below1 _ _⟩

set_option maxHeartbeats 1000000 in
theorem rvalid_in (n d : Int) (w : World) (h1 : -1073741824 ≤ n) (h2 : n ≤ 1073741824) (h3 : 1 ≤ d) (h4 : d ≤ 1073741824) (r : Bool) (hr : rok n d = r) :
    Calls Tryd.prog 16 #[.agg #[.int .i64 n, .int .i64 d]] w fun e w' => e = .returned (.bool r) ∧ Below w.heap.size w w' := by
  have CM := Lib.hid (fun wx => rMake_any n d wx (by omega) (by omega) (by omega) (by omega) (by omega))
  obtain ⟨f1, f2⟩ := vref n d h1 h2 h3 h4
  obtain ⟨x, hx⟩ : ∃ x, x = rN (Rat.divInt n d) := ⟨_, rfl⟩
  obtain ⟨y, hy⟩ : ∃ y, y = rD (Rat.divInt n d) := ⟨_, rfl⟩
  obtain ⟨z, hz9⟩ : ∃ z, z = rE (Rat.divInt n d) := ⟨_, rfl⟩
  rw [← hx, ← hy, ← hz9] at CM
  rw [← hx, ← hy, hr] at f1
  rw [← hy, hr] at f2
  cases r
  · have hyd := f2 rfl
    have tyd : (y == d) = false := beq_eq_false_iff_ne.2 hyd
    clear f1 f2 hx hy hz9 hr hyd
    by_cases hxn : x = n
    · have hxn' := hxn.symm
      subst hxn'
      clear hxn
      go_enter Tryd.func16, Tryd.ntmps16
      go_wp2_with fail
      refine (CM.out _).mono ?_
      rintro e w1 ⟨rfl, hb1⟩
      obtain ⟨p0, p1, _, _, _⟩ := (At2.new w (.int .i64 n) (.int .i64 d) 24).keep hb1
      have HB := Lib.hid (alloc_below hb1)
      clear hb1
      go_wp2_with fail
      go_ret
      exact ⟨rfl, HB.out.alloc (by omega) _⟩

    · have txn : (x == n) = false := beq_eq_false_iff_ne.2 hxn
      clear hxn
      go_enter Tryd.func16, Tryd.ntmps16
      go_wp2_with fail
      refine (CM.out _).mono ?_
      rintro e w1 ⟨rfl, hb1⟩
      obtain ⟨p0, p1, _, _, _⟩ := (At2.new w (.int .i64 n) (.int .i64 d) 24).keep hb1
      have HB := Lib.hid (alloc_below hb1)
      clear hb1
      go_wp2_with fail
      go_ret
      exact ⟨rfl, HB.out.alloc (by omega) _⟩

  · obtain ⟨hxn, hyd⟩ := f1 rfl
    have hxn' := hxn.symm
    have hyd' := hyd.symm
    subst hxn' hyd'
    clear hxn hyd
    clear f1 f2 hr hx hy hz9
    go_enter Tryd.func16, Tryd.ntmps16
    go_wp2_with fail
    refine (CM.out _).mono ?_
    rintro e w1 ⟨rfl, hb1⟩
    obtain ⟨p0, p1, _, _, _⟩ := (At2.new w (.int .i64 n) (.int .i64 d) 24).keep hb1
    have HB := Lib.hid (alloc_below hb1)
    clear hb1
    go_wp2_with fail
    go_ret
    exact ⟨rfl, HB.out.alloc (by omega) _⟩

theorem rvalid_any (n d : Int) (w : World) :
    Calls Tryd.prog 16 #[.agg #[.int .i64 n, .int .i64 d]] w fun e w' => e = .returned (.bool (rok n d)) ∧ Below w.heap.size w w' := by
  by_cases h : -1073741824 ≤ n ∧ n ≤ 1073741824 ∧ 1 ≤ d ∧ d ≤ 1073741824
  · obtain ⟨h1, h2, h3, h4⟩ := h
    exact rvalid_in n d w h1 h2 h3 h4 (rok n d) rfl
  · have : rok n d = false := by rw [rok_not]; omega
    rw [this]
    exact rvalid_out n d w (by omega)
theorem rvalid_is (n d : Int) (b : Bool) (h : rok n d = b) (w : World) :
    Calls Tryd.prog 16 #[.agg #[.int .i64 n, .int .i64 d]] w fun e w' => e = .returned (.bool b) ∧ Below w.heap.size w w' := h ▸ rvalid_any n d w
theorem rNeg_any (n d : Int) (w : World) (h1 : -1073741824 ≤ n) (h2 : n ≤ 1073741824) :
    Calls Tryd.prog 46 #[.agg #[.int .i64 n, .int .i64 d]] w fun e w' => e = .returned (.agg #[.int .i64 (-n), .int .i64 d]) ∧ Below w.heap.size w w' := by
  go_enter Tryd.func46, Tryd.ntmps46
  go_wp2
  refine bodyPost_ret (v := .agg #[.int .i64 (-n), .int .i64 d]) (by simp [results, Tryd.results46, go_sem]) rfl ⟨rfl, ?_⟩
  exact below2 _ _ _
theorem rOf_any (n : Int) (w : World) :
    Calls Tryd.prog 52 #[.int .i64 n] w fun e w' => e = .returned (.agg #[.int .i64 n, .int .i64 1]) ∧ Below w.heap.size w w' := by
  go_enter Tryd.func52, Tryd.ntmps52
  go_wp2
  refine bodyPost_ret (v := .agg #[.int .i64 n, .int .i64 1]) (by simp [results, Tryd.results52, go_sem]) rfl ⟨rfl, ?_⟩
  exact below1 _ _
end Go.Proofs.YtlcmnfhkicjclaaDoor
