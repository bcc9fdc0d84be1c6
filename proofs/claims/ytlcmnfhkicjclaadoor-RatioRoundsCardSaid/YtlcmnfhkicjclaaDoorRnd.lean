/- RatioRounds: the walk of the law. -/
import Derived.Test.YtlcmnfhkicjclaaDoorRtW
import Derived.Test.YtlcmnfhkicjclaaDoorRtK
namespace Go.Proofs.YtlcmnfhkicjclaaDoor
open Go.RowKit
set_option linter.unusedVariables false

theorem rnd_bad (n d : Int) (w : World) (htab : Lib.TabIs Tryd.prog w "internal/strconv.uint64pow10" .u64 Lib.pow10Tab) (hk : rok n d = false) :
    Calls Tryd.prog 10 #[.agg #[.int .i64 n, .int .i64 d]] w fun e w' => e = .returned (.bool true) ∧ Below w.heap.size w w' := by
  have CA := Lib.hid (fun wx (hb : Below w.heap.size w wx) => awake_any wx (Lib.tabBelow_of_tabIs htab wx hb))
  have CV := Lib.hid (fun wx => rvalid_is n d false hk wx)
  clear htab hk
  go_enter Tryd.func10, Tryd.ntmps10
  go_wp2_with fail
  refine (CA.out _ (below1 _ _)).mono ?_
  rintro e w1 ⟨rfl, hb⟩
  obtain ⟨p0, p1, _, _, _⟩ := (At2.new w (.int .i64 n) (.int .i64 d) 24).keep hb
  have HB := Lib.hid (alloc_below hb)
  clear hb
  go_wp2_with fail
  refine (CV.out _).mono ?_
  rintro e w2 ⟨rfl, hb⟩
  have HB := Lib.hid (bstep HB.out hb)
  clear hb
  go_wp2_with fail
  go_ret
  exact ⟨rfl, HB.out⟩

theorem rnd_facts (n d : Int) (h1 : -1073741824 ≤ n) (h2 : n ≤ 1073741824) (h3 : 1 ≤ d) (h4 : d ≤ 1073741824) (q r p : Int) (hq : q = n / d) (hr : r = (2 * n + d) / (2 * d)) (hp : p = q * d) :
    -1073741824 ≤ q ∧ q ≤ 1073741824 ∧ 0 ≤ n - p ∧ n - p < d ∧ (d ≤ 2 * (n - p) → r = q + 1) ∧ (¬ d ≤ 2 * (n - p) → r = q) := by
  have e := Int.mul_ediv_add_emod n d
  have m1 := Int.emod_nonneg n (show d ≠ 0 by omega)
  have m2 := Int.emod_lt_of_pos n (show 0 < d by omega)
  rw [← hq, Int.mul_comm, ← hp] at e
  have b1 : n / d ≤ 1073741824 := Int.ediv_le_of_le_mul (by omega) (by have := Int.mul_le_mul_of_nonneg_left h3 (show (0 : Int) ≤ 1073741824 by omega); omega)
  have b2 : -1073741824 ≤ n / d := Int.le_ediv_of_mul_le (by omega) (by have := Int.mul_le_mul_of_nonneg_left h3 (show (0 : Int) ≤ 1073741824 by omega); omega)
  refine ⟨by omega, by omega, by omega, by omega, ?_, ?_⟩
  · intro h
    rw [hr, Int.ediv_eq_iff_of_pos (by omega)]
    have e2 : (q + 1) * (2 * d) = 2 * p + 2 * d := by rw [hp, Int.add_mul, Int.one_mul, ← Int.mul_assoc, Int.mul_comm q 2, Int.mul_assoc]
    rw [e2]; omega
  · intro h
    rw [hr, Int.ediv_eq_iff_of_pos (by omega)]
    have e2 : q * (2 * d) = 2 * p := by rw [hp, ← Int.mul_assoc, Int.mul_comm q 2, Int.mul_assoc]
    rw [e2]; omega

set_option maxHeartbeats 1000000 in
theorem rnd_ok (n d : Int) (w : World) (htab : Lib.TabIs Tryd.prog w "internal/strconv.uint64pow10" .u64 Lib.pow10Tab) (hk : rok n d = true) :
    Calls Tryd.prog 10 #[.agg #[.int .i64 n, .int .i64 d]] w fun e w' => e = .returned (.bool true) ∧ Below w.heap.size w w' := by
  have CA := Lib.hid (fun wx (hb : Below w.heap.size w wx) => awake_any wx (Lib.tabBelow_of_tabIs htab wx hb))
  have CV := Lib.hid (fun wx => rvalid_is n d true hk wx)
  have CF := Lib.hid (fun wx => pFloor n d wx hk)
  have CR := Lib.hid (fun wx => pRound n d wx hk)
  have hk := (rok_iff _ _).1 hk
  obtain ⟨k1, k2, k3, k4, -⟩ := hk
  obtain ⟨q, hq⟩ : ∃ q, q = n / d := ⟨_, rfl⟩
  obtain ⟨r, hr⟩ : ∃ r, r = (2 * n + d) / (2 * d) := ⟨_, rfl⟩
  obtain ⟨p, hp⟩ : ∃ p, q * d = p := ⟨_, rfl⟩
  obtain ⟨f1, f2, f3, f4, f5, f6⟩ := rnd_facts n d k1 k2 k3 k4 q r p hq hr hp.symm
  rw [← hq] at CF
  rw [← hr] at CR
  clear htab hq hr
  have t1 : decide (q < -1073741824) = false := decide_eq_false (by omega)
  have t2 : decide (1073741824 < q) = false := decide_eq_false (by omega)
  obtain ⟨s, hs⟩ : ∃ s, n - p = s := ⟨_, rfl⟩
  have p1 : -9223372036854775808 ≤ p := by omega
  have p2 : p ≤ 9223372036854775807 := by omega
  rw [hs] at f3 f4 f5 f6
  have t3 : decide (s < 0) = false := decide_eq_false (by omega)
  have t4 : decide (d ≤ s) = false := decide_eq_false (by omega)
  by_cases h : d ≤ 2 * s
  · have e := f5 h
    have t5 : decide (d ≤ 2 * s) = true := decide_eq_true h
    have t6 : (r == q + 1) = true := by rw [beq_iff_eq]; exact e
    clear f5 f6 e
    go_enter Tryd.func10, Tryd.ntmps10
    go_wp2_with fail
    refine (CA.out _ (below1 _ _)).mono ?_
    rintro e w1 ⟨rfl, hb⟩
    have A := (At2.new w (.int .i64 n) (.int .i64 d) 24).keep hb
    have HB := Lib.hid (alloc_below hb)
    clear hb
    obtain ⟨p0, p1', _, _, _⟩ := id A
    go_wp2_with fail
    refine (CV.out _).mono ?_
    rintro e w2 ⟨rfl, hb⟩
    have A := A.keep hb
    have HB := Lib.hid (bstep HB.out hb)
    clear hb p0 p1'
    obtain ⟨p0, p1', _, _, _⟩ := id A
    go_wp2_with fail
    refine (CF.out _).mono ?_
    rintro e w3 ⟨rfl, hb⟩
    have A := A.keep hb
    have HB := Lib.hid (bstep HB.out hb)
    clear hb p0 p1'
    obtain ⟨p0, p1', _, _, _⟩ := id A
    go_wp2_with fail
    refine (CR.out _).mono ?_
    rintro e w4 ⟨rfl, hb⟩
    have A := A.keep hb
    have HB := Lib.hid (bstep HB.out hb)
    clear hb p0 p1'
    obtain ⟨p0, p1', _, _, _⟩ := id A
    go_wp2_with fail
    go_ret
    exact ⟨rfl, HB.out⟩
  · have e := f6 h
    have t5 : decide (d ≤ 2 * s) = false := decide_eq_false h
    have t6 : (r == q) = true := by rw [beq_iff_eq]; exact e
    clear f5 f6 e
    go_enter Tryd.func10, Tryd.ntmps10
    go_wp2_with fail
    refine (CA.out _ (below1 _ _)).mono ?_
    rintro e w1 ⟨rfl, hb⟩
    have A := (At2.new w (.int .i64 n) (.int .i64 d) 24).keep hb
    have HB := Lib.hid (alloc_below hb)
    clear hb
    obtain ⟨p0, p1', _, _, _⟩ := id A
    go_wp2_with fail
    refine (CV.out _).mono ?_
    rintro e w2 ⟨rfl, hb⟩
    have A := A.keep hb
    have HB := Lib.hid (bstep HB.out hb)
    clear hb p0 p1'
    obtain ⟨p0, p1', _, _, _⟩ := id A
    go_wp2_with fail
    refine (CF.out _).mono ?_
    rintro e w3 ⟨rfl, hb⟩
    have A := A.keep hb
    have HB := Lib.hid (bstep HB.out hb)
    clear hb p0 p1'
    obtain ⟨p0, p1', _, _, _⟩ := id A
    go_wp2_with fail
    refine (CR.out _).mono ?_
    rintro e w4 ⟨rfl, hb⟩
    have A := A.keep hb
    have HB := Lib.hid (bstep HB.out hb)
    clear hb p0 p1'
    obtain ⟨p0, p1', _, _, _⟩ := id A
    go_wp2_with fail
    go_ret
    exact ⟨rfl, HB.out⟩
end Go.Proofs.YtlcmnfhkicjclaaDoor
