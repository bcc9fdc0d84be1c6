/- Arctrig: angle's Turn, Inside, Agree. -/
import Derived.Test.YtebhflmmdfbjkaaDoorTsb
import Derived.BigQuiet
namespace Go.Proofs.YtebhflmmdfbjkaaDoor
open Go.RowKit
set_option linter.unusedVariables false
set_option maxRecDepth 100000

def vA (r : Bool) (R : Fx) : Fx := if r = true then R else ⟨0, 0, 1⟩
theorem vA_yes {r : Bool} (R : Fx) (h : r = true) : vA r R = R := if_pos h
theorem vA_no {r : Bool} (R : Fx) (h : r = false) : vA r R = ⟨0, 0, 1⟩ := if_neg (by rw [h]; simp)
def agB (a b c d : Int) : Bool := aok a b && (aok c d && agR a b c d)
def agE (a b c d : Int) : Int := if aok a b = true ∧ aok c d = true then 0 else 1
theorem phull (a b c d : Int) (w : World) :
    Calls Tryd.prog 49 #[.agg #[.int .i64 a, .int .i64 b], .agg #[.int .i64 c, .int .i64 d]] w fun e w' => e = .returned (vI (min a c) (max b d)) ∧ Below w.heap.size w w' := by
  unfold vI
  by_cases k1 : c < a
  · rw [show min a c = c by omega]
    by_cases k2 : d > b
    · rw [show max b d = d by omega]
      have A := At2.new w (.int .i64 a) (.int .i64 b) 25
      have A := A.alloc (.cells #[.int .i64 c, .int .i64 d] 25)
      have B := At2.new (w.alloc (.cells #[.int .i64 a, .int .i64 b] 25)) (.int .i64 c) (.int .i64 d) 25
      simp at B
      have A := A.alloc (.cells #[.int .i64 0, .int .i64 0] 25)
      have B := B.alloc (.cells #[.int .i64 0, .int .i64 0] 25)
      have R := At2.new ((w.alloc (.cells #[.int .i64 a, .int .i64 b] 25)).alloc (.cells #[.int .i64 c, .int .i64 d] 25)) (.int .i64 0) (.int .i64 0) 25
      simp at R
      have HB := Lib.hid (bstep (bstep (bstep (Below.refl w.heap.size w) (below1 w (.cells #[.int .i64 a, .int .i64 b] 25))) (below1 (w.alloc (.cells #[.int .i64 a, .int .i64 b] 25)) (.cells #[.int .i64 c, .int .i64 d] 25))) (below1 ((w.alloc (.cells #[.int .i64 a, .int .i64 b] 25)).alloc (.cells #[.int .i64 c, .int .i64 d] 25)) (.cells #[.int .i64 0, .int .i64 0] 25)))
      have HM := Lib.hid (show min a c = c ∧ max b d = d by omega)
      go_enter Tryd.func49, Tryd.ntmps49
      obtain ⟨A0, A1, -, -, -⟩ := id A
      obtain ⟨B0, B1, -, -, -⟩ := id B
      obtain ⟨R0, R1, R2, R3, R4⟩ := id R
      go_wp2_with fail
      refine bodyPost_ret (v := .agg #[.int .i64 c, .int .i64 d]) (by simp [results, Tryd.results49, go_sem]; exact HM.out) rfl ⟨rfl, ?_⟩
      exact below3 _ _ _ _
    · rw [show max b d = b by omega]
      have A := At2.new w (.int .i64 a) (.int .i64 b) 25
      have A := A.alloc (.cells #[.int .i64 c, .int .i64 d] 25)
      have B := At2.new (w.alloc (.cells #[.int .i64 a, .int .i64 b] 25)) (.int .i64 c) (.int .i64 d) 25
      simp at B
      have A := A.alloc (.cells #[.int .i64 0, .int .i64 0] 25)
      have B := B.alloc (.cells #[.int .i64 0, .int .i64 0] 25)
      have R := At2.new ((w.alloc (.cells #[.int .i64 a, .int .i64 b] 25)).alloc (.cells #[.int .i64 c, .int .i64 d] 25)) (.int .i64 0) (.int .i64 0) 25
      simp at R
      have HB := Lib.hid (bstep (bstep (bstep (Below.refl w.heap.size w) (below1 w (.cells #[.int .i64 a, .int .i64 b] 25))) (below1 (w.alloc (.cells #[.int .i64 a, .int .i64 b] 25)) (.cells #[.int .i64 c, .int .i64 d] 25))) (below1 ((w.alloc (.cells #[.int .i64 a, .int .i64 b] 25)).alloc (.cells #[.int .i64 c, .int .i64 d] 25)) (.cells #[.int .i64 0, .int .i64 0] 25)))
      have HM := Lib.hid (show min a c = c ∧ max b d = b by omega)
      go_enter Tryd.func49, Tryd.ntmps49
      obtain ⟨A0, A1, -, -, -⟩ := id A
      obtain ⟨B0, B1, -, -, -⟩ := id B
      obtain ⟨R0, R1, R2, R3, R4⟩ := id R
      go_wp2_with fail
      refine bodyPost_ret (v := .agg #[.int .i64 c, .int .i64 b]) (by simp [results, Tryd.results49, go_sem]; exact HM.out) rfl ⟨rfl, ?_⟩
      exact below3 _ _ _ _
  · rw [show min a c = a by omega]
    by_cases k2 : d > b
    · rw [show max b d = d by omega]
      have A := At2.new w (.int .i64 a) (.int .i64 b) 25
      have A := A.alloc (.cells #[.int .i64 c, .int .i64 d] 25)
      have B := At2.new (w.alloc (.cells #[.int .i64 a, .int .i64 b] 25)) (.int .i64 c) (.int .i64 d) 25
      simp at B
      have A := A.alloc (.cells #[.int .i64 0, .int .i64 0] 25)
      have B := B.alloc (.cells #[.int .i64 0, .int .i64 0] 25)
      have R := At2.new ((w.alloc (.cells #[.int .i64 a, .int .i64 b] 25)).alloc (.cells #[.int .i64 c, .int .i64 d] 25)) (.int .i64 0) (.int .i64 0) 25
      simp at R
      have HB := Lib.hid (bstep (bstep (bstep (Below.refl w.heap.size w) (below1 w (.cells #[.int .i64 a, .int .i64 b] 25))) (below1 (w.alloc (.cells #[.int .i64 a, .int .i64 b] 25)) (.cells #[.int .i64 c, .int .i64 d] 25))) (below1 ((w.alloc (.cells #[.int .i64 a, .int .i64 b] 25)).alloc (.cells #[.int .i64 c, .int .i64 d] 25)) (.cells #[.int .i64 0, .int .i64 0] 25)))
      have HM := Lib.hid (show min a c = a ∧ max b d = d by omega)
      go_enter Tryd.func49, Tryd.ntmps49
      obtain ⟨A0, A1, -, -, -⟩ := id A
      obtain ⟨B0, B1, -, -, -⟩ := id B
      obtain ⟨R0, R1, R2, R3, R4⟩ := id R
      go_wp2_with fail
      refine bodyPost_ret (v := .agg #[.int .i64 a, .int .i64 d]) (by simp [results, Tryd.results49, go_sem]; exact HM.out) rfl ⟨rfl, ?_⟩
      exact below3 _ _ _ _
    · rw [show max b d = b by omega]
      have A := At2.new w (.int .i64 a) (.int .i64 b) 25
      have A := A.alloc (.cells #[.int .i64 c, .int .i64 d] 25)
      have B := At2.new (w.alloc (.cells #[.int .i64 a, .int .i64 b] 25)) (.int .i64 c) (.int .i64 d) 25
      simp at B
      have A := A.alloc (.cells #[.int .i64 0, .int .i64 0] 25)
      have B := B.alloc (.cells #[.int .i64 0, .int .i64 0] 25)
      have R := At2.new ((w.alloc (.cells #[.int .i64 a, .int .i64 b] 25)).alloc (.cells #[.int .i64 c, .int .i64 d] 25)) (.int .i64 0) (.int .i64 0) 25
      simp at R
      have HB := Lib.hid (bstep (bstep (bstep (Below.refl w.heap.size w) (below1 w (.cells #[.int .i64 a, .int .i64 b] 25))) (below1 (w.alloc (.cells #[.int .i64 a, .int .i64 b] 25)) (.cells #[.int .i64 c, .int .i64 d] 25))) (below1 ((w.alloc (.cells #[.int .i64 a, .int .i64 b] 25)).alloc (.cells #[.int .i64 c, .int .i64 d] 25)) (.cells #[.int .i64 0, .int .i64 0] 25)))
      have HM := Lib.hid (show min a c = a ∧ max b d = b by omega)
      go_enter Tryd.func49, Tryd.ntmps49
      obtain ⟨A0, A1, -, -, -⟩ := id A
      obtain ⟨B0, B1, -, -, -⟩ := id B
      obtain ⟨R0, R1, R2, R3, R4⟩ := id R
      go_wp2_with fail
      refine bodyPost_ret (v := .agg #[.int .i64 a, .int .i64 b]) (by simp [results, Tryd.results49, go_sem]; exact HM.out) rfl ⟨rfl, ?_⟩
      exact below3 _ _ _ _
theorem phull_is (a b c d x y : Int) (hx : min a c = x) (hy : max b d = y) (w : World) :
    Calls Tryd.prog 49 #[.agg #[.int .i64 a, .int .i64 b], .agg #[.int .i64 c, .int .i64 d]] w fun e w' => e = .returned (.agg #[.int .i64 x, .int .i64 y]) ∧ Below w.heap.size w w' := by
  have h := phull a b c d w
  rw [hx, hy] at h
  exact h
set_option maxHeartbeats 1000000 in
theorem pTurn (a b : Int) (w : World) :
    Calls Tryd.prog 29 #[.agg #[.int .i64 a, .int .i64 b]] w fun e w' => e = .returned (vR (vA (aok a b) (aturnR a b))) ∧ Below w.heap.size w w' := by
  cases ha : aok a b
  · have C1 := Lib.hid (fun wx => pValid_is a b false ha wx)
    rw [vA_no _ rfl]
    unfold vR
    clear ha
    have A := At2.new w (.int .i64 a) (.int .i64 b) 25
    have A := A.alloc (.cells #[.int .i64 0, .int .i64 0] 25)
    have R := At2.new (w.alloc (.cells #[.int .i64 a, .int .i64 b] 25)) (.int .i64 0) (.int .i64 0) 25
    simp at R
    have HB := Lib.hid (bstep (bstep (Below.refl w.heap.size w) (below1 w (.cells #[.int .i64 a, .int .i64 b] 25))) (below1 (w.alloc (.cells #[.int .i64 a, .int .i64 b] 25)) (.cells #[.int .i64 0, .int .i64 0] 25)))
    go_enter Tryd.func29, Tryd.ntmps29
    obtain ⟨A0, A1, -, -, -⟩ := id A
    obtain ⟨R0, R1, R2, R3, R4⟩ := id R
    go_wp2_with fail
    refine (C1.out _).mono ?_
    rintro e w1 ⟨rfl, hb⟩
    have A := (A.keep hb)
    have R := (R.keep hb)
    have HB := Lib.hid (bstep HB.out hb)
    clear hb
    clear A0 A1 R0 R1 R2 R3 R4
    obtain ⟨A0, A1, -, -, -⟩ := id A
    obtain ⟨R0, R1, R2, R3, R4⟩ := id R
    obtain ⟨s0, s1⟩ := set2 R0 R1 (.int .i64 0) (.int .i64 0)
    go_wp2_with fail
    refine bodyPost_ret (v := .tuple #[.agg #[.int .i64 0, .int .i64 0], .int .i64 1]) (by simp [results, Tryd.results29, go_sem, s0, s1]) rfl ⟨rfl, ?_⟩
    exact below_set2 HB.out (by omega) _ _
  · have C1 := Lib.hid (fun wx => pValid_is a b true ha wx)
    obtain ⟨a1, a2, a3⟩ := (aok_iff _ _).1 ha
    rw [vA_yes _ rfl]
    unfold aturnR trL trH vR
    obtain ⟨p, hp⟩ : ∃ p, b - a = p := ⟨_, rfl⟩
    have p1 : -9223372036854775808 ≤ p := by omega
    have p2 : p ≤ 9223372036854775807 := by omega
    rw [hp]
    by_cases k : p ≥ 21600000
    · rw [if_pos (show 21600000 ≤ p from k), if_pos (show 21600000 ≤ p from k)]
      clear ha a1 a2 a3
      have A := At2.new w (.int .i64 a) (.int .i64 b) 25
      have A := A.alloc (.cells #[.int .i64 0, .int .i64 0] 25)
      have R := At2.new (w.alloc (.cells #[.int .i64 a, .int .i64 b] 25)) (.int .i64 0) (.int .i64 0) 25
      simp at R
      have HB := Lib.hid (bstep (bstep (Below.refl w.heap.size w) (below1 w (.cells #[.int .i64 a, .int .i64 b] 25))) (below1 (w.alloc (.cells #[.int .i64 a, .int .i64 b] 25)) (.cells #[.int .i64 0, .int .i64 0] 25)))
      go_enter Tryd.func29, Tryd.ntmps29
      obtain ⟨A0, A1, -, -, -⟩ := id A
      obtain ⟨R0, R1, R2, R3, R4⟩ := id R
      go_wp2_with fail
      refine (C1.out _).mono ?_
      rintro e w1 ⟨rfl, hb⟩
      have A := (A.keep hb)
      have R := (R.keep hb)
      have HB := Lib.hid (bstep HB.out hb)
      clear hb
      clear A0 A1 R0 R1 R2 R3 R4
      obtain ⟨A0, A1, -, -, -⟩ := id A
      obtain ⟨R0, R1, R2, R3, R4⟩ := id R
      obtain ⟨s0, s1⟩ := set2 R0 R1 (.int .i64 0) (.int .i64 21600000)
      go_wp2_with fail
      refine bodyPost_ret (v := .tuple #[.agg #[.int .i64 0, .int .i64 21600000], .int .i64 0]) (by simp [results, Tryd.results29, go_sem, s0, s1]) rfl ⟨rfl, ?_⟩
      exact below_set2 HB.out (by omega) _ _
    · rw [if_neg (show ¬ 21600000 ≤ p from k), if_neg (show ¬ 21600000 ≤ p from k)]
      have C2 := Lib.hid (fun wx => pWrap a wx)
      have hw := wrapN_in a
      unfold wrapN at hw C2
      obtain ⟨m, hm⟩ : ∃ m, a % 21600000 = m := ⟨_, rfl⟩
      rw [hm] at hw C2 ⊢
      obtain ⟨s, hs⟩ : ∃ s, m + b = s := ⟨_, rfl⟩
      obtain ⟨q, hq⟩ : ∃ q, s - a = q := ⟨_, rfl⟩
      rw [show m + p = q by omega]
      have s1' : -9223372036854775808 ≤ s := by omega
      have s2' : s ≤ 9223372036854775807 := by omega
      have q1 : -9223372036854775808 ≤ q := by omega
      have q2 : q ≤ 9223372036854775807 := by omega
      clear ha hw a1 a2 a3 hm
      have A := At2.new w (.int .i64 a) (.int .i64 b) 25
      have A := A.alloc (.cells #[.int .i64 0, .int .i64 0] 25)
      have R := At2.new (w.alloc (.cells #[.int .i64 a, .int .i64 b] 25)) (.int .i64 0) (.int .i64 0) 25
      simp at R
      have HB := Lib.hid (bstep (bstep (Below.refl w.heap.size w) (below1 w (.cells #[.int .i64 a, .int .i64 b] 25))) (below1 (w.alloc (.cells #[.int .i64 a, .int .i64 b] 25)) (.cells #[.int .i64 0, .int .i64 0] 25)))
      go_enter Tryd.func29, Tryd.ntmps29
      obtain ⟨A0, A1, -, -, -⟩ := id A
      obtain ⟨R0, R1, R2, R3, R4⟩ := id R
      go_wp2_with fail
      refine (C1.out _).mono ?_
      rintro e w1 ⟨rfl, hb⟩
      have A := (A.keep hb)
      have R := (R.keep hb)
      have HB := Lib.hid (bstep HB.out hb)
      clear hb
      clear A0 A1 R0 R1 R2 R3 R4
      obtain ⟨A0, A1, -, -, -⟩ := id A
      obtain ⟨R0, R1, R2, R3, R4⟩ := id R
      go_wp2_with fail
      refine (C2.out _).mono ?_
      rintro e w9 ⟨rfl, rfl⟩
      obtain ⟨s0, s1⟩ := set2 R0 R1 (.int .i64 m) (.int .i64 q)
      go_wp2_with fail
      refine bodyPost_ret (v := .tuple #[.agg #[.int .i64 m, .int .i64 q], .int .i64 0]) (by simp [results, Tryd.results29, go_sem, s0, s1]) rfl ⟨rfl, ?_⟩
      exact below_set2 HB.out (by omega) _ _

/-- two arcs agree if a whole number of turns is among the differences -/
theorem agree_plain {a b c d : Int} (h1 : a ≤ b) (h2 : c ≤ d) : decide (a - d ≤ (b - c) - wrapN (b - c)) = agR a b c d := by
  rw [Bool.eq_iff_iff, decide_eq_true_iff, agR_iff]
  simp only [agK_iff]
  unfold trL trH wrapN
  by_cases k : 21600000 ≤ b - a
  · simp only [if_pos k]
    by_cases m : 21600000 ≤ d - c
    · simp only [if_pos m]
      omega
    · simp only [if_neg m]
      omega
  · simp only [if_neg k]
    by_cases m : 21600000 ≤ d - c
    · simp only [if_pos m]
      omega
    · simp only [if_neg m]
      omega

set_option maxHeartbeats 2000000 in
theorem pInside (a b c d : Int) (w : World) :
    Calls Tryd.prog 27 #[.agg #[.int .i64 a, .int .i64 b], .agg #[.int .i64 c, .int .i64 d]] w fun e w' => e = .returned (.bool (ainR a b c d)) ∧ Below w.heap.size w w' := by
  unfold ainR
  cases ha : aok a b
  · have C1 := Lib.hid (fun wx => pValid_is a b false ha wx)
    rw [Bool.false_and, Bool.false_and]
    clear ha
    have A := At2.new w (.int .i64 a) (.int .i64 b) 25
    have A := A.alloc (.cells #[.int .i64 c, .int .i64 d] 25)
    have B := At2.new (w.alloc (.cells #[.int .i64 a, .int .i64 b] 25)) (.int .i64 c) (.int .i64 d) 25
    simp at B
    have HB := Lib.hid (bstep (bstep (Below.refl w.heap.size w) (below1 w (.cells #[.int .i64 a, .int .i64 b] 25))) (below1 (w.alloc (.cells #[.int .i64 a, .int .i64 b] 25)) (.cells #[.int .i64 c, .int .i64 d] 25)))
    go_enter Tryd.func27, Tryd.ntmps27
    obtain ⟨A0, A1, -, -, -⟩ := id A
    obtain ⟨B0, B1, -, -, -⟩ := id B
    go_wp2_with fail
    clear A0 A1 B0 B1
    obtain ⟨A0, A1⟩ := A.bel
    obtain ⟨B0, B1⟩ := B.bel
    refine wp_region_bel (by kernel_rfl) (by kernel_rfl) ?_
    repeat (go_big_quiet_step (first | (go_at_call 47; first | (with_reducible refine bel_of (C1.out _)))))
    refine wpQuiet_nil ?_
    intro _ hw'
    obtain ⟨pq, hw''⟩ := hw'
    subst hw''
    have A := A.keep pq.h
    have B := B.keep pq.h
    have HB := Lib.hid (bstep HB.out pq.h)
    clear A0 A1 B0 B1
    obtain ⟨A0, A1, -, -, -⟩ := id A
    obtain ⟨B0, B1, -, -, -⟩ := id B
    go_wp2_with fail
    go_ret
    exact ⟨rfl, HB.out⟩
  · cases hc : aok c d
    · have C1 := Lib.hid (fun wx => pValid_is a b true ha wx)
      have C2 := Lib.hid (fun wx => pValid_is c d false hc wx)
      rw [Bool.true_and, Bool.false_and]
      clear ha hc
      have A := At2.new w (.int .i64 a) (.int .i64 b) 25
      have A := A.alloc (.cells #[.int .i64 c, .int .i64 d] 25)
      have B := At2.new (w.alloc (.cells #[.int .i64 a, .int .i64 b] 25)) (.int .i64 c) (.int .i64 d) 25
      simp at B
      have HB := Lib.hid (bstep (bstep (Below.refl w.heap.size w) (below1 w (.cells #[.int .i64 a, .int .i64 b] 25))) (below1 (w.alloc (.cells #[.int .i64 a, .int .i64 b] 25)) (.cells #[.int .i64 c, .int .i64 d] 25)))
      go_enter Tryd.func27, Tryd.ntmps27
      obtain ⟨A0, A1, -, -, -⟩ := id A
      obtain ⟨B0, B1, -, -, -⟩ := id B
      go_wp2_with fail
      clear A0 A1 B0 B1
      obtain ⟨A0, A1⟩ := A.bel
      obtain ⟨B0, B1⟩ := B.bel
      refine wp_region_bel (by kernel_rfl) (by kernel_rfl) ?_
      repeat (go_big_quiet_step (first | (go_at_call 47; first | (with_reducible refine bel_of (C1.out _)) | (with_reducible refine bel_of (C2.out _)))))
      refine wpQuiet_nil ?_
      intro _ hw'
      obtain ⟨pq, hw''⟩ := hw'
      subst hw''
      have A := A.keep pq.h
      have B := B.keep pq.h
      have HB := Lib.hid (bstep HB.out pq.h)
      clear A0 A1 B0 B1
      obtain ⟨A0, A1, -, -, -⟩ := id A
      obtain ⟨B0, B1, -, -, -⟩ := id B
      go_wp2_with fail
      go_ret
      exact ⟨rfl, HB.out⟩
    · have C1 := Lib.hid (fun wx => pValid_is a b true ha wx)
      have C2 := Lib.hid (fun wx => pValid_is c d true hc wx)
      rw [Bool.true_and, Bool.true_and]
      obtain ⟨x, hx⟩ : ∃ x, min a c = x := ⟨_, rfl⟩
      obtain ⟨y, hy⟩ : ∃ y, max b d = y := ⟨_, rfl⟩
      have C3 := Lib.hid (fun wx => phull_is a b c d x y hx hy wx)
      by_cases k1 : x = c
      · have t1 : (x == c) = true := beq_iff_eq.2 k1
        by_cases k2 : y = d
        · have t2 : (y == d) = true := beq_iff_eq.2 k2
          rw [decide_eq_true (show c ≤ a ∧ b ≤ d by omega)]
          clear ha hc hx hy k1 k2
          have A := At2.new w (.int .i64 a) (.int .i64 b) 25
          have A := A.alloc (.cells #[.int .i64 c, .int .i64 d] 25)
          have B := At2.new (w.alloc (.cells #[.int .i64 a, .int .i64 b] 25)) (.int .i64 c) (.int .i64 d) 25
          simp at B
          have HB := Lib.hid (bstep (bstep (Below.refl w.heap.size w) (below1 w (.cells #[.int .i64 a, .int .i64 b] 25))) (below1 (w.alloc (.cells #[.int .i64 a, .int .i64 b] 25)) (.cells #[.int .i64 c, .int .i64 d] 25)))
          go_enter Tryd.func27, Tryd.ntmps27
          obtain ⟨A0, A1, -, -, -⟩ := id A
          obtain ⟨B0, B1, -, -, -⟩ := id B
          go_wp2_with fail
          clear A0 A1 B0 B1
          obtain ⟨A0, A1⟩ := A.bel
          obtain ⟨B0, B1⟩ := B.bel
          refine wp_region_bel (by kernel_rfl) (by kernel_rfl) ?_
          repeat (go_big_quiet_step (first | (go_at_call 47; first | (with_reducible refine bel_of (C1.out _)) | (with_reducible refine bel_of (C2.out _))) | (go_at_call 49; first | (with_reducible refine bel_of (C3.out _)))))
          refine wpQuiet_nil ?_
          intro _ hw'
          obtain ⟨pq, hw''⟩ := hw'
          subst hw''
          have A := A.keep pq.h
          have B := B.keep pq.h
          have HB := Lib.hid (bstep HB.out pq.h)
          clear A0 A1 B0 B1
          obtain ⟨A0, A1, -, -, -⟩ := id A
          obtain ⟨B0, B1, -, -, -⟩ := id B
          go_wp2_with fail
          go_ret
          exact ⟨rfl, HB.out⟩
        · have t2 : (y == d) = false := beq_eq_false_iff_ne.2 k2
          rw [decide_eq_false (show ¬ (c ≤ a ∧ b ≤ d) by omega)]
          clear ha hc hx hy k1 k2
          have A := At2.new w (.int .i64 a) (.int .i64 b) 25
          have A := A.alloc (.cells #[.int .i64 c, .int .i64 d] 25)
          have B := At2.new (w.alloc (.cells #[.int .i64 a, .int .i64 b] 25)) (.int .i64 c) (.int .i64 d) 25
          simp at B
          have HB := Lib.hid (bstep (bstep (Below.refl w.heap.size w) (below1 w (.cells #[.int .i64 a, .int .i64 b] 25))) (below1 (w.alloc (.cells #[.int .i64 a, .int .i64 b] 25)) (.cells #[.int .i64 c, .int .i64 d] 25)))
          go_enter Tryd.func27, Tryd.ntmps27
          obtain ⟨A0, A1, -, -, -⟩ := id A
          obtain ⟨B0, B1, -, -, -⟩ := id B
          go_wp2_with fail
          clear A0 A1 B0 B1
          obtain ⟨A0, A1⟩ := A.bel
          obtain ⟨B0, B1⟩ := B.bel
          refine wp_region_bel (by kernel_rfl) (by kernel_rfl) ?_
          repeat (go_big_quiet_step (first | (go_at_call 47; first | (with_reducible refine bel_of (C1.out _)) | (with_reducible refine bel_of (C2.out _))) | (go_at_call 49; first | (with_reducible refine bel_of (C3.out _)))))
          refine wpQuiet_nil ?_
          intro _ hw'
          obtain ⟨pq, hw''⟩ := hw'
          subst hw''
          have A := A.keep pq.h
          have B := B.keep pq.h
          have HB := Lib.hid (bstep HB.out pq.h)
          clear A0 A1 B0 B1
          obtain ⟨A0, A1, -, -, -⟩ := id A
          obtain ⟨B0, B1, -, -, -⟩ := id B
          go_wp2_with fail
          go_ret
          exact ⟨rfl, HB.out⟩
      · have t1 : (x == c) = false := beq_eq_false_iff_ne.2 k1
        rw [decide_eq_false (show ¬ (c ≤ a ∧ b ≤ d) by omega)]
        clear ha hc hx hy k1
        have A := At2.new w (.int .i64 a) (.int .i64 b) 25
        have A := A.alloc (.cells #[.int .i64 c, .int .i64 d] 25)
        have B := At2.new (w.alloc (.cells #[.int .i64 a, .int .i64 b] 25)) (.int .i64 c) (.int .i64 d) 25
        simp at B
        have HB := Lib.hid (bstep (bstep (Below.refl w.heap.size w) (below1 w (.cells #[.int .i64 a, .int .i64 b] 25))) (below1 (w.alloc (.cells #[.int .i64 a, .int .i64 b] 25)) (.cells #[.int .i64 c, .int .i64 d] 25)))
        go_enter Tryd.func27, Tryd.ntmps27
        obtain ⟨A0, A1, -, -, -⟩ := id A
        obtain ⟨B0, B1, -, -, -⟩ := id B
        go_wp2_with fail
        clear A0 A1 B0 B1
        obtain ⟨A0, A1⟩ := A.bel
        obtain ⟨B0, B1⟩ := B.bel
        refine wp_region_bel (by kernel_rfl) (by kernel_rfl) ?_
        repeat (go_big_quiet_step (first | (go_at_call 47; first | (with_reducible refine bel_of (C1.out _)) | (with_reducible refine bel_of (C2.out _))) | (go_at_call 49; first | (with_reducible refine bel_of (C3.out _)))))
        refine wpQuiet_nil ?_
        intro _ hw'
        obtain ⟨pq, hw''⟩ := hw'
        subst hw''
        have A := A.keep pq.h
        have B := B.keep pq.h
        have HB := Lib.hid (bstep HB.out pq.h)
        clear A0 A1 B0 B1
        obtain ⟨A0, A1, -, -, -⟩ := id A
        obtain ⟨B0, B1, -, -, -⟩ := id B
        go_wp2_with fail
        go_ret
        exact ⟨rfl, HB.out⟩

set_option maxHeartbeats 2000000 in
theorem pAgree (a b c d : Int) (w : World) :
    Calls Tryd.prog 31 #[.agg #[.int .i64 a, .int .i64 b], .agg #[.int .i64 c, .int .i64 d]] w fun e w' => e = .returned (.tuple #[.bool (agB a b c d), .int .i64 (agE a b c d)]) ∧ Below w.heap.size w w' := by
  unfold agB agE
  cases ha : aok a b
  · have C1 := Lib.hid (fun wx => pValid_is a b false ha wx)
    rw [Bool.false_and, if_neg (by simp)]
    clear ha
    have A := At2.new w (.int .i64 a) (.int .i64 b) 25
    have A := A.alloc (.cells #[.int .i64 c, .int .i64 d] 25)
    have B := At2.new (w.alloc (.cells #[.int .i64 a, .int .i64 b] 25)) (.int .i64 c) (.int .i64 d) 25
    simp at B
    have HB := Lib.hid (bstep (bstep (Below.refl w.heap.size w) (below1 w (.cells #[.int .i64 a, .int .i64 b] 25))) (below1 (w.alloc (.cells #[.int .i64 a, .int .i64 b] 25)) (.cells #[.int .i64 c, .int .i64 d] 25)))
    go_enter Tryd.func31, Tryd.ntmps31
    obtain ⟨A0, A1, -, -, -⟩ := id A
    obtain ⟨B0, B1, -, -, -⟩ := id B
    go_wp2_with fail
    refine (C1.out _).mono ?_
    rintro e w1 ⟨rfl, hb⟩
    have A := (A.keep hb)
    have B := (B.keep hb)
    have HB := Lib.hid (bstep HB.out hb)
    clear hb
    clear A0 A1 B0 B1
    obtain ⟨A0, A1, -, -, -⟩ := id A
    obtain ⟨B0, B1, -, -, -⟩ := id B
    go_wp2_with fail
    go_ret2
    exact ⟨rfl, HB.out⟩
  · cases hc : aok c d
    · have C1 := Lib.hid (fun wx => pValid_is a b true ha wx)
      have C2 := Lib.hid (fun wx => pValid_is c d false hc wx)
      rw [Bool.true_and, Bool.false_and, if_neg (by simp)]
      clear ha hc
      have A := At2.new w (.int .i64 a) (.int .i64 b) 25
      have A := A.alloc (.cells #[.int .i64 c, .int .i64 d] 25)
      have B := At2.new (w.alloc (.cells #[.int .i64 a, .int .i64 b] 25)) (.int .i64 c) (.int .i64 d) 25
      simp at B
      have HB := Lib.hid (bstep (bstep (Below.refl w.heap.size w) (below1 w (.cells #[.int .i64 a, .int .i64 b] 25))) (below1 (w.alloc (.cells #[.int .i64 a, .int .i64 b] 25)) (.cells #[.int .i64 c, .int .i64 d] 25)))
      go_enter Tryd.func31, Tryd.ntmps31
      obtain ⟨A0, A1, -, -, -⟩ := id A
      obtain ⟨B0, B1, -, -, -⟩ := id B
      go_wp2_with fail
      refine (C1.out _).mono ?_
      rintro e w1 ⟨rfl, hb⟩
      have A := (A.keep hb)
      have B := (B.keep hb)
      have HB := Lib.hid (bstep HB.out hb)
      clear hb
      clear A0 A1 B0 B1
      obtain ⟨A0, A1, -, -, -⟩ := id A
      obtain ⟨B0, B1, -, -, -⟩ := id B
      go_wp2_with fail
      refine (C2.out _).mono ?_
      rintro e w2 ⟨rfl, hb⟩
      have A := (A.keep hb)
      have B := (B.keep hb)
      have HB := Lib.hid (bstep HB.out hb)
      clear hb
      clear A0 A1 B0 B1
      obtain ⟨A0, A1, -, -, -⟩ := id A
      obtain ⟨B0, B1, -, -, -⟩ := id B
      go_wp2_with fail
      go_ret2
      exact ⟨rfl, HB.out⟩
    · have C1 := Lib.hid (fun wx => pValid_is a b true ha wx)
      have C2 := Lib.hid (fun wx => pValid_is c d true hc wx)
      obtain ⟨a1, a2, a3⟩ := (aok_iff _ _).1 ha
      obtain ⟨c1, c2, c3⟩ := (aok_iff _ _).1 hc
      have E := agree_plain a3 c3
      have C3 := Lib.hid (fun wx => pWrap (b - c) wx)
      have hw := wrapN_in (b - c)
      rw [Bool.true_and, Bool.true_and, if_pos ⟨rfl, rfl⟩, ← E]
      clear E ha hc
      obtain ⟨v, hv⟩ : ∃ v, wrapN (b - c) = v := ⟨_, rfl⟩
      rw [hv] at hw C3 ⊢
      obtain ⟨p, hp⟩ : ∃ p, a - d = p := ⟨_, rfl⟩
      obtain ⟨q, hq⟩ : ∃ q, b - c = q := ⟨_, rfl⟩
      have p1 : -9223372036854775808 ≤ p := by omega
      have p2 : p ≤ 9223372036854775807 := by omega
      have q1 : -9223372036854775808 ≤ q := by omega
      have q2 : q ≤ 9223372036854775807 := by omega
      rw [hp, hq]
      rw [hq] at C3
      have wp := i64_is (x := a - d) (by omega) (by omega)
      have wq := i64_is (x := b - c) (by omega) (by omega)
      rw [hp] at wp
      rw [hq] at wq
      obtain ⟨r, hr⟩ : ∃ r, q - v = r := ⟨_, rfl⟩
      have r1 : -9223372036854775808 ≤ r := by omega
      have r2 : r ≤ 9223372036854775807 := by omega
      rw [hr]
      clear hw hv a1 a2 a3 c1 c2 c3
      have A := At2.new w (.int .i64 a) (.int .i64 b) 25
      have A := A.alloc (.cells #[.int .i64 c, .int .i64 d] 25)
      have B := At2.new (w.alloc (.cells #[.int .i64 a, .int .i64 b] 25)) (.int .i64 c) (.int .i64 d) 25
      simp at B
      have HB := Lib.hid (bstep (bstep (Below.refl w.heap.size w) (below1 w (.cells #[.int .i64 a, .int .i64 b] 25))) (below1 (w.alloc (.cells #[.int .i64 a, .int .i64 b] 25)) (.cells #[.int .i64 c, .int .i64 d] 25)))
      go_enter Tryd.func31, Tryd.ntmps31
      obtain ⟨A0, A1, -, -, -⟩ := id A
      obtain ⟨B0, B1, -, -, -⟩ := id B
      go_wp2_with fail
      refine (C1.out _).mono ?_
      rintro e w1 ⟨rfl, hb⟩
      have A := (A.keep hb)
      have B := (B.keep hb)
      have HB := Lib.hid (bstep HB.out hb)
      clear hb
      clear A0 A1 B0 B1
      obtain ⟨A0, A1, -, -, -⟩ := id A
      obtain ⟨B0, B1, -, -, -⟩ := id B
      go_wp2_with fail
      refine (C2.out _).mono ?_
      rintro e w2 ⟨rfl, hb⟩
      have A := (A.keep hb)
      have B := (B.keep hb)
      have HB := Lib.hid (bstep HB.out hb)
      clear hb
      clear A0 A1 B0 B1
      obtain ⟨A0, A1, -, -, -⟩ := id A
      obtain ⟨B0, B1, -, -, -⟩ := id B
      go_wp2_with fail
      go_quiet (fail)
      go_wp2_with fail
      refine (C3.out _).mono ?_
      rintro e w9 ⟨rfl, rfl⟩
      go_wp2_with fail
      go_ret2
      exact ⟨rfl, bstep HB.out (below_drewN _ _ _)⟩

end Go.Proofs.YtebhflmmdfbjkaaDoor
