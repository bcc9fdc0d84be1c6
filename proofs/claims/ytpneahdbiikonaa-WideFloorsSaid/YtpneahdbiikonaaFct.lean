/- WideFactors: the walk of the law. -/
import Derived.Test.YtpneahdbiikonaaAwk
namespace Go.Proofs.Ytpneahdbiikonaa
open Go.RowKit
set_option linter.unusedVariables false

def farB (n : Int) : Bool := decide (n < -288230376151711744 ∨ 288230376151711744 < n)
theorem far_any (n : Int) (w : World) :
    Calls Try.prog 34 #[.int .i64 n] w fun e w' => e = .returned (.bool (farB n)) ∧ w = w' := by
  have D : Hid (farB n = decide (n < -288230376151711744 ∨ 288230376151711744 < n)) := by show farB n = _; rfl
  by_cases h1 : n < -288230376151711744
  · go_enter Try.func34, Try.ntmps34
    go_wp2
    go_ret
    exact ⟨ret_bool (by rw [D.out]; simp; omega), rfl⟩
  · by_cases h2 : 288230376151711744 < n
    · go_enter Try.func34, Try.ntmps34
      go_wp2
      go_ret
      exact ⟨ret_bool (by rw [D.out]; simp; omega), rfl⟩
    · go_enter Try.func34, Try.ntmps34
      go_wp2
      go_ret
      exact ⟨ret_bool (by rw [D.out]; simp; omega), rfl⟩
theorem far_is (n : Int) (b : Bool) (h : farB n = b) (w : World) :
    Calls Try.prog 34 #[.int .i64 n] w fun e w' => e = .returned (.bool b) ∧ w = w' := by
  have := far_any n w; rw [h] at this; exact this
theorem far_no (n : Int) (h : farB n = false) : -288230376151711744 ≤ n ∧ n ≤ 288230376151711744 := by
  unfold farB at h; rw [decide_eq_false_iff_not] at h; omega

theorem fit_small (n : Int) (h : n.natAbs ≤ 664613997892457936451903530140172288) : wfit n = true := by
  rw [wfit_iff]; unfold wh; omega
theorem mul_small (a b : Int) (ha : a.natAbs ≤ 576460752303423488) (hb : b.natAbs ≤ 576460752303423488) : (a * b).natAbs ≤ 332306998946228968225951765070086144 := by
  rw [Int.natAbs_mul]
  exact Nat.mul_le_mul ha hb

/-- Product of numbers whose product fits -/
theorem product_fit (a b : Int) (w : World) (a1 : -9223372036854775808 ≤ a) (a2 : a ≤ 9223372036854775807) (b1 : -9223372036854775808 ≤ b) (b2 : b ≤ 9223372036854775807) (hf : wfit (a * b) = true) :
    Calls Try.prog 27 #[.int .i64 a, .int .i64 b] w fun e w' => e = .returned (.tuple #[.agg #[.int .i64 (wh (a * b)), .int .i64 (wl (a * b))], .int .i64 0]) ∧ Below w.heap.size w w' := by
  have := product_any a b w a1 a2 b1 b2
  rw [show fitH (a * b) = wh (a * b) by unfold fitH; rw [if_pos hf], show fitL (a * b) = wl (a * b) by unfold fitL; rw [if_pos hf], show fitE (a * b) = 0 by unfold fitE; rw [if_pos hf]] at this
  exact this
theorem add_fit (n m : Int) (w : World) (hn : wfit n = true) (hm : wfit m = true) (hf : wfit (n + m) = true) :
    Calls Try.prog 21 #[.agg #[.int .i64 (wh n), .int .i64 (wl n)], .agg #[.int .i64 (wh m), .int .i64 (wl m)]] w fun e w' => e = .returned (.tuple #[.agg #[.int .i64 (wh (n + m)), .int .i64 (wl (n + m))], .int .i64 0]) ∧ Below w.heap.size w w' := by
  have := add_ok (wh n) (wl n) (wh m) (wl m) w (by rw [wok_parts]; exact hn) (by rw [wok_parts]; exact hm)
  rw [wv_parts, wv_parts, show fitH (n + m) = wh (n + m) by unfold fitH; rw [if_pos hf], show fitL (n + m) = wl (n + m) by unfold fitL; rw [if_pos hf], show fitE (n + m) = 0 by unfold fitE; rw [if_pos hf]] at this
  exact this

theorem qt_exact (a b : Int) (hb : b ≠ 0) (d : Bool) : qt (a * b) b d = a := by
  have h1 : ∀ x y : Int, y ≠ 0 → qdn (x * y) y = x := by
    intro x y hy
    unfold qdn
    split
    · exact Int.mul_ediv_cancel x hy
    · rw [← Int.mul_neg]; exact Int.mul_ediv_cancel x (by omega)
  unfold qt
  split
  · exact h1 a b hb
  · unfold qup
    rw [← Int.neg_mul, h1 (-a) b hb, Int.neg_neg]
theorem quo_exact (a b : Int) (hb : b ≠ 0) (d : Bool) (hf : wfit (a * b) = true) (a1 : -9223372036854775808 ≤ a) (a2 : a ≤ 9223372036854775807) :
    rqV (wh (a * b)) (wl (a * b)) b d = a ∧ rqE (wh (a * b)) (wl (a * b)) b d = 0 := by
  have hk : wok (wh (a * b)) (wl (a * b)) = true := by rw [wok_parts]; exact hf
  have hi : isI a = true := (isI_iff a).2 ⟨a1, a2⟩
  constructor
  · unfold rqV; rw [if_pos ⟨hk, hb⟩, wv_parts, qt_exact a b hb d]; unfold qV; rw [if_pos hi]
  · unfold rqE; rw [if_pos hk, if_neg hb, wv_parts, qt_exact a b hb d]; unfold qE; rw [if_pos hi]

theorem fct_far1 (a b c : Int) (w : World) (h : farB a = true) :
    Calls Try.prog 9 #[.int .i64 a, .int .i64 b, .int .i64 c] w fun e w' => e = .returned (.bool true) ∧ Below w.heap.size w w' := by
  have C1 := Lib.hid (fun (wx : World) => far_is a true h wx)
  clear h
  go_enter Try.func9, Try.ntmps9
  go_wp2_with fail
  refine (awake_any _).mono ?_
  rintro e w1 ⟨rfl, hb1⟩
  have HB1 := Lib.hid hb1
  clear hb1
  go_wp2_with fail
  refine (C1.out _).mono ?_
  rintro e w' ⟨rfl, rfl⟩
  go_wp2_with fail
  go_ret
  exact ⟨rfl, HB1.out⟩
theorem fct_far2 (a b c : Int) (w : World) (h : farB a = false) (h2 : farB b = true) :
    Calls Try.prog 9 #[.int .i64 a, .int .i64 b, .int .i64 c] w fun e w' => e = .returned (.bool true) ∧ Below w.heap.size w w' := by
  have C1 := Lib.hid (fun (wx : World) => far_is a false h wx)
  have C2 := Lib.hid (fun (wx : World) => far_is b true h2 wx)
  clear h h2
  go_enter Try.func9, Try.ntmps9
  go_wp2_with fail
  refine (awake_any _).mono ?_
  rintro e w1 ⟨rfl, hb1⟩
  have HB1 := Lib.hid hb1
  clear hb1
  go_wp2_with fail
  refine (C1.out _).mono ?_
  rintro e w' ⟨rfl, rfl⟩
  go_wp2_with fail
  refine (C2.out _).mono ?_
  rintro e w' ⟨rfl, rfl⟩
  go_wp2_with fail
  go_ret
  exact ⟨rfl, HB1.out⟩
theorem fct_far3 (a b c : Int) (w : World) (h : farB a = false) (h2 : farB b = false) (h3 : farB c = true) :
    Calls Try.prog 9 #[.int .i64 a, .int .i64 b, .int .i64 c] w fun e w' => e = .returned (.bool true) ∧ Below w.heap.size w w' := by
  have C1 := Lib.hid (fun (wx : World) => far_is a false h wx)
  have C2 := Lib.hid (fun (wx : World) => far_is b false h2 wx)
  have C3 := Lib.hid (fun (wx : World) => far_is c true h3 wx)
  clear h h2 h3
  go_enter Try.func9, Try.ntmps9
  go_wp2_with fail
  refine (awake_any _).mono ?_
  rintro e w1 ⟨rfl, hb1⟩
  have HB1 := Lib.hid hb1
  clear hb1
  go_wp2_with fail
  refine (C1.out _).mono ?_
  rintro e w' ⟨rfl, rfl⟩
  go_wp2_with fail
  refine (C2.out _).mono ?_
  rintro e w' ⟨rfl, rfl⟩
  go_wp2_with fail
  refine (C3.out _).mono ?_
  rintro e w' ⟨rfl, rfl⟩
  go_wp2_with fail
  go_ret
  exact ⟨rfl, HB1.out⟩

set_option maxRecDepth 100000 in
set_option maxHeartbeats 4000000 in
theorem fct_in (a b c : Int) (w : World) (h : farB a = false) (h2 : farB b = false) (h3 : farB c = false) :
    Calls Try.prog 9 #[.int .i64 a, .int .i64 b, .int .i64 c] w fun e w' => e = .returned (.bool true) ∧ Below w.heap.size w w' := by
  have C1 := Lib.hid (fun (wx : World) => far_is a false h wx)
  have C2 := Lib.hid (fun (wx : World) => far_is b false h2 wx)
  have C3 := Lib.hid (fun (wx : World) => far_is c false h3 wx)
  have ha := far_no a h
  have hb := far_no b h2
  have hc := far_no c h3
  have m1 := mul_small a b (by omega) (by omega)
  have m2 := mul_small a c (by omega) (by omega)
  have m3 := mul_small a (b + c) (by omega) (by omega)
  have f1 := fit_small _ (Nat.le_trans m1 (by decide))
  have f2 := fit_small _ (Nat.le_trans m2 (by decide))
  have f3 := fit_small _ (Nat.le_trans m3 (by decide))
  have e : a * (b + c) = a * b + a * c := Int.mul_add a b c
  have P1 := Lib.hid (fun (wx : World) => product_fit a b wx (by omega) (by omega) (by omega) (by omega) f1)
  have P2 := Lib.hid (fun (wx : World) => product_fit a c wx (by omega) (by omega) (by omega) (by omega) f2)
  have P3 := Lib.hid (fun (wx : World) => product_fit a (b + c) wx (by omega) (by omega) (by omega) (by omega) f3)
  have S := Lib.hid (fun (wx : World) => add_fit (a * b) (a * c) wx f1 f2 (by rw [← e]; exact f3))
  rw [← e] at S
  have HZ : Hid (b = 0 → wh (a * b) = 0 ∧ wl (a * b) = 0) := by
    intro hz; rw [hz, Int.mul_zero]; exact ⟨rfl, rfl⟩
  have F : Hid (∀ wx, b ≠ 0 → Calls Try.prog 29 #[.agg #[.int .i64 (wh (a * b)), .int .i64 (wl (a * b))], .int .i64 b] wx fun e w' => e = .returned (.tuple #[.int .i64 a, .int .i64 0]) ∧ Below wx.heap.size wx w') := by
    intro wx hz
    have := floor_any (wh (a * b)) (wl (a * b)) b wx (by omega) (by omega)
    obtain ⟨q1, q2⟩ := quo_exact a b hz true f1 (by omega) (by omega)
    rw [q1, q2] at this; exact this
  have G : Hid (∀ wx, b ≠ 0 → Calls Try.prog 30 #[.agg #[.int .i64 (wh (a * b)), .int .i64 (wl (a * b))], .int .i64 b] wx fun e w' => e = .returned (.tuple #[.int .i64 a, .int .i64 0]) ∧ Below wx.heap.size wx w') := by
    intro wx hz
    have := ceil_any (wh (a * b)) (wl (a * b)) b wx (by omega) (by omega)
    obtain ⟨q1, q2⟩ := quo_exact a b hz false f1 (by omega) (by omega)
    rw [q1, q2] at this; exact this
  have bc1 : -9223372036854775808 ≤ b + c := by omega
  have bc2 : b + c ≤ 9223372036854775807 := by omega
  obtain ⟨p1, hp1⟩ : ∃ x, x = wh (a * b) := ⟨_, rfl⟩
  obtain ⟨p2, hp2⟩ : ∃ x, x = wl (a * b) := ⟨_, rfl⟩
  obtain ⟨q1, hq1⟩ : ∃ x, x = wh (a * c) := ⟨_, rfl⟩
  obtain ⟨q2, hq2⟩ : ∃ x, x = wl (a * c) := ⟨_, rfl⟩
  obtain ⟨r1, hr1⟩ : ∃ x, x = wh (a * (b + c)) := ⟨_, rfl⟩
  obtain ⟨r2, hr2⟩ : ∃ x, x = wl (a * (b + c)) := ⟨_, rfl⟩
  rw [← hp1, ← hp2] at P1 S F G HZ
  rw [← hq1, ← hq2] at P2 S
  rw [← hr1, ← hr2] at P3 S
  clear h h2 h3 ha hb hc m1 m2 m3 f1 f2 f3 e hp1 hp2 hq1 hq2 hr1 hr2
  by_cases hz : b = 0
  · obtain ⟨z1, z2⟩ := HZ.out hz
    subst z1 z2
    have tz : (b == 0) = true := by rw [hz]; rfl
    have HZ2 := Lib.hid hz
    clear hz F G HZ
    go_enter Try.func9, Try.ntmps9
    go_wp2_with fail
    refine (awake_any _).mono ?_
    rintro e w1 ⟨rfl, hb1⟩
    have HB := Lib.hid hb1
    clear hb1
    go_wp2_with fail
    refine (C1.out _).mono ?_
    rintro e w' ⟨rfl, rfl⟩
    go_wp2_with fail
    refine (C2.out _).mono ?_
    rintro e w' ⟨rfl, rfl⟩
    go_wp2_with fail
    refine (C3.out _).mono ?_
    rintro e w' ⟨rfl, rfl⟩
    go_wp2_with fail
    refine (P1.out _).mono ?_
    rintro e w2 ⟨rfl, hb1⟩
    have A := At2.new w2 (.int .i64 0) (.int .i64 0) 23
    have HB := Lib.hid (bstep (bstep HB.out hb1) (below1 w2 (.cells #[.int .i64 0, .int .i64 0] 23)))
    clear hb1
    go_wp2_with fail
    refine (P2.out _).mono ?_
    rintro e w3 ⟨rfl, hb1⟩
    have B := At2.new w3 (.int .i64 q1) (.int .i64 q2) 23
    have A := (A.keep hb1).alloc (.cells #[.int .i64 q1, .int .i64 q2] 23)
    have HB := Lib.hid (bstep (bstep HB.out hb1) (below1 w3 (.cells #[.int .i64 q1, .int .i64 q2] 23)))
    clear hb1
    go_wp2_with fail
    refine (P3.out _).mono ?_
    rintro e w4 ⟨rfl, hb1⟩
    have D := At2.new w4 (.int .i64 r1) (.int .i64 r2) 23
    have A := (A.keep hb1).alloc (.cells #[.int .i64 r1, .int .i64 r2] 23)
    have B := (B.keep hb1).alloc (.cells #[.int .i64 r1, .int .i64 r2] 23)
    have HB := Lib.hid (bstep (bstep HB.out hb1) (below1 w4 (.cells #[.int .i64 r1, .int .i64 r2] 23)))
    clear hb1
    obtain ⟨a1, a2, _, _, _⟩ := id A
    obtain ⟨b1, b2, _, _, _⟩ := id B
    go_wp2_with fail
    refine (S.out _).mono ?_
    rintro e w5 ⟨rfl, hb1⟩
    have A := (A.keep hb1).alloc (.cells #[.int .i64 r1, .int .i64 r2] 23)
    have D := (D.keep hb1).alloc (.cells #[.int .i64 r1, .int .i64 r2] 23)
    have HB := Lib.hid (bstep (bstep HB.out hb1) (below1 w5 (.cells #[.int .i64 r1, .int .i64 r2] 23)))
    clear hb1 a1 a2 b1 b2
    obtain ⟨e1, e2, _, _, _⟩ := id A
    obtain ⟨d1, d2, _, _, _⟩ := id D
    go_wp2_with fail
    go_ret
    exact ⟨rfl, HB.out⟩
  · have tz : (b == 0) = false := beq_eq_false_iff_ne.2 hz
    have F' := Lib.hid (fun wx => F.out wx hz)
    have G' := Lib.hid (fun wx => G.out wx hz)
    clear hz F G HZ
    go_enter Try.func9, Try.ntmps9
    go_wp2_with fail
    refine (awake_any _).mono ?_
    rintro e w1 ⟨rfl, hb1⟩
    have HB := Lib.hid hb1
    clear hb1
    go_wp2_with fail
    refine (C1.out _).mono ?_
    rintro e w' ⟨rfl, rfl⟩
    go_wp2_with fail
    refine (C2.out _).mono ?_
    rintro e w' ⟨rfl, rfl⟩
    go_wp2_with fail
    refine (C3.out _).mono ?_
    rintro e w' ⟨rfl, rfl⟩
    go_wp2_with fail
    refine (P1.out _).mono ?_
    rintro e w2 ⟨rfl, hb1⟩
    have A := At2.new w2 (.int .i64 p1) (.int .i64 p2) 23
    have HB := Lib.hid (bstep (bstep HB.out hb1) (below1 w2 (.cells #[.int .i64 p1, .int .i64 p2] 23)))
    clear hb1
    go_wp2_with fail
    refine (P2.out _).mono ?_
    rintro e w3 ⟨rfl, hb1⟩
    have B := At2.new w3 (.int .i64 q1) (.int .i64 q2) 23
    have A := (A.keep hb1).alloc (.cells #[.int .i64 q1, .int .i64 q2] 23)
    have HB := Lib.hid (bstep (bstep HB.out hb1) (below1 w3 (.cells #[.int .i64 q1, .int .i64 q2] 23)))
    clear hb1
    go_wp2_with fail
    refine (P3.out _).mono ?_
    rintro e w4 ⟨rfl, hb1⟩
    have D := At2.new w4 (.int .i64 r1) (.int .i64 r2) 23
    have A := (A.keep hb1).alloc (.cells #[.int .i64 r1, .int .i64 r2] 23)
    have B := (B.keep hb1).alloc (.cells #[.int .i64 r1, .int .i64 r2] 23)
    have HB := Lib.hid (bstep (bstep HB.out hb1) (below1 w4 (.cells #[.int .i64 r1, .int .i64 r2] 23)))
    clear hb1
    obtain ⟨a1, a2, _, _, _⟩ := id A
    obtain ⟨b1, b2, _, _, _⟩ := id B
    go_wp2_with fail
    refine (S.out _).mono ?_
    rintro e w5 ⟨rfl, hb1⟩
    have A := (A.keep hb1).alloc (.cells #[.int .i64 r1, .int .i64 r2] 23)
    have D := (D.keep hb1).alloc (.cells #[.int .i64 r1, .int .i64 r2] 23)
    have HB := Lib.hid (bstep (bstep HB.out hb1) (below1 w5 (.cells #[.int .i64 r1, .int .i64 r2] 23)))
    clear hb1 a1 a2 b1 b2
    obtain ⟨e1, e2, _, _, _⟩ := id A
    obtain ⟨d1, d2, _, _, _⟩ := id D
    go_wp2_with fail
    refine (F'.out _).mono ?_
    rintro e w1 ⟨rfl, hb1⟩
    have A := A.keep hb1
    have HB := Lib.hid (bstep HB.out hb1)
    clear hb1 e1 e2
    obtain ⟨e1, e2, _, _, _⟩ := id A
    go_wp2_with fail
    refine (G'.out _).mono ?_
    rintro e w1 ⟨rfl, hb1⟩
    have HB := Lib.hid (bstep HB.out hb1)
    clear hb1 e1 e2
    go_wp2_with fail
    go_ret
    exact ⟨rfl, HB.out⟩
end Go.Proofs.Ytpneahdbiikonaa
