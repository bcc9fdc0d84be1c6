/- Contract of wide.quotient, Floor and Ceil: the walk. -/
import Derived.Test.YtdkigfcglfgpoaaWdQ
namespace Go.Proofs.Ytdkigfcglfgpoaa.wd
open Go.RowKit
set_option linter.unusedVariables false

theorem quo_bad (h l b : Int) (d : Bool) (w : World) (hk : wok h l = false) :
    Calls Try.prog 74 #[.agg #[.int .i64 h, .int .i64 l], .int .i64 b, .bool d] w fun e w' => e = .returned (.tuple #[.int .i64 0, .int .i64 1]) ∧ Below w.heap.size w w' := by
  have C1 := Lib.hid (fun wx => valid_is h l false hk wx)
  clear hk
  go_enter Try.func74, Try.ntmps74
  go_wp2_with fail
  refine (C1.out _).mono ?_
  rintro e w1 ⟨rfl, hb1⟩
  have HB := Lib.hid (bstep (below1 w _) hb1)
  clear hb1
  go_wp2_with fail
  go_ret2
  exact ⟨rfl, HB.out⟩

theorem quo_zero (h l : Int) (d : Bool) (w : World) (hk : wok h l = true) :
    Calls Try.prog 74 #[.agg #[.int .i64 h, .int .i64 l], .int .i64 0, .bool d] w fun e w' => e = .returned (.tuple #[.int .i64 0, .int .i64 16]) ∧ Below w.heap.size w w' := by
  have C1 := Lib.hid (fun wx => valid_is h l true hk wx)
  clear hk
  go_enter Try.func74, Try.ntmps74
  go_wp2_with fail
  refine (C1.out _).mono ?_
  rintro e w1 ⟨rfl, hb1⟩
  have HB := Lib.hid (bstep (below1 w _) hb1)
  clear hb1
  go_wp2_with fail
  go_ret2
  exact ⟨rfl, HB.out⟩

theorem natAbs_wv_lt (h l : Int) (hk : wok h l = true) : (wv h l).natAbs < 340282366920938463463374607431768211456 := by
  rw [wok_iff] at hk; unfold wv; omega
theorem neg_wv (h l : Int) (hk : wok h l = true) : decide (wv h l < 0) = decide (h < 0) := by
  rw [wok_iff] at hk; unfold wv; rw [decide_eq_decide]; omega

/-- what the walk of quotient asks of its callees -/
structure QuC (h l b : Int) (N D : Nat) : Prop where
  c1 : ∀ wx, Calls Try.prog 75 #[.agg #[.int .i64 h, .int .i64 l]] wx fun e w' => e = .returned (.bool true) ∧ Below wx.heap.size wx w'
  c2 : ∀ wx, Calls Try.prog 77 #[.agg #[.int .i64 h, .int .i64 l]] wx fun e w' => e = .returned (.tuple #[.int .u64 ((N : Int) / 18446744073709551616), .int .u64 ((N : Int) % 18446744073709551616)]) ∧ Below wx.heap.size wx w'
  c3 : ∀ wx, Calls Try.prog 72 #[.int .i64 b] wx fun e w' => e = .returned (.int .u64 (D : Int)) ∧ wx = w'

theorem quc (h l b : Int) (hk : wok h l = true) (b1 : -9223372036854775808 ≤ b) (b2 : b ≤ 9223372036854775807) : QuC h l b (wv h l).natAbs b.natAbs := by
  refine ⟨fun wx => valid_is h l true hk wx, fun wx => ?_, fun wx => absolute_any b wx b1 b2⟩
  have := halves_any h l wx hk
  rw [Int.natCast_ediv, Int.natCast_emod] at this
  exact this

set_option maxHeartbeats 1000000 in
theorem quo_high (h l b : Int) (N D : Nat) (d : Bool) (w : World) (hb : b ≠ 0) (C : QuC h l b N D) (hh : (D : Int) ≤ (N : Int) / 18446744073709551616) :
    Calls Try.prog 74 #[.agg #[.int .i64 h, .int .i64 l], .int .i64 b, .bool d] w fun e w' => e = .returned (.tuple #[.int .i64 0, .int .i64 5]) ∧ Below w.heap.size w w' := by
  have t0 : (b == 0) = false := by rw [beq_eq_false_iff_ne]; exact hb
  have HC := Lib.hid C
  clear hb C
  go_enter Try.func74, Try.ntmps74
  go_wp2_with fail
  refine (HC.out.c1 _).mono ?_
  rintro e w1 ⟨rfl, hb1⟩
  have A := (At2.new w (.int .i64 h) (.int .i64 l) 67).keep hb1
  have HB := Lib.hid (bstep (below1 w _) hb1)
  clear hb1
  obtain ⟨p0, p1, _, _, _⟩ := id A
  go_wp2_with fail
  refine (HC.out.c2 _).mono ?_
  rintro e w2 ⟨rfl, hb2⟩
  have HB2 := Lib.hid (bstep HB.out hb2)
  clear hb2 p0 p1
  go_wp2_with fail
  refine (HC.out.c3 _).mono ?_
  rintro e w' ⟨rfl, rfl⟩
  go_wp2_with fail
  go_ret2
  exact ⟨rfl, HB2.out⟩

set_option maxHeartbeats 1000000 in
theorem quo_big (h l b : Int) (N D r t : Nat) (d : Bool) (w : World) (hb : b ≠ 0) (C : QuC h l b N D) (hh : ¬ (D : Int) ≤ (N : Int) / 18446744073709551616)
    (CD : ∀ wx, Calls Try.prog 79 #[.int .u64 ((N : Int) / 18446744073709551616), .int .u64 ((N : Int) % 18446744073709551616), .int .u64 (D : Int)] wx fun e w' => e = .returned (.tuple #[.int .u64 (r : Int), .int .u64 (t : Int)]) ∧ Below wx.heap.size wx w')
    (hr : 9223372036854775808 < (r : Int)) :
    Calls Try.prog 74 #[.agg #[.int .i64 h, .int .i64 l], .int .i64 b, .bool d] w fun e w' => e = .returned (.tuple #[.int .i64 0, .int .i64 5]) ∧ Below w.heap.size w w' := by
  have t0 : (b == 0) = false := by rw [beq_eq_false_iff_ne]; exact hb
  have HC := Lib.hid C
  have HD := Lib.hid CD
  clear hb C CD
  go_enter Try.func74, Try.ntmps74
  go_wp2_with fail
  refine (HC.out.c1 _).mono ?_
  rintro e w1 ⟨rfl, hb1⟩
  have A := (At2.new w (.int .i64 h) (.int .i64 l) 67).keep hb1
  have HB := Lib.hid (bstep (below1 w _) hb1)
  clear hb1
  obtain ⟨p0, p1, _, _, _⟩ := id A
  go_wp2_with fail
  refine (HC.out.c2 _).mono ?_
  rintro e w2 ⟨rfl, hb2⟩
  have HB2 := Lib.hid (bstep HB.out hb2)
  clear hb2 p0 p1
  go_wp2_with fail
  refine (HC.out.c3 _).mono ?_
  rintro e w' ⟨rfl, rfl⟩
  go_wp2_with fail
  refine (HD.out _).mono ?_
  rintro e w3 ⟨rfl, hb3⟩
  have HB3 := Lib.hid (bstep HB2.out hb3)
  clear hb3
  go_wp2_with fail
  go_ret2
  exact ⟨rfl, HB3.out⟩

set_option maxHeartbeats 4000000 in
theorem quo_ok (h l b : Int) (N D r t : Nat) (d : Bool) (w : World) (hb : b ≠ 0) (C : QuC h l b N D) (hh : ¬ (D : Int) ≤ (N : Int) / 18446744073709551616)
    (CD : ∀ wx, Calls Try.prog 79 #[.int .u64 ((N : Int) / 18446744073709551616), .int .u64 ((N : Int) % 18446744073709551616), .int .u64 (D : Int)] wx fun e w' => e = .returned (.tuple #[.int .u64 (r : Int), .int .u64 (t : Int)]) ∧ Below wx.heap.size wx w')
    (hr : (r : Int) ≤ 9223372036854775808) (x1 x2 : Bool) (t1 : decide (h < 0) = x1) (t2 : decide (b < 0) = x2) (n V E : Int)
    (CS : n = (r : Int) + (if t = 0 then 0 else if (x1 != x2) = d then 1 else 0) → ∀ wx, Calls Try.prog 80 #[.int .u64 n, .bool (x1 != x2)] wx fun e w' => e = .returned (.tuple #[.int .i64 V, .int .i64 E]) ∧ wx = w') (hn : n = (r : Int) + (if t = 0 then 0 else if (x1 != x2) = d then 1 else 0)) :
    Calls Try.prog 74 #[.agg #[.int .i64 h, .int .i64 l], .int .i64 b, .bool d] w fun e w' => e = .returned (.tuple #[.int .i64 V, .int .i64 E]) ∧ Below w.heap.size w w' := by
  have t0 : (b == 0) = false := by rw [beq_eq_false_iff_ne]; exact hb
  have HC := Lib.hid C
  have HD := Lib.hid CD
  have HS := Lib.hid (CS hn)
  clear hb C CD CS
  by_cases hz : 0 < (t : Int)
  · rw [if_neg (by omega)] at hn
    cases x1 <;> cases x2 <;> cases d
    all_goals
      simp only [bne_self_eq_false, Bool.bne_false, Bool.false_bne, if_true, Bool.false_eq_true, Bool.true_eq_false, if_false, Int.add_zero] at hn HS
      rw [hn] at HS
      clear hn
      go_enter Try.func74, Try.ntmps74
      go_wp2_with fail
      refine (HC.out.c1 _).mono ?_
      rintro e w1 ⟨rfl, hb1⟩
      have A := (At2.new w (.int .i64 h) (.int .i64 l) 67).keep hb1
      have HB := Lib.hid (bstep (below1 w _) hb1)
      clear hb1
      obtain ⟨p0, p1, _, _, _⟩ := id A
      go_wp2_with fail
      refine (HC.out.c2 _).mono ?_
      rintro e w2 ⟨rfl, hb2⟩
      have HB2 := Lib.hid (bstep HB.out hb2)
      have A := A.keep hb2
      clear hb2 p0 p1
      go_wp2_with fail
      refine (HC.out.c3 _).mono ?_
      rintro e w' ⟨rfl, rfl⟩
      go_wp2_with fail
      refine (HD.out _).mono ?_
      rintro e w3 ⟨rfl, hb3⟩
      have HB3 := Lib.hid (bstep HB2.out hb3)
      obtain ⟨p0, p1, _, _, _⟩ := A.keep hb3
      clear hb3
      go_wp2_with fail
      refine (HS.out _).mono ?_
      rintro e w' ⟨rfl, rfl⟩
      go_wp2_with fail
      go_ret2
      exact ⟨rfl, HB3.out⟩
  · rw [if_pos (by omega), Int.add_zero] at hn
    rw [hn] at HS
    clear hn
    have hz' : ¬ 0 < (t : Int) := hz
    cases x1 <;> cases x2
    all_goals
      simp only [bne_self_eq_false, Bool.bne_false, Bool.false_bne] at HS
      go_enter Try.func74, Try.ntmps74
      go_wp2_with fail
      refine (HC.out.c1 _).mono ?_
      rintro e w1 ⟨rfl, hb1⟩
      have A := (At2.new w (.int .i64 h) (.int .i64 l) 67).keep hb1
      have HB := Lib.hid (bstep (below1 w _) hb1)
      clear hb1
      obtain ⟨p0, p1, _, _, _⟩ := id A
      go_wp2_with fail
      refine (HC.out.c2 _).mono ?_
      rintro e w2 ⟨rfl, hb2⟩
      have HB2 := Lib.hid (bstep HB.out hb2)
      have A := A.keep hb2
      clear hb2 p0 p1
      go_wp2_with fail
      refine (HC.out.c3 _).mono ?_
      rintro e w' ⟨rfl, rfl⟩
      go_wp2_with fail
      refine (HD.out _).mono ?_
      rintro e w3 ⟨rfl, hb3⟩
      have HB3 := Lib.hid (bstep HB2.out hb3)
      obtain ⟨p0, p1, _, _, _⟩ := A.keep hb3
      clear hb3
      go_wp2_with fail
      refine (HS.out _).mono ?_
      rintro e w' ⟨rfl, rfl⟩
      go_wp2_with fail
      go_ret2
      exact ⟨rfl, HB3.out⟩

theorem qt_abs (n b : Int) (hb : b ≠ 0) (d : Bool) : n.natAbs / b.natAbs ≤ (qt n b d).natAbs ∧ (qt n b d).natAbs ≤ n.natAbs / b.natAbs + 1 := by
  rw [qt_spec n b hb d]
  have : ∀ (r : Nat) (g : Bool), (sg r g).natAbs = r := by intro r g; cases g <;> simp [sg]
  rw [this]
  unfold qr
  split
  · omega
  · split <;> omega

theorem quo_any (h l b : Int) (d : Bool) (w : World) (hk : wok h l = true) (hb : b ≠ 0) (b1 : -9223372036854775808 ≤ b) (b2 : b ≤ 9223372036854775807) :
    Calls Try.prog 74 #[.agg #[.int .i64 h, .int .i64 l], .int .i64 b, .bool d] w fun e w' => e = .returned (.tuple #[.int .i64 (qV (qt (wv h l) b d)), .int .i64 (qE (qt (wv h l) b d))]) ∧ Below w.heap.size w w' := by
  have C := quc h l b hk b1 b2
  have hs := qt_spec (wv h l) b hb d
  have ha := qt_abs (wv h l) b hb d
  have hg := neg_wv h l hk
  rw [hg] at hs
  unfold qr at hs
  have hlt := natAbs_wv_lt h l hk
  have hD : 0 < b.natAbs := by omega
  have hD2 : b.natAbs < 18446744073709551616 := by omega
  obtain ⟨Q, hQ⟩ : ∃ Q, Q = qt (wv h l) b d := ⟨_, rfl⟩
  rw [← hQ] at hs ha ⊢
  obtain ⟨N, hN⟩ : ∃ N, N = (wv h l).natAbs := ⟨_, rfl⟩
  rw [← hN] at hs ha C hlt
  obtain ⟨D, hDe⟩ : ∃ D, D = b.natAbs := ⟨_, rfl⟩
  rw [← hDe] at hs ha C hD hD2
  clear hN hQ hg hDe
  by_cases hh : (D : Int) ≤ (N : Int) / 18446744073709551616
  · have hr : 18446744073709551616 ≤ N / D := by
      rw [Nat.le_div_iff_mul_le hD]
      have : D ≤ N / 18446744073709551616 := by omega
      omega
    have hi : isI Q = false := by rw [isI_not]; omega
    have e1 : qV Q = 0 := by unfold qV; rw [hi]; rfl
    have e2 : qE Q = 5 := by unfold qE; rw [hi]; rfl
    rw [e1, e2]
    exact quo_high h l b N D d w hb C hh
  · have CD : ∀ wx, Calls Try.prog 79 #[.int .u64 ((N : Int) / 18446744073709551616), .int .u64 ((N : Int) % 18446744073709551616), .int .u64 (D : Int)] wx fun e w' => e = .returned (.tuple #[.int .u64 ((N / D : Nat) : Int), .int .u64 ((N % D : Nat) : Int)]) ∧ Below wx.heap.size wx w' := by
      intro wx
      have := div64_any (N / 18446744073709551616) (N % 18446744073709551616) D wx (Nat.mod_lt _ (by omega)) hD2 (by omega)
      rw [Nat.div_add_mod' N 18446744073709551616, Int.natCast_ediv N, Int.natCast_emod N] at this
      exact this
    by_cases hr : (((N / D : Nat)) : Int) ≤ 9223372036854775808
    · refine quo_ok h l b N D (N / D) (N % D) d w hb C hh CD hr _ _ rfl rfl ((((N / D + if N % D = 0 then 0 else if (decide (h < 0) != decide (b < 0)) = d then 1 else 0) : Nat)) : Int) _ _ ?_ ?_
      · intro _ wx
        have := signed_all (N / D + if N % D = 0 then 0 else if (decide (h < 0) != decide (b < 0)) = d then 1 else 0) (decide (h < 0) != decide (b < 0)) wx
        rw [← hs] at this
        exact this
      · rw [Int.natCast_add]
        congr 1
        split
        · rfl
        · split <;> rfl
    · have hi : isI Q = false := by rw [isI_not]; omega
      have e1 : qV Q = 0 := by unfold qV; rw [hi]; rfl
      have e2 : qE Q = 5 := by unfold qE; rw [hi]; rfl
      rw [e1, e2]
      exact quo_big h l b N D (N / D) (N % D) d w hb C hh CD (by omega)
end Go.Proofs.Ytdkigfcglfgpoaa.wd
