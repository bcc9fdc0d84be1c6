/- Contracts of the reference's Sub, Cmp, Floor, Round. -/
import Derived.Test.YtlcmnfhkicjclaaDoorRtH
import Derived.Test.YtlcmnfhkicjclaaDoorRtJ
import Derived.Deep.RegionWith
namespace Go.Proofs.YtlcmnfhkicjclaaDoor
open Go.RowKit
set_option linter.unusedVariables false

set_option maxRecDepth 100000 in
set_option maxHeartbeats 2000000 in
theorem rSub (a b : Rat) (w : World) (ha : rfit a = true) (hb : rfit b = true) :
    Calls Tryd.prog 22 #[.agg #[.int .i64 a.num, .int .i64 (a.den : Int)], .agg #[.int .i64 b.num, .int .i64 (b.den : Int)]] w fun e w' => e = .returned (.tuple #[.agg #[.int .i64 (rN (a - b)), .int .i64 (rD (a - b))], .int .i64 (rE (a - b))]) ∧ Below w.heap.size w w' := by
  have C1 := Lib.hid (fun wx => rvalid_is a.num (a.den : Int) true (rok_of ha) wx)
  have C2 := Lib.hid (fun wx => rvalid_is b.num (b.den : Int) true (rok_of hb) wx)
  have fb := (rfit_iff b).1 hb
  have CN := Lib.hid (fun wx => rNeg_any b.num (b.den : Int) wx (by omega) (by omega))
  have CA : Hid (∀ wx, Calls Tryd.prog 21 #[.agg #[.int .i64 a.num, .int .i64 (a.den : Int)], .agg #[.int .i64 (-b.num), .int .i64 (b.den : Int)]] wx fun e w' => e = .returned (.tuple #[.agg #[.int .i64 (rN (a - b)), .int .i64 (rD (a - b))], .int .i64 (rE (a - b))]) ∧ Below wx.heap.size wx w') := by
    intro wx
    rw [Rat.sub_eq_add_neg]
    exact rAdd a (-b) wx ha (rfit_neg b hb)
  obtain ⟨x, hx⟩ : ∃ x, x = rN (a - b) := ⟨_, rfl⟩
  obtain ⟨y, hy⟩ : ∃ y, y = rD (a - b) := ⟨_, rfl⟩
  obtain ⟨z, hz9⟩ : ∃ z, z = rE (a - b) := ⟨_, rfl⟩
  rw [← hx, ← hy, ← hz9] at CA ⊢
  obtain ⟨an, han⟩ : ∃ t, t = a.num := ⟨_, rfl⟩
  obtain ⟨ad, had⟩ : ∃ t, t = (a.den : Int) := ⟨_, rfl⟩
  obtain ⟨bn, hbn⟩ : ∃ t, t = b.num := ⟨_, rfl⟩
  obtain ⟨bd, hbd⟩ : ∃ t, t = (b.den : Int) := ⟨_, rfl⟩
  simp only [← han, ← had, ← hbn, ← hbd] at CA CN C1 C2 ⊢
  clear ha hb hx hy hz9 han had hbn hbd fb
  go_enter Tryd.func22, Tryd.ntmps22
  go_wp2_with fail
  refine (C1.out _).mono ?_
  rintro e w1 ⟨rfl, hb1⟩
  obtain ⟨A0, B0, R0⟩ := At2.three w (.int .i64 an) (.int .i64 ad) (.int .i64 bn) (.int .i64 bd) (.int .i64 0) (.int .i64 0) 24 24 24
  have A1 := A0.keep hb1
  have B1 := B0.keep hb1
  have R1 := R0.keep hb1
  have HB := Lib.hid (bstep (below3 w _ _ _) hb1)
  clear hb1 A0 B0 R0
  obtain ⟨p0, p1, _, _, _⟩ := id B1
  go_wp2_with fail
  refine (C2.out _).mono ?_
  rintro e w2 ⟨rfl, hb2⟩
  clear p0 p1
  have A2 := A1.keep hb2
  have B2 := B1.keep hb2
  have R2 := R1.keep hb2
  have HB2 := Lib.hid (bstep HB.out hb2)
  clear hb2 A1 B1 R1 HB
  have A3 := A2.keep ((Below.refl _ w2).drew)
  have B3 := B2.keep ((Below.refl _ w2).drew)
  have R3 := R2.keep ((Below.refl _ w2).drew)
  have HB3 := Lib.hid (bstep HB2.out ((Below.refl _ w2).drew))
  clear A2 B2 R2 HB2
  go_wp2_with fail
  obtain ⟨p0, p1, _, _, _⟩ := id A3
  obtain ⟨q0, q1, _, _, _⟩ := id B3
  go_region_with
    (first
    | (go_at_call 46; refine (CN.out _).mono ?_; rintro e w3 ⟨rfl, hb3⟩; have A4 := A3.keep hb3; have R4 := Lib.hid (R3.keep hb3); have HB4 := Lib.hid (bstep HB3.out hb3); clear hb3 p0 p1 q0 q1; obtain ⟨p0, p1, _, _, _⟩ := A4)
    | (go_at_call 21; refine (CA.out _).mono ?_; rintro e w4 ⟨rfl, hb4⟩; have R5 := R4.out.keep hb4; have HB5 := Lib.hid (bstep HB4.out hb4); clear hb4 p0 p1; obtain ⟨c0, c1, f0, f1, hz⟩ := R5))
  all_goals
    obtain ⟨s0, s1⟩ := set2 c0 c1 (.int .i64 x) (.int .i64 y)
    go_wp2_with fail
    refine bodyPost_ret (v := .tuple #[.agg #[.int .i64 x, .int .i64 y], .int .i64 z]) (by simp [results, Tryd.results22, go_sem, s0, s1]) rfl ⟨rfl, ?_⟩
    exact below_set2 HB5.out (by omega) _ _

set_option maxHeartbeats 1000000 in
theorem rCmp (a b : Rat) (w : World) (ha : rfit a = true) (hb : rfit b = true) :
    Calls Tryd.prog 30 #[.agg #[.int .i64 a.num, .int .i64 (a.den : Int)], .agg #[.int .i64 b.num, .int .i64 (b.den : Int)]] w fun e w' => e = .returned (.int .i64 (rcmp a b)) ∧ Below w.heap.size w w' := by
  obtain ⟨⟨m1, m2⟩, m3, m4⟩ := prods a b ha hb
  have E := Lib.hid (rcmp_int a b)
  obtain ⟨r, hr⟩ : ∃ r, r = rcmp a b := ⟨_, rfl⟩
  rw [← hr] at E ⊢
  obtain ⟨an, han⟩ : ∃ t, t = a.num := ⟨_, rfl⟩
  obtain ⟨ad, had⟩ : ∃ t, t = (a.den : Int) := ⟨_, rfl⟩
  obtain ⟨bn, hbn⟩ : ∃ t, t = b.num := ⟨_, rfl⟩
  obtain ⟨bd, hbd⟩ : ∃ t, t = (b.den : Int) := ⟨_, rfl⟩
  simp only [← han, ← had, ← hbn, ← hbd] at E m1 m2 m3 m4 ⊢
  clear han had hbn hbd ha hb hr
  by_cases h1 : an * bd < bn * ad
  · have E2 : Hid (r = -1) := E.out.trans (if_pos h1)
    clear E
    go_enter Tryd.func30, Tryd.ntmps30
    go_wp2_with fail
    go_ret
    exact ⟨ret_int E2.out.symm, below2 _ _ _⟩
  · by_cases h2 : bn * ad < an * bd
    · have E2 : Hid (r = 1) := E.out.trans ((if_neg h1).trans (if_pos h2))
      clear E
      go_enter Tryd.func30, Tryd.ntmps30
      go_wp2_with fail
      go_ret
      exact ⟨ret_int E2.out.symm, below2 _ _ _⟩
    · have E2 : Hid (r = 0) := E.out.trans ((if_neg h1).trans (if_neg h2))
      clear E
      go_enter Tryd.func30, Tryd.ntmps30
      go_wp2_with fail
      go_ret
      exact ⟨ret_int E2.out.symm, below2 _ _ _⟩

theorem rFloor (n d : Int) (w : World) (h1 : -1073741824 ≤ n) (h2 : n ≤ 1073741824) (h3 : 1 ≤ d) (h4 : d ≤ 1073741824) :
    Calls Tryd.prog 28 #[.agg #[.int .i64 n, .int .i64 d]] w fun e w' => e = .returned (.int .i64 (n / d)) ∧ Below w.heap.size w w' := by
  obtain ⟨f1, f2⟩ := tfloor n d (by omega)
  have b0 : ¬ d = 0 := by omega
  have q1 : n.tdiv d ≤ 1073741824 ∧ -1073741824 ≤ n.tdiv d := by
    have e : (n.tdiv d).natAbs ≤ n.natAbs := by rw [Int.natAbs_tdiv]; exact Nat.div_le_self _ _
    omega
  by_cases h : n.tmod d < 0
  · have E := Lib.hid (f1 h)
    obtain ⟨q, hq⟩ : ∃ q, n.tdiv d = q := ⟨_, rfl⟩
    rw [hq] at q1 E
    obtain ⟨q1, q2⟩ := q1
    clear f1 f2
    go_enter Tryd.func28, Tryd.ntmps28
    go_wp2
    go_ret
    exact ⟨ret_int (by have := E.out; go_num), below1 _ _⟩
  · have E := Lib.hid (f2 h)
    obtain ⟨q, hq⟩ : ∃ q, n.tdiv d = q := ⟨_, rfl⟩
    rw [hq] at q1 E
    obtain ⟨q1, q2⟩ := q1
    clear f1 f2
    go_enter Tryd.func28, Tryd.ntmps28
    go_wp2
    go_ret
    exact ⟨ret_int (by have := E.out; go_num), below1 _ _⟩
theorem rRound (n d : Int) (w : World) (h1 : -1073741824 ≤ n) (h2 : n ≤ 1073741824) (h3 : 1 ≤ d) (h4 : d ≤ 1073741824) :
    Calls Tryd.prog 29 #[.agg #[.int .i64 n, .int .i64 d]] w fun e w' => e = .returned (.int .i64 ((2 * n + d) / (2 * d))) ∧ Below w.heap.size w w' := by
  obtain ⟨f1, f2⟩ := tfloor (2 * n + d) (2 * d) (by omega)
  have b0 : ¬ 2 * d = 0 := by omega
  have q1 : (2 * n + d).tdiv (2 * d) ≤ 4611686018427387904 ∧ -4611686018427387904 ≤ (2 * n + d).tdiv (2 * d) := by
    have e : ((2 * n + d).tdiv (2 * d)).natAbs ≤ (2 * n + d).natAbs := by rw [Int.natAbs_tdiv]; exact Nat.div_le_self _ _
    omega
  by_cases h : (2 * n + d).tmod (2 * d) < 0
  · have E := Lib.hid (f1 h)
    obtain ⟨q, hq⟩ : ∃ q, (2 * n + d).tdiv (2 * d) = q := ⟨_, rfl⟩
    rw [hq] at q1 E
    obtain ⟨q1, q2⟩ := q1
    clear f1 f2
    go_enter Tryd.func29, Tryd.ntmps29
    go_wp2
    go_ret
    exact ⟨ret_int (by have := E.out; go_num), below1 _ _⟩
  · have E := Lib.hid (f2 h)
    obtain ⟨q, hq⟩ : ∃ q, (2 * n + d).tdiv (2 * d) = q := ⟨_, rfl⟩
    rw [hq] at q1 E
    obtain ⟨q1, q2⟩ := q1
    clear f1 f2
    go_enter Tryd.func29, Tryd.ntmps29
    go_wp2
    go_ret
    exact ⟨ret_int (by have := E.out; go_num), below1 _ _⟩
end Go.Proofs.YtlcmnfhkicjclaaDoor
