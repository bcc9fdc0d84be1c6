/- Contracts of the program's Cmp, Floor, Round. -/
import Derived.Test.YtlcmnfhkicjclaaDoorRtG
namespace Go.Proofs.YtlcmnfhkicjclaaDoor
open Go.RowKit
set_option linter.unusedVariables false

theorem isNaN_any (n : Int) (w : World) :
    Calls Tryd.prog 67 #[.int .i64 n] w fun e w' => e = .returned (.bool false) ∧ w' = w := by
  go_enter Tryd.func67, Tryd.ntmps67
  go_wp2
  go_ret
  exact ⟨by simp, rfl⟩
def icmp (a b : Int) : Int := if a < b then -1 else if b < a then 1 else 0
theorem ccmp_any (a b : Int) (w : World) :
    Calls Tryd.prog 58 #[.int .i64 a, .int .i64 b] w fun e w' => e = .returned (.int .i64 (icmp a b)) ∧ w' = w := by
  have CI := Lib.hid (fun x wx => isNaN_any x wx)
  rcases (show a < b ∨ a = b ∨ b < a by omega) with h | h | h
  · have E : Hid (icmp a b = -1) := if_pos h
    go_enter Tryd.func58, Tryd.ntmps58
    go_wp2_with fail
    refine (CI.out _ _).mono ?_
    rintro e w' ⟨rfl, rfl⟩
    go_wp2_with fail
    refine (CI.out _ _).mono ?_
    rintro e w' ⟨rfl, rfl⟩
    go_wp2_with fail
    go_ret
    exact ⟨ret_int E.out.symm, rfl⟩
  · subst h
    have E : Hid (icmp a a = 0) := by show icmp a a = 0; unfold icmp; rw [if_neg (by omega), if_neg (by omega)]
    go_enter Tryd.func58, Tryd.ntmps58
    go_wp2_with fail
    refine (CI.out _ _).mono ?_
    rintro e w' ⟨rfl, rfl⟩
    go_wp2_with fail
    refine (CI.out _ _).mono ?_
    rintro e w' ⟨rfl, rfl⟩
    go_wp2_with fail
    go_ret
    exact ⟨ret_int E.out.symm, rfl⟩
  · have E : Hid (icmp a b = 1) := by show icmp a b = 1; unfold icmp; rw [if_neg (by omega), if_pos h]
    go_enter Tryd.func58, Tryd.ntmps58
    go_wp2_with fail
    refine (CI.out _ _).mono ?_
    rintro e w' ⟨rfl, rfl⟩
    go_wp2_with fail
    refine (CI.out _ _).mono ?_
    rintro e w' ⟨rfl, rfl⟩
    go_wp2_with fail
    go_ret
    exact ⟨ret_int E.out.symm, rfl⟩

/-- the bounds of a fitting number's parts and of the products -/
theorem prods (a b : Rat) (ha : rfit a = true) (hb : rfit b = true) :
    (-1152921504606846976 ≤ a.num * (b.den : Int) ∧ a.num * (b.den : Int) ≤ 1152921504606846976) ∧ (-1152921504606846976 ≤ b.num * (a.den : Int) ∧ b.num * (a.den : Int) ≤ 1152921504606846976) := by
  have fa := (rfit_iff a).1 ha
  have fb := (rfit_iff b).1 hb
  have da := rden_pos a
  have db := rden_pos b
  exact ⟨mul_bd a.num (b.den : Int) 1073741824 1073741824 (by omega) (by omega) (by omega) (by omega), mul_bd b.num (a.den : Int) 1073741824 1073741824 (by omega) (by omega) (by omega) (by omega)⟩

/-- compare, in whatever world: the two blocks of its parameters -/
theorem compare_any (a b : Rat) (w : World) (ha : rfit a = true) (hb : rfit b = true) :
    Calls Tryd.prog 47 #[.agg #[.int .i64 a.num, .int .i64 (a.den : Int)], .agg #[.int .i64 b.num, .int .i64 (b.den : Int)]] w fun e w' => e = .returned (.int .i64 (rcmp a b)) ∧ w' = (w.alloc (.cells #[.int .i64 a.num, .int .i64 (a.den : Int)] 24)).alloc (.cells #[.int .i64 b.num, .int .i64 (b.den : Int)] 24) := by
  obtain ⟨⟨m1, m2⟩, m3, m4⟩ := prods a b ha hb
  have CC := Lib.hid (fun wx => ccmp_any (a.num * (b.den : Int)) (b.num * (a.den : Int)) wx)
  rw [show icmp (a.num * (b.den : Int)) (b.num * (a.den : Int)) = rcmp a b from (rcmp_int a b).symm] at CC
  obtain ⟨r, hr⟩ : ∃ r, r = rcmp a b := ⟨_, rfl⟩
  rw [← hr] at CC ⊢
  obtain ⟨an, han⟩ : ∃ t, t = a.num := ⟨_, rfl⟩
  obtain ⟨ad, had⟩ : ∃ t, t = (a.den : Int) := ⟨_, rfl⟩
  obtain ⟨bn, hbn⟩ : ∃ t, t = b.num := ⟨_, rfl⟩
  obtain ⟨bd, hbd⟩ : ∃ t, t = (b.den : Int) := ⟨_, rfl⟩
  simp only [← han, ← had, ← hbn, ← hbd] at CC m1 m2 m3 m4 ⊢
  clear han had hbn hbd ha hb hr
  go_enter Tryd.func47, Tryd.ntmps47
  go_wp2_with fail
  refine (CC.out _).mono ?_
  rintro e w1 ⟨rfl, rfl⟩
  go_wp2_with fail
  go_ret
  exact ⟨rfl, rfl⟩
theorem compare_below (a b : Rat) (w : World) (ha : rfit a = true) (hb : rfit b = true) :
    Calls Tryd.prog 47 #[.agg #[.int .i64 a.num, .int .i64 (a.den : Int)], .agg #[.int .i64 b.num, .int .i64 (b.den : Int)]] w fun e w' => e = .returned (.int .i64 (rcmp a b)) ∧ Below w.heap.size w w' :=
  (compare_any a b w ha hb).mono fun _ _ ⟨h, hw⟩ => ⟨h, hw ▸ below2 _ _ _⟩

theorem pCmp (a b : Rat) (w : World) (ha : rfit a = true) (hb : rfit b = true) :
    Calls Tryd.prog 25 #[.agg #[.int .i64 a.num, .int .i64 (a.den : Int)], .agg #[.int .i64 b.num, .int .i64 (b.den : Int)]] w fun e w' => e = .returned (.tuple #[.int .i64 (rcmp a b), .int .i64 0]) ∧ Below w.heap.size w w' := by
  have C1 := Lib.hid (fun wx => valid_is a.num (a.den : Int) true (rok_of ha) wx)
  have C2 := Lib.hid (fun wx => valid_is b.num (b.den : Int) true (rok_of hb) wx)
  have CC := Lib.hid (fun wx => compare_below a b wx ha hb)
  obtain ⟨r, hr⟩ : ∃ r, r = rcmp a b := ⟨_, rfl⟩
  rw [← hr] at CC ⊢
  obtain ⟨an, han⟩ : ∃ t, t = a.num := ⟨_, rfl⟩
  obtain ⟨ad, had⟩ : ∃ t, t = (a.den : Int) := ⟨_, rfl⟩
  obtain ⟨bn, hbn⟩ : ∃ t, t = b.num := ⟨_, rfl⟩
  obtain ⟨bd, hbd⟩ : ∃ t, t = (b.den : Int) := ⟨_, rfl⟩
  simp only [← han, ← had, ← hbn, ← hbd] at CC C1 C2 ⊢
  clear han had hbn hbd ha hb hr
  go_enter Tryd.func25, Tryd.ntmps25
  go_wp2_with fail
  refine (C1.out _).mono ?_
  rintro e w1 ⟨rfl, hb1⟩
  obtain ⟨A0, B0⟩ := At2.two w (.int .i64 an) (.int .i64 ad) (.int .i64 bn) (.int .i64 bd) 24 24
  have A1 := A0.keep hb1
  have B1 := B0.keep hb1
  have HB := Lib.hid (bstep (below2 w _ _) hb1)
  clear hb1 A0 B0
  obtain ⟨p0, p1, _, _, _⟩ := id B1
  go_wp2_with fail
  refine (C2.out _).mono ?_
  rintro e w2 ⟨rfl, hb2⟩
  clear p0 p1
  have A2 := A1.keep hb2
  have B2 := B1.keep hb2
  have HB2 := Lib.hid (bstep HB.out hb2)
  clear hb2 A1 B1 HB
  obtain ⟨p0, p1, _, _, _⟩ := id A2
  obtain ⟨q0, q1, _, _, _⟩ := id B2
  go_wp2_with fail
  refine (CC.out _).mono ?_
  rintro e w3 ⟨rfl, hb3⟩
  have HB3 := Lib.hid (bstep HB2.out hb3)
  clear hb3 HB2
  go_wp2_with fail
  go_ret2
  exact ⟨rfl, HB3.out⟩
theorem pCmp_b1 (n d n' d' : Int) (w : World) (hk : rok n d = false) :
    Calls Tryd.prog 25 #[.agg #[.int .i64 n, .int .i64 d], .agg #[.int .i64 n', .int .i64 d']] w fun e w' => e = .returned (.tuple #[.int .i64 0, .int .i64 1]) ∧ Below w.heap.size w w' := by
  have C1 := Lib.hid (fun wx => valid_is n d false hk wx)
  clear hk
  go_enter Tryd.func25, Tryd.ntmps25
  go_wp2_with fail
  refine (C1.out _).mono ?_
  rintro e w1 ⟨rfl, hb1⟩
  have HB := Lib.hid (bstep (below2 w _ _) hb1)
  clear hb1
  go_wp2_with fail
  go_ret2
  exact ⟨rfl, HB.out⟩
theorem pCmp_b2 (n d n' d' : Int) (w : World) (hk : rok n d = true) (hk' : rok n' d' = false) :
    Calls Tryd.prog 25 #[.agg #[.int .i64 n, .int .i64 d], .agg #[.int .i64 n', .int .i64 d']] w fun e w' => e = .returned (.tuple #[.int .i64 0, .int .i64 1]) ∧ Below w.heap.size w w' := by
  have C1 := Lib.hid (fun wx => valid_is n d true hk wx)
  have C2 := Lib.hid (fun wx => valid_is n' d' false hk' wx)
  clear hk hk'
  go_enter Tryd.func25, Tryd.ntmps25
  go_wp2_with fail
  refine (C1.out _).mono ?_
  rintro e w1 ⟨rfl, hb1⟩
  obtain ⟨-, B0⟩ := At2.two w (.int .i64 n) (.int .i64 d) (.int .i64 n') (.int .i64 d') 24 24
  obtain ⟨p0, p1, _, _, _⟩ := B0.keep hb1
  have HB := Lib.hid (bstep (below2 w _ _) hb1)
  clear hb1 B0
  go_wp2_with fail
  refine (C2.out _).mono ?_
  rintro e w2 ⟨rfl, hb2⟩
  have HB2 := Lib.hid (bstep HB.out hb2)
  clear hb2
  go_wp2_with fail
  go_ret2
  exact ⟨rfl, HB2.out⟩
theorem pFloor (n d : Int) (w : World) (hk : rok n d = true) :
    Calls Tryd.prog 26 #[.agg #[.int .i64 n, .int .i64 d]] w fun e w' => e = .returned (.tuple #[.int .i64 (n / d), .int .i64 0]) ∧ Below w.heap.size w w' := by
  have C1 := Lib.hid (fun wx => valid_is n d true hk wx)
  have hk := (rok_iff _ _).1 hk
  have CQ := Lib.hid (fun wx => quotient_any n d wx (by omega) (by omega) (by omega))
  obtain ⟨q, hq⟩ : ∃ q, q = n / d := ⟨_, rfl⟩
  rw [← hq] at CQ ⊢
  clear hq hk
  go_enter Tryd.func26, Tryd.ntmps26
  go_wp2_with fail
  refine (C1.out _).mono ?_
  rintro e w1 ⟨rfl, hb1⟩
  obtain ⟨p0, p1, _, _, _⟩ := (At2.new w (.int .i64 n) (.int .i64 d) 24).keep hb1
  have HB := Lib.hid (alloc_below hb1)
  clear hb1
  go_wp2_with fail
  refine (CQ.out _).mono ?_
  rintro e w2 ⟨rfl, rfl⟩
  go_wp2_with fail
  go_ret2
  exact ⟨rfl, HB.out⟩
theorem pFloor_bad (n d : Int) (w : World) (hk : rok n d = false) :
    Calls Tryd.prog 26 #[.agg #[.int .i64 n, .int .i64 d]] w fun e w' => e = .returned (.tuple #[.int .i64 0, .int .i64 1]) ∧ Below w.heap.size w w' := by
  have C1 := Lib.hid (fun wx => valid_is n d false hk wx)
  clear hk
  go_enter Tryd.func26, Tryd.ntmps26
  go_wp2_with fail
  refine (C1.out _).mono ?_
  rintro e w1 ⟨rfl, hb1⟩
  have HB := Lib.hid (alloc_below hb1)
  clear hb1
  go_wp2_with fail
  go_ret2
  exact ⟨rfl, HB.out⟩
theorem pRound (n d : Int) (w : World) (hk : rok n d = true) :
    Calls Tryd.prog 27 #[.agg #[.int .i64 n, .int .i64 d]] w fun e w' => e = .returned (.tuple #[.int .i64 ((2 * n + d) / (2 * d)), .int .i64 0]) ∧ Below w.heap.size w w' := by
  have C1 := Lib.hid (fun wx => valid_is n d true hk wx)
  have hk := (rok_iff _ _).1 hk
  obtain ⟨k1, k2, k3, k4, -⟩ := hk
  have CQ := Lib.hid (fun wx => quotient_any (2 * n + d) (2 * d) wx (by omega) (by omega) (by omega))
  obtain ⟨q, hq⟩ : ∃ q, q = (2 * n + d) / (2 * d) := ⟨_, rfl⟩
  rw [← hq] at CQ ⊢
  clear hq
  go_enter Tryd.func27, Tryd.ntmps27
  go_wp2_with fail
  refine (C1.out _).mono ?_
  rintro e w1 ⟨rfl, hb1⟩
  obtain ⟨p0, p1, _, _, _⟩ := (At2.new w (.int .i64 n) (.int .i64 d) 24).keep hb1
  have HB := Lib.hid (alloc_below hb1)
  clear hb1
  go_wp2_with fail
  refine (CQ.out _).mono ?_
  rintro e w2 ⟨rfl, rfl⟩
  go_wp2_with fail
  go_ret2
  exact ⟨rfl, HB.out⟩
theorem pRound_bad (n d : Int) (w : World) (hk : rok n d = false) :
    Calls Tryd.prog 27 #[.agg #[.int .i64 n, .int .i64 d]] w fun e w' => e = .returned (.tuple #[.int .i64 0, .int .i64 1]) ∧ Below w.heap.size w w' := by
  have C1 := Lib.hid (fun wx => valid_is n d false hk wx)
  clear hk
  go_enter Tryd.func27, Tryd.ntmps27
  go_wp2_with fail
  refine (C1.out _).mono ?_
  rintro e w1 ⟨rfl, hb1⟩
  have HB := Lib.hid (alloc_below hb1)
  clear hb1
  go_wp2_with fail
  go_ret2
  exact ⟨rfl, HB.out⟩
end Go.Proofs.YtlcmnfhkicjclaaDoor
