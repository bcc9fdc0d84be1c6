/- ArctrigDirections: the direction of an angle is the angle. -/
import Derived.Test.YtebhflmmdfbjkaaDoorArO
import Derived.Test.YtebhflmmdfbjkaaDoorArAg
import Derived.Test.YtebhflmmdfbjkaaDoorArI
import Derived.Test.YtebhflmmdfbjkaaDoorArd
import Derived.Test.YtebhflmmdfbjkaaDoorTg38
namespace Go.Proofs.YtebhflmmdfbjkaaDoor
open Go.RowKit
set_option linter.unusedVariables false
set_option maxRecDepth 100000

/-- the rounded point of an angle, turned back -/
theorem pt_rot {n m : Int} {q : Nat} (hq : q ≤ 3) (e : ∃ j : Int, n = m + 5400000 * (q : Int) + j * 21600000) (m0 : -2700000 ≤ m) (m1 : m ≤ 2700000) (n0 : -1099511627776 ≤ n) (n1 : n ≤ 1099511627776) (i : Nat) :
    L6.lo (m + 5400000) ≤ (rot (cnr (L6.lo n) (L6.hi n) (L6.lo (n + 5400000)) (L6.hi (n + 5400000)) i) q).1 ∧ (rot (cnr (L6.lo n) (L6.hi n) (L6.lo (n + 5400000)) (L6.hi (n + 5400000)) i) q).1 ≤ L6.hi (m + 5400000) ∧ L6.lo m ≤ (rot (cnr (L6.lo n) (L6.hi n) (L6.lo (n + 5400000)) (L6.hi (n + 5400000)) i) q).2 ∧ (rot (cnr (L6.lo n) (L6.hi n) (L6.lo (n + 5400000)) (L6.hi (n + 5400000)) i) q).2 ≤ L6.hi m := by
  obtain ⟨j, hj⟩ := e
  have box : ∀ i, (L6.lo (n + 5400000) ≤ (cnr (L6.lo n) (L6.hi n) (L6.lo (n + 5400000)) (L6.hi (n + 5400000)) i).1 ∧ (cnr (L6.lo n) (L6.hi n) (L6.lo (n + 5400000)) (L6.hi (n + 5400000)) i).1 ≤ L6.hi (n + 5400000)) ∧ L6.lo n ≤ (cnr (L6.lo n) (L6.hi n) (L6.lo (n + 5400000)) (L6.hi (n + 5400000)) i).2 ∧ (cnr (L6.lo n) (L6.hi n) (L6.lo (n + 5400000)) (L6.hi (n + 5400000)) i).2 ≤ L6.hi n := by
    intro i
    have a := (L6.lo_le_hi n).1
    have b := (L6.lo_le_hi (n + 5400000)).1
    match i with
    | 0 => exact ⟨⟨Int.le_refl _, b⟩, Int.le_refl _, a⟩
    | 1 => exact ⟨⟨Int.le_refl _, b⟩, a, Int.le_refl _⟩
    | 2 => exact ⟨⟨b, Int.le_refl _⟩, Int.le_refl _, a⟩
    | i + 3 => exact ⟨⟨b, Int.le_refl _⟩, a, Int.le_refl _⟩
  obtain ⟨⟨b1, b2⟩, b3, b4⟩ := box i
  generalize cnr (L6.lo n) (L6.hi n) (L6.lo (n + 5400000)) (L6.hi (n + 5400000)) i = p at *
  have okm : L6.Ok m := by unfold L6.Ok; omega
  have okm2 : L6.Ok (m + 10800000) := by unfold L6.Ok; omega
  have okq : L6.Ok (m + 5400000) := by unfold L6.Ok; omega
  have okq2 : L6.Ok (m + 5400000 + 10800000) := by unfold L6.Ok; omega
  obtain ⟨h1, h2⟩ := L6.lo_half m okm okm2
  obtain ⟨h3, h4⟩ := L6.lo_half (m + 5400000) okq okq2
  match q, hq with
  | 0, _ =>
    obtain ⟨t1, t2⟩ := L6.lo_turns m j
    obtain ⟨t3, t4⟩ := L6.lo_turns (m + 5400000) j
    rw [show m + j * 21600000 = n by omega] at t1 t2
    rw [show m + 5400000 + j * 21600000 = n + 5400000 by omega] at t3 t4
    show _ ≤ p.1 ∧ p.1 ≤ _ ∧ _ ≤ p.2 ∧ p.2 ≤ _
    omega
  | 1, _ =>
    obtain ⟨t1, t2⟩ := L6.lo_turns (m + 5400000) j
    obtain ⟨t3, t4⟩ := L6.lo_turns (m + 10800000) j
    rw [show m + 5400000 + j * 21600000 = n by omega] at t1 t2
    rw [show m + 10800000 + j * 21600000 = n + 5400000 by omega] at t3 t4
    show _ ≤ p.2 ∧ p.2 ≤ _ ∧ _ ≤ -p.1 ∧ -p.1 ≤ _
    omega
  | 2, _ =>
    obtain ⟨t1, t2⟩ := L6.lo_turns (m + 10800000) j
    obtain ⟨t3, t4⟩ := L6.lo_turns (m + 5400000 + 10800000) j
    rw [show m + 10800000 + j * 21600000 = n by omega] at t1 t2
    rw [show m + 5400000 + 10800000 + j * 21600000 = n + 5400000 by omega] at t3 t4
    show _ ≤ -p.1 ∧ -p.1 ≤ _ ∧ _ ≤ -p.2 ∧ -p.2 ≤ _
    omega
  | 3, _ =>
    obtain ⟨t1, t2⟩ := L6.lo_turns (m + 5400000 + 10800000) j
    obtain ⟨t3, t4⟩ := L6.lo_turns m (j + 1)
    rw [show m + 5400000 + 10800000 + j * 21600000 = n by omega] at t1 t2
    rw [show m + (j + 1) * 21600000 = n + 5400000 by omega] at t3 t4
    show _ ≤ -p.2 ∧ -p.2 ≤ _ ∧ _ ≤ p.1 ∧ p.1 ≤ _
    omega
theorem dir_arc {n : Int} (n0 : -1099511627776 ≤ n) (n1 : n ≤ 1099511627776) : beE (L6.lo n) (L6.hi n) (L6.lo (n + 5400000)) (L6.hi (n + 5400000)) = 0 ∧ 0 ≤ beL (L6.lo n) (L6.hi n) (L6.lo (n + 5400000)) (L6.hi (n + 5400000)) ∧ beL (L6.lo n) (L6.hi n) (L6.lo (n + 5400000)) (L6.hi (n + 5400000)) < 21600000 ∧ beL (L6.lo n) (L6.hi n) (L6.lo (n + 5400000)) (L6.hi (n + 5400000)) ≤ beH (L6.lo n) (L6.hi n) (L6.lo (n + 5400000)) (L6.hi (n + 5400000)) ∧
    beH (L6.lo n) (L6.hi n) (L6.lo (n + 5400000)) (L6.hi (n + 5400000)) - beL (L6.lo n) (L6.hi n) (L6.lo (n + 5400000)) (L6.hi (n + 5400000)) ≤ 3 ∧ agR (beL (L6.lo n) (L6.hi n) (L6.lo (n + 5400000)) (L6.hi (n + 5400000))) (beH (L6.lo n) (L6.hi n) (L6.lo (n + 5400000)) (L6.hi (n + 5400000))) n n = true := by
  obtain ⟨m, hm⟩ : ∃ m, m = (n + 2700000) % 5400000 - 2700000 := ⟨_, rfl⟩
  obtain ⟨q, hq⟩ : ∃ q : Nat, (q : Int) = ((n - m) / 5400000) % 4 := ⟨(((n - m) / 5400000) % 4).toNat, by omega⟩
  have q3 : q ≤ 3 := by omega
  have e : ∃ j : Int, n = m + 5400000 * (q : Int) + j * 21600000 := ⟨(n - m) / 5400000 / 4, by omega⟩
  have P := fun i => pt_rot q3 e (by omega) (by omega) n0 n1 i
  have D := fun i => L6.dir_pt (by omega) (by omega) (P i).1 (P i).2.1 (P i).2.2.1 (P i).2.2.2
  have ok1 : L6.Ok n := by unfold L6.Ok; omega
  have ok2 : L6.Ok (n + 5400000) := by unfold L6.Ok; omega
  obtain ⟨k1, k2⟩ := L6.lo_hi_in n ok1
  obtain ⟨k3, k4⟩ := L6.lo_hi_in (n + 5400000) ok2
  have r1 := L6.lo_le_hi n
  have r2 := L6.lo_le_hi (n + 5400000)
  have hx : ∀ i, 0 < (rot (cnr (L6.lo n) (L6.hi n) (L6.lo (n + 5400000)) (L6.hi (n + 5400000)) i) q).1 := fun i => (D i).1
  obtain ⟨F, L, f⟩ := be_form ((fok_iff _ _).2 (by omega)) ((fok_iff _ _).2 (by omega)) (half_off q3 hx) q q3 hx
  obtain ⟨i, ei⟩ := f.isF
  obtain ⟨j, ej⟩ := f.isL
  have dF := D i
  have dL := D j
  rw [← ei] at dF
  rw [← ej] at dL
  have lo := f.lo
  have hi := f.hi
  have er := f.er
  generalize beL (L6.lo n) (L6.hi n) (L6.lo (n + 5400000)) (L6.hi (n + 5400000)) = l at *
  generalize beH (L6.lo n) (L6.hi n) (L6.lo (n + 5400000)) (L6.hi (n + 5400000)) = h at *
  generalize beE (L6.lo n) (L6.hi n) (L6.lo (n + 5400000)) (L6.hi (n + 5400000)) = er' at *
  generalize L6.hD F.1 F.2 = x at *
  generalize L6.hU' L.1 L.2 = y at *
  clear D P f dir_arc
  refine ⟨er, by omega, by omega, by omega, by omega, ?_⟩
  obtain ⟨t, ht⟩ := e
  have key : ∃ s : Int, l ≤ n + s * 21600000 ∧ n + s * 21600000 ≤ h := ⟨-t + (l - (5400000 * (q : Int) + x)) / 21600000, by omega, by omega⟩
  obtain ⟨s, s1, s2⟩ := key
  have a := agR_part s1 s2
  rw [agR_comm] at a
  rw [agR_move n n l h s] at a
  rw [agR_comm]
  exact a
theorem dirs_lo (n : Int) (w : World) (n1 : n < -1099511627776)
    (C0 : Hid (∀ wx, Below w.heap.size w wx → Calls Tryd.prog 11 #[] wx fun e w' => e = .returned (.bool true) ∧ Below wx.heap.size wx w'))
    : Calls Tryd.prog 10 #[.int .i64 n] w fun e w' => e = .returned (.bool true) ∧ Below w.heap.size w w' := by
  have HB := Lib.hid (Below.refl w.heap.size w)
  go_enter Tryd.func10, Tryd.ntmps10
  go_wp2_with fail
  refine (C0.out _ HB.out).mono ?_
  rintro e1 wz1 ⟨rfl, hb⟩
  have HB := Lib.hid (bstep HB.out hb)
  clear hb
  go_wp2_with fail
  go_ret
  exact ⟨rfl, HB.out⟩
theorem dirs_hi (n : Int) (w : World) (n0 : ¬ n < -1099511627776) (n1 : n > 1099511627776)
    (C0 : Hid (∀ wx, Below w.heap.size w wx → Calls Tryd.prog 11 #[] wx fun e w' => e = .returned (.bool true) ∧ Below wx.heap.size wx w'))
    : Calls Tryd.prog 10 #[.int .i64 n] w fun e w' => e = .returned (.bool true) ∧ Below w.heap.size w w' := by
  have HB := Lib.hid (Below.refl w.heap.size w)
  go_enter Tryd.func10, Tryd.ntmps10
  go_wp2_with fail
  refine (C0.out _ HB.out).mono ?_
  rintro e1 wz1 ⟨rfl, hb⟩
  have HB := Lib.hid (bstep HB.out hb)
  clear hb
  go_wp2_with fail
  go_ret
  exact ⟨rfl, HB.out⟩
set_option maxHeartbeats 1000000 in
theorem dirs_in (n s1 s2 c1 c2 l h d : Int) (w : World) (n1 : ¬ n < -1099511627776) (n2 : ¬ n > 1099511627776) (hd : h - l = d) (d0 : 0 ≤ d) (d3 : d ≤ 3)
    (C0 : Hid (∀ wx, Below w.heap.size w wx → Calls Tryd.prog 11 #[] wx fun e w' => e = .returned (.bool true) ∧ Below wx.heap.size wx w'))
    (K1 : Hid (∀ wx, Below w.heap.size w wx → Calls Tryd.prog 22 #[.agg #[.int .i64 n, .int .i64 n]] wx fun e w' => e = .returned (.tuple #[.agg #[.int .i64 s1, .int .i64 s2], .int .i64 0]) ∧ Below wx.heap.size wx w'))
    (K2 : Hid (∀ wx, Below w.heap.size w wx → Calls Tryd.prog 23 #[.agg #[.int .i64 n, .int .i64 n]] wx fun e w' => e = .returned (.tuple #[.agg #[.int .i64 c1, .int .i64 c2], .int .i64 0]) ∧ Below wx.heap.size wx w'))
    (K3 : Hid (∀ wx, Below w.heap.size w wx → Calls Tryd.prog 18 #[.agg #[.int .i64 s1, .int .i64 s2], .agg #[.int .i64 c1, .int .i64 c2]] wx fun e w' => e = .returned (.tuple #[.agg #[.int .i64 l, .int .i64 h], .int .i64 0]) ∧ Below wx.heap.size wx w'))
    (K4 : Hid (∀ wx, Calls Tryd.prog 31 #[.agg #[.int .i64 l, .int .i64 h], .agg #[.int .i64 n, .int .i64 n]] wx fun e w' => e = .returned (.tuple #[.bool true, .int .i64 0]) ∧ Below wx.heap.size wx w'))
    : Calls Tryd.prog 10 #[.int .i64 n] w fun e w' => e = .returned (.bool true) ∧ Below w.heap.size w w' := by
  have HB := Lib.hid (Below.refl w.heap.size w)
  go_enter Tryd.func10, Tryd.ntmps10
  go_wp2_with fail
  refine (C0.out _ HB.out).mono ?_
  rintro e1 wz1 ⟨rfl, hb⟩
  have HB := Lib.hid (bstep HB.out hb)
  clear hb
  go_wp2_with fail
  refine (K1.out _ HB.out).mono ?_
  rintro e2 wz2 ⟨rfl, hb⟩
  have HB := Lib.hid (bstep HB.out hb)
  clear hb
  have S := At2.new wz2 (.int .i64 s1) (.int .i64 s2) 23
  have HB := Lib.hid (bstep HB.out (below1 wz2 (.cells #[.int .i64 s1, .int .i64 s2] 23)))
  obtain ⟨S0, S1, -, -, -⟩ := id S
  go_wp2_with fail
  refine (K2.out _ HB.out).mono ?_
  rintro e3 wz3 ⟨rfl, hb⟩
  clear S0 S1
  have S := S.keep hb
  have HB := Lib.hid (bstep HB.out hb)
  clear hb
  have S := S.alloc (.cells #[.int .i64 c1, .int .i64 c2] 23)
  have U := At2.new wz3 (.int .i64 c1) (.int .i64 c2) 23
  have HB := Lib.hid (bstep HB.out (below1 wz3 (.cells #[.int .i64 c1, .int .i64 c2] 23)))
  obtain ⟨S0, S1, -, -, -⟩ := id S
  obtain ⟨U0, U1, -, -, -⟩ := id U
  go_wp2_with fail
  refine (K3.out _ HB.out).mono ?_
  rintro e4 wz4 ⟨rfl, hb⟩
  clear S0 S1 U0 U1
  have S := S.keep hb
  have U := U.keep hb
  have HB := Lib.hid (bstep HB.out hb)
  clear hb
  have S := S.alloc (.cells #[.int .i64 l, .int .i64 h] 25)
  have U := U.alloc (.cells #[.int .i64 l, .int .i64 h] 25)
  have A := At2.new wz4 (.int .i64 l) (.int .i64 h) 25
  have HB := Lib.hid (bstep HB.out (below1 wz4 (.cells #[.int .i64 l, .int .i64 h] 25)))
  obtain ⟨S0, S1, -, -, -⟩ := id S
  obtain ⟨U0, U1, -, -, -⟩ := id U
  obtain ⟨A0, A1, -, -, -⟩ := id A
  go_wp2_with fail
  refine (K4.out _).mono ?_
  rintro e5 wz5 ⟨rfl, hb⟩
  clear S0 S1 U0 U1 A0 A1
  have S := S.keep hb
  have U := U.keep hb
  have A := A.keep hb
  have HB := Lib.hid (bstep HB.out hb)
  clear hb
  obtain ⟨S0, S1, -, -, -⟩ := id S
  obtain ⟨U0, U1, -, -, -⟩ := id U
  obtain ⟨A0, A1, -, -, -⟩ := id A
  go_wp2_with fail
  go_ret
  exact ⟨rfl, HB.out⟩
theorem dirs_walk (w : World) (H : Held w) (n : Int) (hn : I64 n) : Calls Tryd.prog 10 #[.int .i64 n] w fun e w' => e = .returned (.bool true) ∧ Below w.heap.size w w' := by
  have P := arProg w H
  have T := trProg w H
  have C0 := Lib.hid (fun wx (hb : Below w.heap.size w wx) => awake7 w P wx hb)
  by_cases c1 : n < -1099511627776
  · exact dirs_lo n w c1 C0
  by_cases c2 : n > 1099511627776
  · exact dirs_hi n w c1 c2 C0
  obtain ⟨e1, e2, e3, e4, e5, e6⟩ := dir_arc (n := n) (by omega) (by omega)
  obtain ⟨p1, p2⟩ := sL_pt n
  obtain ⟨q1, q2⟩ := sL_pt (n + 5400000)
  have ok := aok_mk (show -1099511627776 ≤ n by omega) (show n ≤ 1099511627776 by omega) (Int.le_refl n)
  have K1 := fun wx (hx : Below w.heap.size w wx) => T.sin n n wx hx hn hn
  rw [vTr_yes _ _ ok, p1, p2] at K1
  have K2 := fun wx (hx : Below w.heap.size w wx) => T.cos n n wx hx hn hn
  rw [vTr_yes _ _ ok, q1, q2] at K2
  have K3 := fun wx (hx : Below w.heap.size w wx) => pBearing (L6.lo n) (L6.hi n) (L6.lo (n + 5400000)) (L6.hi (n + 5400000)) wx (H.keep hx)
  unfold tAr at K3
  rw [e1] at K3
  generalize beL (L6.lo n) (L6.hi n) (L6.lo (n + 5400000)) (L6.hi (n + 5400000)) = l at *
  generalize beH (L6.lo n) (L6.hi n) (L6.lo (n + 5400000)) (L6.hi (n + 5400000)) = h at *
  have okl := aok_mk (show -1099511627776 ≤ l by omega) (show h ≤ 1099511627776 by omega) e4
  have K4 := fun wx => pAgree l h n n wx
  rw [show agB l h n n = true by unfold agB; rw [okl, ok, e6]; rfl, show agE l h n n = 0 by unfold agE; rw [if_pos ⟨okl, ok⟩]] at K4
  exact dirs_in n _ _ _ _ l h _ w c1 c2 rfl (by omega) e5 C0 (Lib.hid K1) (Lib.hid K2) (Lib.hid K3) (Lib.hid K4)
end Go.Proofs.YtebhflmmdfbjkaaDoor
