/- Arctrig: the reference's small, Near. -/
import Derived.Test.YtndcjldnnfhedaaDoorArYf
namespace Go.Proofs.YtndcjldnnfhedaaDoor.wd2
open Go.RowKit
set_option linter.unusedVariables false
set_option maxRecDepth 100000

/-- what a number of limbs has -/
structure Kk (k P A : Nat) : Prop where
  hk : k ≤ 12
  pw : P = wd2.pw k
  pi : ∀ w, Calls Tryd.prog 113 #[.int .i64 (k : Int)] w (Ret w (dgs A))
  un : ∀ w, Calls Tryd.prog 116 #[.int .i64 (k : Int)] w (Ret w (dgs P))
  al : A < wd2.pw (k + 1)
  xle : ∀ r, r ≤ 2700000 → L6.xL A r ≤ P
  zs : ∀ r, r ≤ 2700000 → L6.tmP P (L6.xL A r) (L6.flP P (L6.xL A r) (L6.xL A r)) 2 16 = 0
  zc : ∀ r, r ≤ 2700000 → L6.tmP P P (L6.flP P (L6.xL A r) (L6.xL A r)) 1 16 = 0
theorem frac_in {P X : Nat} (hP : 0 < P) (h : X ≤ P) : (0 : Rat) < (P : Rat) ∧ (0 : Rat) ≤ (X : Rat) / (P : Rat) ∧ (X : Rat) / (P : Rat) ≤ 1 ∧ (X : Rat) = (P : Rat) * ((X : Rat) / (P : Rat)) := by
  have p0 : (0 : Rat) < (P : Rat) := Rat.natCast_pos.2 hP
  have x0 : (0 : Rat) ≤ (X : Rat) := Rat.natCast_nonneg
  have xp : (X : Rat) ≤ (P : Rat) := Rat.natCast_le_natCast.2 h
  have ne : (P : Rat) ≠ 0 := fun c => by rw [c] at p0; exact absurd p0 (by decide +kernel)
  have e : (X : Rat) = (P : Rat) * ((X : Rat) / (P : Rat)) := by rw [Rat.div_def, ← Rat.mul_assoc, Rat.mul_comm (P : Rat), Rat.mul_assoc, Rat.mul_inv_cancel _ ne, Rat.mul_one]
  refine ⟨p0, ?_, ?_, e⟩
  · refine Classical.byContradiction fun c => ?_
    have c : (X : Rat) / (P : Rat) < 0 := by grind
    have := Rat.mul_lt_mul_of_pos_left c p0
    grind
  · refine Classical.byContradiction fun c => ?_
    have c : 1 < (X : Rat) / (P : Rat) := by grind
    have := Rat.mul_lt_mul_of_pos_left c p0
    grind
theorem k3 : Kk 3 L6.P3 L6.A3 := by
  have X : ∀ r, r ≤ 2700000 → L6.xL L6.A3 r ≤ L6.P3 := fun r hr => by unfold L6.xL L6.A3 L6.P3; omega
  have p : 0 < L6.P3 := by decide
  refine ⟨by omega, p3_pw, pi3, unit3, by decide, X, fun r hr => ?_, fun r hr => ?_⟩
  · obtain ⟨a, b, c, d⟩ := frac_in p (X r hr)
    exact L6.end_sin a b c d (Nat.lt_trans (by decide) L6.fct_big.2)
  · obtain ⟨a, b, c, d⟩ := frac_in p (X r hr)
    exact L6.end_cos a b c d (Nat.lt_trans (by decide) L6.fct_big.1)
theorem k4 : Kk 4 L6.P4 L6.A4 := by
  have X : ∀ r, r ≤ 2700000 → L6.xL L6.A4 r ≤ L6.P4 := fun r hr => by unfold L6.xL L6.A4 L6.P4; omega
  have p : 0 < L6.P4 := by decide
  refine ⟨by omega, p4_pw, pi4, unit4, by decide, X, fun r hr => ?_, fun r hr => ?_⟩
  · obtain ⟨a, b, c, d⟩ := frac_in p (X r hr)
    exact L6.end_sin a b c d L6.fct_big.2
  · obtain ⟨a, b, c, d⟩ := frac_in p (X r hr)
    exact L6.end_cos a b c d L6.fct_big.1
theorem part_deg (A : Option Addr) (n c : Nat) (a : List Nat) (w : World) (ha : DigO w A n c a) (ca : Dok a) (h1 : a.length ≤ 1000) :
    Calls Tryd.prog 112 #[.slice A n c, .int .i64 10800000] w (Ret w (dgs (val a / 10800000))) := part_any A n c 10800000 a w ha ca h1 (by omega) (by omega)
theorem num_field (A : Option Addr) (n c : Nat) (g : Bool) (w : World) : (Instr.field 107 (.agg #[.slice A n c, .bool g]) 0).run Tryd.prog w = .ok (.slice A n c) w := by kernel_rfl
theorem bl2 {w w1 w2 : World} (h : Below w.heap.size w w1) (k : Below w1.heap.size w1 w2) : Below w.heap.size w w2 := h.trans (k.mono h.size)
theorem small_c (k P A r : Nat) (K : Kk k P A) (hr : r ≤ 2700000) (w : World) :
    Calls Tryd.prog 101 #[.int .i64 (r : Int), .bool true, .int .i64 (k : Int)] w (Ret w (dgs (L6.cosL P (L6.xL A r)).toNat)) := by
  have HK := Lib.hid K
  clear K
  have AL : Hid ((dgs A).length ≤ 13) := dgs_short HK.out.hk HK.out.al
  have RL : Hid ((dgs r).length ≤ 10) := dgs_len_ten (by omega)
  have AR : Hid ((dgs (A * r)).length ≤ 23) := by have := dgs_len_mul A r; have := AL.out; have := RL.out; show _ ≤ _; omega
  have XL : Hid ((dgs (L6.xL A r)).length ≤ 13) := dgs_short HK.out.hk (by
    have := HK.out.xle r hr; rw [HK.out.pw] at this; have q : wd2.pw (k + 1) = 268435456 * wd2.pw k := rfl; have := pw_pos k; omega)
  have FL : Hid (L6.flP P (L6.xL A r) (L6.xL A r) ≤ P) := Nat.le_trans (L6.flP_le (HK.out.xle r hr)) (HK.out.xle r hr)
  go_enter Tryd.func101, Tryd.ntmps101
  go_wp2_with (go_at_call 113; refine (HK.out.pi _).mono ?_; rintro e w1 ⟨A1, n1, c1, rfl, d1, f1, b1⟩)
  have D1 := Lib.hid d1
  have B1 := Lib.hid b1
  clear d1 f1 b1
  go_wp2_with fail
  refine (ofint_any (r : Int) _ (by omega) (by omega)).mono ?_
  rintro e w2 ⟨A2, n2, c2, g2, rfl, d2, f2, b2⟩
  have d2 := d2.dig
  rw [Int.natAbs_natCast] at d2
  have D2 := Lib.hid d2
  have D1 := Lib.hid (D1.out.keep b2)
  have hfd := num_field A2 n2 c2 g2
  have B2 := Lib.hid (bl2 B1.out b2)
  clear d2 f2 b2 B1
  go_wp2_with (go_at_call 100; refine (times_off _ _ _ _ _ _ _ _ _ D1.out D2.out.o (can_dgs _).ok (can_dgs _).ok (by have := AL.out; omega) (by have := RL.out; omega)).mono ?_; rintro e w3 ⟨A3, n3, c3, rfl, d3, f3, b3⟩)
  rw [val_dgs, val_dgs] at d3
  have D3 := Lib.hid d3
  have B3 := Lib.hid (bl2 B2.out b3)
  clear d3 f3 b3 B2 D1 D2
  go_wp2_with (go_at_call 112; refine (part_deg _ _ _ _ _ D3.out.o (can_dgs _).ok (by have := AR.out; omega)).mono ?_; rintro e w4 ⟨A4, n4, c4, rfl, d4, f4, b4⟩)
  rw [val_dgs] at d4
  have d4 : Dig w4 A4 n4 c4 (dgs (L6.xL A r)) := d4
  have D4 := Lib.hid d4
  have B4 := Lib.hid (bl2 B3.out b4)
  clear d4 f4 b4 B3 D3
  go_wp2_with (go_at_call 100; refine (times_off _ _ _ _ _ _ _ _ _ D4.out D4.out.o (can_dgs _).ok (can_dgs _).ok (by have := XL.out; omega) (by have := XL.out; omega)).mono ?_; rintro e w5 ⟨A5, n5, c5, rfl, d5, f5, b5⟩)
  rw [val_dgs] at d5
  have D5 := Lib.hid d5
  have D4 := Lib.hid (D4.out.keep b5)
  have B5 := Lib.hid (bl2 B4.out b5)
  clear d5 f5 b5 B4
  go_wp2_with (go_at_call 114; refine (drop_any _ _ _ k _ _ D5.out (by have := HK.out.hk; omega)).mono ?_; rintro e w6 ⟨A6, n6, c6, rfl, d6, rfl⟩)
  rw [dgs_drop, ← HK.out.pw] at d6
  have d6 : DigO w6 A6 n6 c6 (dgs (L6.flP P (L6.xL A r) (L6.xL A r))) := d6
  have D6 := Lib.hid d6
  clear d6 D5
  go_wp2_with (go_at_call 116; refine (HK.out.un _).mono ?_; rintro e w7 ⟨A7, n7, c7, rfl, d7, f7, b7⟩)
  have D7 := Lib.hid d7
  have D6 := Lib.hid (D6.out.keep b7)
  have B7 := Lib.hid (bl2 B5.out b7)
  clear d7 f7 b7 B5
  have C := Lib.hid (series_any k P P (L6.flP P (L6.xL A r) (L6.xL A r)) 1 HK.out.hk HK.out.pw FL.out (Nat.le_refl _) (by omega) (by omega) (HK.out.zc r hr) _ _ _ _ _ _ _ D7.out D6.out)
  go_wp2_with (go_at_call 115; refine C.out.mono ?_; rintro e w8 ⟨A8, n8, c8, rfl, d8, f8, b8⟩)
  have B8 := Lib.hid b8
  have D8 := Lib.hid d8
  have F8 := Lib.hid f8
  clear d8 f8 b8
  go_wp2_with fail
  go_ret
  exact Ret.under B7.out ⟨_, _, _, rfl, D8.out, F8.out, B8.out⟩
theorem small_s (k P A r : Nat) (K : Kk k P A) (hr : r ≤ 2700000) (w : World) :
    Calls Tryd.prog 101 #[.int .i64 (r : Int), .bool false, .int .i64 (k : Int)] w (Ret w (dgs (L6.sinL P (L6.xL A r)).toNat)) := by
  have HK := Lib.hid K
  clear K
  have AL : Hid ((dgs A).length ≤ 13) := dgs_short HK.out.hk HK.out.al
  have RL : Hid ((dgs r).length ≤ 10) := dgs_len_ten (by omega)
  have AR : Hid ((dgs (A * r)).length ≤ 23) := by have := dgs_len_mul A r; have := AL.out; have := RL.out; show _ ≤ _; omega
  have XL : Hid ((dgs (L6.xL A r)).length ≤ 13) := dgs_short HK.out.hk (by
    have := HK.out.xle r hr; rw [HK.out.pw] at this; have q : wd2.pw (k + 1) = 268435456 * wd2.pw k := rfl; have := pw_pos k; omega)
  have FL : Hid (L6.flP P (L6.xL A r) (L6.xL A r) ≤ P) := Nat.le_trans (L6.flP_le (HK.out.xle r hr)) (HK.out.xle r hr)
  go_enter Tryd.func101, Tryd.ntmps101
  go_wp2_with (go_at_call 113; refine (HK.out.pi _).mono ?_; rintro e w1 ⟨A1, n1, c1, rfl, d1, f1, b1⟩)
  have D1 := Lib.hid d1
  have B1 := Lib.hid b1
  clear d1 f1 b1
  go_wp2_with fail
  refine (ofint_any (r : Int) _ (by omega) (by omega)).mono ?_
  rintro e w2 ⟨A2, n2, c2, g2, rfl, d2, f2, b2⟩
  have d2 := d2.dig
  rw [Int.natAbs_natCast] at d2
  have D2 := Lib.hid d2
  have D1 := Lib.hid (D1.out.keep b2)
  have hfd := num_field A2 n2 c2 g2
  have B2 := Lib.hid (bl2 B1.out b2)
  clear d2 f2 b2 B1
  go_wp2_with (go_at_call 100; refine (times_off _ _ _ _ _ _ _ _ _ D1.out D2.out.o (can_dgs _).ok (can_dgs _).ok (by have := AL.out; omega) (by have := RL.out; omega)).mono ?_; rintro e w3 ⟨A3, n3, c3, rfl, d3, f3, b3⟩)
  rw [val_dgs, val_dgs] at d3
  have D3 := Lib.hid d3
  have B3 := Lib.hid (bl2 B2.out b3)
  clear d3 f3 b3 B2 D1 D2
  go_wp2_with (go_at_call 112; refine (part_deg _ _ _ _ _ D3.out.o (can_dgs _).ok (by have := AR.out; omega)).mono ?_; rintro e w4 ⟨A4, n4, c4, rfl, d4, f4, b4⟩)
  rw [val_dgs] at d4
  have d4 : Dig w4 A4 n4 c4 (dgs (L6.xL A r)) := d4
  have D4 := Lib.hid d4
  have B4 := Lib.hid (bl2 B3.out b4)
  clear d4 f4 b4 B3 D3
  go_wp2_with (go_at_call 100; refine (times_off _ _ _ _ _ _ _ _ _ D4.out D4.out.o (can_dgs _).ok (can_dgs _).ok (by have := XL.out; omega) (by have := XL.out; omega)).mono ?_; rintro e w5 ⟨A5, n5, c5, rfl, d5, f5, b5⟩)
  rw [val_dgs] at d5
  have D5 := Lib.hid d5
  have D4 := Lib.hid (D4.out.keep b5)
  have B5 := Lib.hid (bl2 B4.out b5)
  clear d5 f5 b5 B4
  go_wp2_with (go_at_call 114; refine (drop_any _ _ _ k _ _ D5.out (by have := HK.out.hk; omega)).mono ?_; rintro e w6 ⟨A6, n6, c6, rfl, d6, rfl⟩)
  rw [dgs_drop, ← HK.out.pw] at d6
  have d6 : DigO w6 A6 n6 c6 (dgs (L6.flP P (L6.xL A r) (L6.xL A r))) := d6
  have D6 := Lib.hid d6
  clear d6 D5
  have C := Lib.hid (series_any k P (L6.xL A r) (L6.flP P (L6.xL A r) (L6.xL A r)) 2 HK.out.hk HK.out.pw FL.out (HK.out.xle r hr) (by omega) (by omega) (HK.out.zs r hr) _ _ _ _ _ _ _ D4.out D6.out)
  go_wp2_with (go_at_call 115; refine C.out.mono ?_; rintro e w8 ⟨A8, n8, c8, rfl, d8, f8, b8⟩)
  have B8 := Lib.hid b8
  have D8 := Lib.hid d8
  have F8 := Lib.hid f8
  clear d8 f8 b8
  go_wp2_with fail
  go_ret
  exact Ret.under B5.out ⟨_, _, _, rfl, D8.out, F8.out, B8.out⟩
theorem small_any (k P A r : Nat) (c : Bool) (K : Kk k P A) (hr : r ≤ 2700000) (w : World) :
    Calls Tryd.prog 101 #[.int .i64 (r : Int), .bool c, .int .i64 (k : Int)] w (Ret w (dgs (if c = true then L6.cosL P (L6.xL A r) else L6.sinL P (L6.xL A r)).toNat)) := by
  cases c
  · rw [if_neg (by simp)]; exact small_s k P A r K hr w
  · rw [if_pos rfl]; exact small_c k P A r K hr w
theorem nv_pos (k P A : Nat) (K : Kk k P A) (n : Int) : 0 ≤ L6.nvL P A n := by
  have h := L6.rr_in n
  have x := K.xle _ h
  have f : L6.flP P (L6.xL A (L6.rr n)) (L6.xL A (L6.rr n)) ≤ P := Nat.le_trans (L6.flP_le x) x
  unfold L6.nvL
  split
  · exact L6.al_nonneg f 16
  · exact L6.al_nonneg f 16
theorem near_fin {w w1 : World} {b : Nat} {A : Option Addr} {n c N : Nat} {g : Bool} {z : Int} (D : Dig w1 A n c (dgs N)) (F : Fr w A) (B : Below w.heap.size w w1) (hb : w.heap.size ≤ b) (hF : ∀ ad, A = some ad → ad.block ≠ b) (hg : g = true → N ≠ 0) (hz : sv g N = z) :
    RetZ w z (.returned (.agg #[.slice A n c, .bool g])) ((w1.setCell ⟨b, 0, none⟩ (.slice A n c)).setCell ⟨b, 1, none⟩ (.bool g)) :=
  ⟨A, n, c, g, rfl, by rw [← hz]; exact NZ.mk' ((D.far _ hF _).far _ hF _) hg, F, (B.setCell hb _).setCell hb _⟩
set_option maxHeartbeats 2000000 in
theorem near_000 (k : Nat) (n : Int) (M Q R r N : Nat) (c : Bool) (w : World) (h0 : n.tmod 21600000 = (M : Int)) (hM : M < 21600000) (hQ : (M : Int) / 5400000 = (Q : Int)) (hR : (M : Int) % 5400000 = (R : Int)) (hP : ((Q : Int) % 2 == 1) = c) (hk : k ≤ 12)
    (hfar : ¬ (R : Int) > 2700000) (hbig : ¬ (Q : Int) ≥ 2)  (hr : (R : Int) = (r : Int)) (C : ∀ wx, Calls Tryd.prog 101 #[.int .i64 (r : Int), .bool (c), .int .i64 (k : Int)] wx (Ret wx (dgs N))) (z : Int) (hz : sv false N = z) (q3 : Q ≤ 3) (r2 : R < 5400000) :
    Calls Tryd.prog 73 #[.int .i64 n, .int .i64 (k : Int)] w (RetZ w z) := by
  have CC := Lib.hid C
  have HZ := Lib.hid hz
  have m0 : ¬ (M : Int) < 0 := by omega
  clear C hz
  go_enter Tryd.func73, Tryd.ntmps73
  go_wp2_with fail
  refine (CC.out _).mono ?_
  rintro e w1 ⟨A1, n1, c1, rfl, d1, f1, b1⟩
  have L1 := d1.len
  have D1 := Lib.hid d1
  have F1 := Lib.hid f1
  have B1 := Lib.hid b1
  have R := (Bl2.new w (.slice none 0 0) (.bool false) 107).keep b1
  obtain ⟨x0, x1, y0, y1, hlt⟩ := R
  clear d1 f1 b1
  clear L1
  go_wp2_with fail
  obtain ⟨s0, s1⟩ := store2 x0 x1 (.slice A1 n1 c1) (.bool false)
  refine bodyPost_ret (v := .agg #[.slice A1 n1 c1, .bool false]) (by simp [results, Tryd.results73, go_sem, s0, s1]) rfl ?_
  refine near_fin D1.out ?_ (bl2 ((Below.refl _ _).alloc (Nat.le_refl _) _) B1.out) (Nat.le_refl _) ?_ (fun h => by cases h) HZ.out
  · exact fun ad e => by have := F1.out ad e; simp at this; omega
  · exact fun ad e => by have := F1.out ad e; simp at this; omega
set_option maxHeartbeats 2000000 in
theorem near_010 (k : Nat) (n : Int) (M Q R r N : Nat) (c : Bool) (w : World) (h0 : n.tmod 21600000 = (M : Int)) (hM : M < 21600000) (hQ : (M : Int) / 5400000 = (Q : Int)) (hR : (M : Int) % 5400000 = (R : Int)) (hP : ((Q : Int) % 2 == 1) = c) (hk : k ≤ 12)
    (hfar : ¬ (R : Int) > 2700000) (hbig : (Q : Int) ≥ 2) (hN : N = 0) (hr : (R : Int) = (r : Int)) (C : ∀ wx, Calls Tryd.prog 101 #[.int .i64 (r : Int), .bool (c), .int .i64 (k : Int)] wx (Ret wx (dgs N))) (z : Int) (hz : sv false N = z) (q3 : Q ≤ 3) (r2 : R < 5400000) :
    Calls Tryd.prog 73 #[.int .i64 n, .int .i64 (k : Int)] w (RetZ w z) := by
  have CC := Lib.hid C
  have HZ := Lib.hid hz
  have HN := Lib.hid hN
  clear hN
  have m0 : ¬ (M : Int) < 0 := by omega
  clear C hz
  go_enter Tryd.func73, Tryd.ntmps73
  go_wp2_with fail
  refine (CC.out _).mono ?_
  rintro e w1 ⟨A1, n1, c1, rfl, d1, f1, b1⟩
  have L1 := d1.len
  have D1 := Lib.hid d1
  have F1 := Lib.hid f1
  have B1 := Lib.hid b1
  have R := (Bl2.new w (.slice none 0 0) (.bool false) 107).keep b1
  obtain ⟨x0, x1, y0, y1, hlt⟩ := R
  clear d1 f1 b1
  have np : n1 = 0 := by rw [L1, HN.out, dgs_zero]; rfl
  subst np
  clear L1
  go_wp2_with fail
  obtain ⟨s0, s1⟩ := store2 x0 x1 (.slice A1 0 c1) (.bool false)
  refine bodyPost_ret (v := .agg #[.slice A1 0 c1, .bool false]) (by simp [results, Tryd.results73, go_sem, s0, s1]) rfl ?_
  refine near_fin D1.out ?_ (bl2 ((Below.refl _ _).alloc (Nat.le_refl _) _) B1.out) (Nat.le_refl _) ?_ (fun h => by cases h) HZ.out
  · exact fun ad e => by have := F1.out ad e; simp at this; omega
  · exact fun ad e => by have := F1.out ad e; simp at this; omega
set_option maxHeartbeats 2000000 in
theorem near_011 (k : Nat) (n : Int) (M Q R r N : Nat) (c : Bool) (w : World) (h0 : n.tmod 21600000 = (M : Int)) (hM : M < 21600000) (hQ : (M : Int) / 5400000 = (Q : Int)) (hR : (M : Int) % 5400000 = (R : Int)) (hP : ((Q : Int) % 2 == 1) = c) (hk : k ≤ 12)
    (hfar : ¬ (R : Int) > 2700000) (hbig : (Q : Int) ≥ 2) (hN : N ≠ 0) (hr : (R : Int) = (r : Int)) (C : ∀ wx, Calls Tryd.prog 101 #[.int .i64 (r : Int), .bool (c), .int .i64 (k : Int)] wx (Ret wx (dgs N))) (z : Int) (hz : sv true N = z) (q3 : Q ≤ 3) (r2 : R < 5400000) :
    Calls Tryd.prog 73 #[.int .i64 n, .int .i64 (k : Int)] w (RetZ w z) := by
  have CC := Lib.hid C
  have HZ := Lib.hid hz
  have HN := Lib.hid hN
  clear hN
  have m0 : ¬ (M : Int) < 0 := by omega
  clear C hz
  go_enter Tryd.func73, Tryd.ntmps73
  go_wp2_with fail
  refine (CC.out _).mono ?_
  rintro e w1 ⟨A1, n1, c1, rfl, d1, f1, b1⟩
  have L1 := d1.len
  have D1 := Lib.hid d1
  have F1 := Lib.hid f1
  have B1 := Lib.hid b1
  have R := (Bl2.new w (.slice none 0 0) (.bool false) 107).keep b1
  obtain ⟨x0, x1, y0, y1, hlt⟩ := R
  clear d1 f1 b1
  have np : 0 < n1 := by rw [L1, dgs_len_pos]; exact HN.out
  have np' : (0 : Int) < (n1 : Int) := by omega
  clear L1
  go_wp2_with fail
  obtain ⟨s0, s1⟩ := store2 x0 x1 (.slice A1 n1 c1) (.bool true)
  refine bodyPost_ret (v := .agg #[.slice A1 n1 c1, .bool true]) (by simp [results, Tryd.results73, go_sem, s0, s1]) rfl ?_
  refine near_fin D1.out ?_ (bl2 ((Below.refl _ _).alloc (Nat.le_refl _) _) B1.out) (Nat.le_refl _) ?_ (fun _ => HN.out) HZ.out
  · exact fun ad e => by have := F1.out ad e; simp at this; omega
  · exact fun ad e => by have := F1.out ad e; simp at this; omega
set_option maxHeartbeats 2000000 in
theorem near_100 (k : Nat) (n : Int) (M Q R r N : Nat) (c : Bool) (w : World) (h0 : n.tmod 21600000 = (M : Int)) (hM : M < 21600000) (hQ : (M : Int) / 5400000 = (Q : Int)) (hR : (M : Int) % 5400000 = (R : Int)) (hP : ((Q : Int) % 2 == 1) = c) (hk : k ≤ 12)
    (hfar : (R : Int) > 2700000) (hbig : ¬ (Q : Int) ≥ 2)  (hr : 5400000 - (R : Int) = (r : Int)) (C : ∀ wx, Calls Tryd.prog 101 #[.int .i64 (r : Int), .bool (!c), .int .i64 (k : Int)] wx (Ret wx (dgs N))) (z : Int) (hz : sv false N = z) (q3 : Q ≤ 3) (r2 : R < 5400000) :
    Calls Tryd.prog 73 #[.int .i64 n, .int .i64 (k : Int)] w (RetZ w z) := by
  have CC := Lib.hid C
  have HZ := Lib.hid hz
  have m0 : ¬ (M : Int) < 0 := by omega
  clear C hz
  go_enter Tryd.func73, Tryd.ntmps73
  go_wp2_with fail
  refine (CC.out _).mono ?_
  rintro e w1 ⟨A1, n1, c1, rfl, d1, f1, b1⟩
  have L1 := d1.len
  have D1 := Lib.hid d1
  have F1 := Lib.hid f1
  have B1 := Lib.hid b1
  have R := (Bl2.new w (.slice none 0 0) (.bool false) 107).keep b1
  obtain ⟨x0, x1, y0, y1, hlt⟩ := R
  clear d1 f1 b1
  clear L1
  go_wp2_with fail
  obtain ⟨s0, s1⟩ := store2 x0 x1 (.slice A1 n1 c1) (.bool false)
  refine bodyPost_ret (v := .agg #[.slice A1 n1 c1, .bool false]) (by simp [results, Tryd.results73, go_sem, s0, s1]) rfl ?_
  refine near_fin D1.out ?_ (bl2 ((Below.refl _ _).alloc (Nat.le_refl _) _) B1.out) (Nat.le_refl _) ?_ (fun h => by cases h) HZ.out
  · exact fun ad e => by have := F1.out ad e; simp at this; omega
  · exact fun ad e => by have := F1.out ad e; simp at this; omega
set_option maxHeartbeats 2000000 in
theorem near_110 (k : Nat) (n : Int) (M Q R r N : Nat) (c : Bool) (w : World) (h0 : n.tmod 21600000 = (M : Int)) (hM : M < 21600000) (hQ : (M : Int) / 5400000 = (Q : Int)) (hR : (M : Int) % 5400000 = (R : Int)) (hP : ((Q : Int) % 2 == 1) = c) (hk : k ≤ 12)
    (hfar : (R : Int) > 2700000) (hbig : (Q : Int) ≥ 2) (hN : N = 0) (hr : 5400000 - (R : Int) = (r : Int)) (C : ∀ wx, Calls Tryd.prog 101 #[.int .i64 (r : Int), .bool (!c), .int .i64 (k : Int)] wx (Ret wx (dgs N))) (z : Int) (hz : sv false N = z) (q3 : Q ≤ 3) (r2 : R < 5400000) :
    Calls Tryd.prog 73 #[.int .i64 n, .int .i64 (k : Int)] w (RetZ w z) := by
  have CC := Lib.hid C
  have HZ := Lib.hid hz
  have HN := Lib.hid hN
  clear hN
  have m0 : ¬ (M : Int) < 0 := by omega
  clear C hz
  go_enter Tryd.func73, Tryd.ntmps73
  go_wp2_with fail
  refine (CC.out _).mono ?_
  rintro e w1 ⟨A1, n1, c1, rfl, d1, f1, b1⟩
  have L1 := d1.len
  have D1 := Lib.hid d1
  have F1 := Lib.hid f1
  have B1 := Lib.hid b1
  have R := (Bl2.new w (.slice none 0 0) (.bool false) 107).keep b1
  obtain ⟨x0, x1, y0, y1, hlt⟩ := R
  clear d1 f1 b1
  have np : n1 = 0 := by rw [L1, HN.out, dgs_zero]; rfl
  subst np
  clear L1
  go_wp2_with fail
  obtain ⟨s0, s1⟩ := store2 x0 x1 (.slice A1 0 c1) (.bool false)
  refine bodyPost_ret (v := .agg #[.slice A1 0 c1, .bool false]) (by simp [results, Tryd.results73, go_sem, s0, s1]) rfl ?_
  refine near_fin D1.out ?_ (bl2 ((Below.refl _ _).alloc (Nat.le_refl _) _) B1.out) (Nat.le_refl _) ?_ (fun h => by cases h) HZ.out
  · exact fun ad e => by have := F1.out ad e; simp at this; omega
  · exact fun ad e => by have := F1.out ad e; simp at this; omega
set_option maxHeartbeats 2000000 in
theorem near_111 (k : Nat) (n : Int) (M Q R r N : Nat) (c : Bool) (w : World) (h0 : n.tmod 21600000 = (M : Int)) (hM : M < 21600000) (hQ : (M : Int) / 5400000 = (Q : Int)) (hR : (M : Int) % 5400000 = (R : Int)) (hP : ((Q : Int) % 2 == 1) = c) (hk : k ≤ 12)
    (hfar : (R : Int) > 2700000) (hbig : (Q : Int) ≥ 2) (hN : N ≠ 0) (hr : 5400000 - (R : Int) = (r : Int)) (C : ∀ wx, Calls Tryd.prog 101 #[.int .i64 (r : Int), .bool (!c), .int .i64 (k : Int)] wx (Ret wx (dgs N))) (z : Int) (hz : sv true N = z) (q3 : Q ≤ 3) (r2 : R < 5400000) :
    Calls Tryd.prog 73 #[.int .i64 n, .int .i64 (k : Int)] w (RetZ w z) := by
  have CC := Lib.hid C
  have HZ := Lib.hid hz
  have HN := Lib.hid hN
  clear hN
  have m0 : ¬ (M : Int) < 0 := by omega
  clear C hz
  go_enter Tryd.func73, Tryd.ntmps73
  go_wp2_with fail
  refine (CC.out _).mono ?_
  rintro e w1 ⟨A1, n1, c1, rfl, d1, f1, b1⟩
  have L1 := d1.len
  have D1 := Lib.hid d1
  have F1 := Lib.hid f1
  have B1 := Lib.hid b1
  have R := (Bl2.new w (.slice none 0 0) (.bool false) 107).keep b1
  obtain ⟨x0, x1, y0, y1, hlt⟩ := R
  clear d1 f1 b1
  have np : 0 < n1 := by rw [L1, dgs_len_pos]; exact HN.out
  have np' : (0 : Int) < (n1 : Int) := by omega
  clear L1
  go_wp2_with fail
  obtain ⟨s0, s1⟩ := store2 x0 x1 (.slice A1 n1 c1) (.bool true)
  refine bodyPost_ret (v := .agg #[.slice A1 n1 c1, .bool true]) (by simp [results, Tryd.results73, go_sem, s0, s1]) rfl ?_
  refine near_fin D1.out ?_ (bl2 ((Below.refl _ _).alloc (Nat.le_refl _) _) B1.out) (Nat.le_refl _) ?_ (fun _ => HN.out) HZ.out
  · exact fun ad e => by have := F1.out ad e; simp at this; omega
  · exact fun ad e => by have := F1.out ad e; simp at this; omega
theorem near_any (k P A : Nat) (K : Kk k P A) (n : Int) (h0 : 0 ≤ n) (w : World) :
    Calls Tryd.prog 73 #[.int .i64 n, .int .i64 (k : Int)] w (RetZ w (L6.neL P A n)) := by
  obtain ⟨M, hm, hM, t1, t2, t3⟩ := tmodM n
  obtain ⟨Q, hQ⟩ : ∃ Q : Nat, M / 5400000 = Q := ⟨_, rfl⟩
  obtain ⟨R, hR⟩ : ∃ R : Nat, M % 5400000 = R := ⟨_, rfl⟩
  have iQ : (M : Int) / 5400000 = (Q : Int) := by omega
  have iR : (M : Int) % 5400000 = (R : Int) := by omega
  have q3 : Q ≤ 3 := by omega
  have r2 : R < 5400000 := by omega
  have eq : L6.qd n = (Q : Int) := by unfold L6.qd; rw [hm]; exact iQ
  have er : L6.rd n = (R : Int) := by unfold L6.rd; rw [hm]; exact iR
  have ef : L6.far n = decide (2700000 < (R : Int)) := by unfold L6.far; rw [er]
  obtain ⟨c, hc⟩ : ∃ c, ((Q : Int) % 2 == 1) = c := ⟨_, rfl⟩
  have ec : L6.co n = xor c (decide (2700000 < (R : Int))) := by
    unfold L6.co
    rw [eq, ef, ← hc]
    congr 1
  have ei := L6.rr_int n
  rw [er, ef] at ei
  have C := fun wx => small_any k P A (L6.rr n) (L6.co n) K (L6.rr_in n) wx
  have ev : (if L6.co n = true then L6.cosL P (L6.xL A (L6.rr n)) else L6.sinL P (L6.xL A (L6.rr n))) = L6.nvL P A n := rfl
  rw [ev] at C
  have np := nv_pos k P A K n
  have ek : L6.neL P A n = if 2 ≤ (Q : Int) then -L6.nvL P A n else L6.nvL P A n := by unfold L6.neL; rw [eq]
  rw [ek]
  generalize L6.nvL P A n = v at *
  obtain ⟨N, hN⟩ : ∃ N, v.toNat = N := ⟨_, rfl⟩
  have hv : v = (N : Int) := by omega
  rw [hN] at C
  rw [hv]
  generalize L6.rr n = r at *
  have n0 : ¬ n.tmod 21600000 < 0 := by have := Int.tmod_nonneg 21600000 h0; omega
  have e0 := t2 n0
  have hk := K.hk
  by_cases hf : (R : Int) > 2700000
  · rw [ec, decide_eq_true (show 2700000 < (R : Int) from hf), Bool.xor_true] at C
    rw [decide_eq_true (show 2700000 < (R : Int) from hf), if_pos rfl] at ei
    by_cases hb : (Q : Int) ≥ 2
    · rw [if_pos (show 2 ≤ (Q : Int) from hb)]
      by_cases z : N = 0
      · exact near_110 k n M Q R r N c w e0 hM iQ iR hc hk hf hb z ei.symm C _ (by unfold sv; rw [if_neg (by simp)]; omega) q3 r2
      · exact near_111 k n M Q R r N c w e0 hM iQ iR hc hk hf hb z ei.symm C _ (by unfold sv; rw [if_pos rfl]) q3 r2
    · rw [if_neg (show ¬ 2 ≤ (Q : Int) from hb)]
      exact near_100 k n M Q R r N c w e0 hM iQ iR hc hk hf hb ei.symm C _ (by unfold sv; rw [if_neg (by simp)]) q3 r2
  · rw [ec, decide_eq_false (show ¬ 2700000 < (R : Int) from hf), Bool.xor_false] at C
    rw [decide_eq_false (show ¬ 2700000 < (R : Int) from hf), if_neg (by simp)] at ei
    by_cases hb : (Q : Int) ≥ 2
    · rw [if_pos (show 2 ≤ (Q : Int) from hb)]
      by_cases z : N = 0
      · exact near_010 k n M Q R r N c w e0 hM iQ iR hc hk hf hb z ei.symm C _ (by unfold sv; rw [if_neg (by simp)]; omega) q3 r2
      · exact near_011 k n M Q R r N c w e0 hM iQ iR hc hk hf hb z ei.symm C _ (by unfold sv; rw [if_pos rfl]) q3 r2
    · rw [if_neg (show ¬ 2 ≤ (Q : Int) from hb)]
      exact near_000 k n M Q R r N c w e0 hM iQ iR hc hk hf hb ei.symm C _ (by unfold sv; rw [if_neg (by simp)]) q3 r2
end Go.Proofs.YtndcjldnnfhedaaDoor.wd2
