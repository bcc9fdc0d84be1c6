/- Trig: the program's irrational sine. -/
import Derived.Test.YtglmkpnnbgkndaaDoorTsC
namespace Go.Proofs.YtglmkpnnbgkndaaDoor
open Go.RowKit
set_option linter.unusedVariables false
set_option maxRecDepth 100000

theorem X_lt (r : Nat) (h : r ≤ 2700000) : L6.rad * r < 340282366920938463463374607431768211456 := by have := L6.X_le r h; omega
theorem pm_lt {a b : Nat} (ha : a < 340282366920938463463374607431768211456) (hb : b < 340282366920938463463374607431768211456) : L6.pm a b < 340282366920938463463374607431768211456 := Nat.lt_of_le_of_lt (L6.pm_le a b (by omega)) hb
theorem pm_ge (a b : Nat) : a / 18446744073709551616 * (b / 18446744073709551616) ≤ L6.pm a b := by unfold L6.pm; omega
theorem cos_pos (r : Nat) (h1 : 1 ≤ r) (h2 : r ≤ 2700000) : 0 < L6.pm (L6.pm (L6.rad * r) (L6.rad * r)) (L6.ser 0 (L6.pm (L6.rad * r) (L6.rad * r)) 9) := by
  have hX := L6.X_le r h2
  have a : L6.rad ≤ L6.rad * r := Nat.le_mul_of_pos_right _ h1
  obtain ⟨X, hx⟩ : ∃ X, X = L6.rad * r := ⟨_, rfl⟩
  rw [← hx] at a hX ⊢
  have a1 : L6.rad / 18446744073709551616 ≤ X / 18446744073709551616 := Nat.div_le_div_right a
  have a2 : L6.rad / 18446744073709551616 = 5365940339316 := by decide
  rw [a2] at a1
  have g := pm_ge X X
  have m := Nat.mul_le_mul a1 a1
  have S1 : 18446744073709551616 ≤ L6.pm X X := Nat.le_trans (Nat.le_trans (by decide) m) g
  have hS := L6.S_le X hX
  obtain ⟨S, hs⟩ : ∃ S, S = L6.pm X X := ⟨_, rfl⟩
  rw [← hs] at S1 hS ⊢
  have q : 18446744073709551616 ≤ L6.ser 0 S 9 := by
    have f := L6.pm_le S (L6.ser 0 S 8) (by omega)
    have l := L6.ser_le 0 S 8
    have e : L6.ser 0 S 9 = L6.cf 0 - L6.pm S (L6.ser 0 S 8) := rfl
    have c : L6.cf (0 + 18 - 2 * 8) + 18446744073709551616 ≤ L6.cf 0 := by decide +kernel
    rw [e]; omega
  have k := pm_ge S (L6.ser 0 S 9)
  have s1 : 1 ≤ S / 18446744073709551616 := by omega
  have q1 : 1 ≤ L6.ser 0 S 9 / 18446744073709551616 := by omega
  have := Nat.mul_le_mul s1 q1
  omega
theorem minus_zero (b : Nat) (h0 : 0 < b) (h : b < 340282366920938463463374607431768211456) (w : World) :
    Calls Tryd.prog 71 #[.agg #[.int .u64 0, .int .u64 0], .agg #[.int .u64 (hb b), .int .u64 (lb b)]] w fun e w' => e = .returned (.agg #[.int .u64 (hb (340282366920938463463374607431768211456 - b)), .int .u64 (lb (340282366920938463463374607431768211456 - b))]) ∧ Below w.heap.size w w' := by
  have M := minus_any 0 b (by omega) h w
  rw [show (0 + 340282366920938463463374607431768211456 - b) % 340282366920938463463374607431768211456 = 340282366920938463463374607431768211456 - b by omega] at M
  exact M

set_option maxHeartbeats 2000000 in
theorem irr_sin (n r : Nat) (hn : n = r) (h2 : r ≤ 2700000) (w : World) (H : Held w) :
    Calls Tryd.prog 64 #[.int .i64 n, .int .i64 18] w fun e w' => e = .returned (.agg #[.int .u64 (hb (L6.sinP (L6.rad * r))), .int .u64 (lb (L6.sinP (L6.rad * r)))]) ∧ Below w.heap.size w w' := by
  subst hn
  have XL := X_lt n h2
  have K0 := Lib.hid (fun (wx : World) (hb : Below w.heap.size w wx) => radians_any n h2 wx (H.keep hb))
  have K1 := Lib.hid (fun (wx : World) => times_any (L6.rad * n) (L6.rad * n) XL XL wx)
  have SL := pm_lt XL XL
  have K2 := Lib.hid (fun (wx : World) (hb : Below w.heap.size w wx) => series_1_18 (L6.pm (L6.rad * n) (L6.rad * n)) SL wx (H.keep hb))
  have PL := ser_lt 1 (L6.pm (L6.rad * n) (L6.rad * n)) 9
  have K3 := Lib.hid (fun (wx : World) => times_any (L6.pm (L6.rad * n) (L6.rad * n)) (L6.ser 1 (L6.pm (L6.rad * n) (L6.rad * n)) 9) SL PL wx)
  have TL := pm_lt SL PL
  have K4 := Lib.hid (fun (wx : World) => times_any (L6.rad * n) (L6.pm (L6.pm (L6.rad * n) (L6.rad * n)) (L6.ser 1 (L6.pm (L6.rad * n) (L6.rad * n)) 9)) XL TL wx)
  have K5 := Lib.hid (fun (wx : World) => minus_le (L6.rad * n) (L6.pm (L6.rad * n) (L6.pm (L6.pm (L6.rad * n) (L6.rad * n)) (L6.ser 1 (L6.pm (L6.rad * n) (L6.rad * n)) 9))) XL (L6.sinP_fit _ (by omega)) wx)
  change Hid (∀ wx, Calls _ _ _ wx fun e w' => e = .returned (.agg #[.int .u64 (hb (L6.sinP (L6.rad * n))), .int .u64 (lb (L6.sinP (L6.rad * n)))]) ∧ _) at K5
  generalize hb (L6.sinP (L6.rad * n)) = r0 at *
  generalize lb (L6.sinP (L6.rad * n)) = r1 at *
  generalize hb (L6.pm (L6.rad * n) (L6.pm (L6.pm (L6.rad * n) (L6.rad * n)) (L6.ser 1 (L6.pm (L6.rad * n) (L6.rad * n)) 9))) = u0 at *
  generalize lb (L6.pm (L6.rad * n) (L6.pm (L6.pm (L6.rad * n) (L6.rad * n)) (L6.ser 1 (L6.pm (L6.rad * n) (L6.rad * n)) 9))) = u1 at *
  generalize hb (L6.pm (L6.pm (L6.rad * n) (L6.rad * n)) (L6.ser 1 (L6.pm (L6.rad * n) (L6.rad * n)) 9)) = t0 at *
  generalize lb (L6.pm (L6.pm (L6.rad * n) (L6.rad * n)) (L6.ser 1 (L6.pm (L6.rad * n) (L6.rad * n)) 9)) = t1 at *
  generalize hb (L6.ser 1 (L6.pm (L6.rad * n) (L6.rad * n)) 9) = p0 at *
  generalize lb (L6.ser 1 (L6.pm (L6.rad * n) (L6.rad * n)) 9) = p1 at *
  generalize hb (L6.pm (L6.rad * n) (L6.rad * n)) = s0 at *
  generalize lb (L6.pm (L6.rad * n) (L6.rad * n)) = s1 at *
  generalize hb (L6.rad * n) = x0 at *
  generalize lb (L6.rad * n) = x1 at *
  clear XL SL PL TL H
  have n1 : (n : Int) ≤ 2700000 := by omega
  have n0 : (0 : Int) ≤ (n : Int) := by omega
  have R := At2.new w (.int .u64 0) (.int .u64 0) 74
  have HB := Lib.hid (below1 w (.cells #[.int .u64 0, .int .u64 0] 74))
  go_enter Tryd.func64, Tryd.ntmps64
  go_wp2_with fail
  refine (K0.out _ HB.out).mono ?_
  rintro e w1 ⟨rfl, hb⟩
  have R := R.keep hb
  have HB := Lib.hid (bstep HB.out hb)
  clear hb
  have gX := R.lt
  have R := R.alloc (.cells #[.int .u64 x0, .int .u64 x1] 74)
  have X := At2.new w1 (.int .u64 x0) (.int .u64 x1) 74
  have HB := Lib.hid (bstep HB.out (below1 w1 (.cells #[.int .u64 x0, .int .u64 x1] 74)))
  obtain ⟨X0, X1, -, -, -⟩ := id X
  go_wp2_with fail
  refine (K1.out _).mono ?_
  rintro e w2 ⟨rfl, hb⟩
  have R := R.keep hb
  have X := X.keep hb
  have HB := Lib.hid (bstep HB.out hb)
  clear hb X0 X1
  have gS := R.lt
  have R := R.alloc (.cells #[.int .u64 s0, .int .u64 s1] 74)
  have X := X.alloc (.cells #[.int .u64 s0, .int .u64 s1] 74)
  have S := At2.new w2 (.int .u64 s0) (.int .u64 s1) 74
  have HB := Lib.hid (bstep HB.out (below1 w2 (.cells #[.int .u64 s0, .int .u64 s1] 74)))
  have X' := X
  have S' := S
  obtain ⟨X0, X1, -, -, -⟩ := id X
  obtain ⟨S0, S1, -, -, -⟩ := id S
  obtain ⟨R0, R1, R2, R3, -⟩ := id R
  have zX : ¬ w.heap.size = w1.heap.size := by omega
  have yX : ¬ w1.heap.size = w.heap.size := by omega
  have zS : ¬ w.heap.size = w2.heap.size := by omega
  have yS : ¬ w2.heap.size = w.heap.size := by omega
  clear X' S' gX gS
  go_upto_region 7 with fail
  generalize w1.heap.size = bx at *
  generalize w2.heap.size = bs at *
  go_region_held3 (fun w' => w'.cell? ⟨bx, 0, none⟩ = some (.int .u64 x0) ∧ w'.cell? ⟨bx, 1, none⟩ = some (.int .u64 x1) ∧ w'.cell? ⟨bs, 0, none⟩ = some (.int .u64 s0) ∧ w'.cell? ⟨bs, 1, none⟩ = some (.int .u64 s1)) (go_keep)
    (first
    | (go_at_call 72; ((with_reducible refine (K2.out _ (by first | exact HB.out | exact HB.out.drew)).mono ?_)); rintro e v ⟨rfl, hb⟩; (try (replace hb := bdrew hb)); clear R0 R1 R2 R3 X0 X1 S0 S1; have R := R.keep hb; have X := X.keep hb; have S := S.keep hb; have HB := Lib.hid (bstep HB.out hb); obtain ⟨R0, R1, R2, R3, -⟩ := id R; obtain ⟨X0, X1, -, -, -⟩ := id X; obtain ⟨S0, S1, -, -, -⟩ := id S; clear hb)
    | (go_at_call 70; ((with_reducible refine (K3.out _).mono ?_)); rintro e v ⟨rfl, hb⟩; (try (replace hb := bdrew hb)); clear R0 R1 R2 R3 X0 X1 S0 S1; have R := R.keep hb; have X := X.keep hb; have S := S.keep hb; have HB := Lib.hid (bstep HB.out hb); obtain ⟨R0, R1, R2, R3, -⟩ := id R; obtain ⟨X0, X1, -, -, -⟩ := id X; obtain ⟨S0, S1, -, -, -⟩ := id S; clear hb)
    | (go_at_call 70; ((with_reducible refine (K4.out _).mono ?_)); rintro e v ⟨rfl, hb⟩; (try (replace hb := bdrew hb)); clear R0 R1 R2 R3 X0 X1 S0 S1; have R := R.keep hb; have X := X.keep hb; have S := S.keep hb; have HB := Lib.hid (bstep HB.out hb); obtain ⟨R0, R1, R2, R3, -⟩ := id R; obtain ⟨X0, X1, -, -, -⟩ := id X; obtain ⟨S0, S1, -, -, -⟩ := id S; clear hb)
    | (go_at_call 71; ((with_reducible refine (K5.out _).mono ?_)); rintro e v ⟨rfl, hb⟩; (try (replace hb := bdrew hb)); clear R0 R1 R2 R3 X0 X1 S0 S1; have R := R.keep hb; have X := X.keep hb; have S := S.keep hb; have HB := Lib.hid (bstep HB.out hb); obtain ⟨R0, R1, R2, R3, -⟩ := id R; obtain ⟨X0, X1, -, -, -⟩ := id X; obtain ⟨S0, S1, -, -, -⟩ := id S; clear hb))
  obtain ⟨z0, z1⟩ := set2 R0 R1 (.int .u64 r0) (.int .u64 r1)
  go_wp2_with fail
  refine bodyPost_ret (v := .agg #[.int .u64 r0, .int .u64 r1]) (by simp [results, Tryd.results64, go_sem, z0, z1]) rfl ⟨rfl, ?_⟩
  exact below_set2 HB.out (Nat.le_refl _) _ _

set_option maxHeartbeats 2000000 in
theorem irr_cos (n : Int) (r : Nat) (hn : 5400000 - n = (r : Int)) (h1 : 1 ≤ r) (h2 : r < 2700000) (w : World) (H : Held w) :
    Calls Tryd.prog 64 #[.int .i64 n, .int .i64 18] w fun e w' => e = .returned (.agg #[.int .u64 (hb (L6.cosP (L6.rad * r))), .int .u64 (lb (L6.cosP (L6.rad * r)))]) ∧ Below w.heap.size w w' := by
  have XL := X_lt r (by omega)
  have K0 := Lib.hid (fun (wx : World) (hb : Below w.heap.size w wx) => radians_any r (by omega) wx (H.keep hb))
  have K1 := Lib.hid (fun (wx : World) => times_any (L6.rad * r) (L6.rad * r) XL XL wx)
  have SL := pm_lt XL XL
  have K2 := Lib.hid (fun (wx : World) (hb : Below w.heap.size w wx) => series_0_18 (L6.pm (L6.rad * r) (L6.rad * r)) SL wx (H.keep hb))
  have PL := ser_lt 0 (L6.pm (L6.rad * r) (L6.rad * r)) 9
  have K3 := Lib.hid (fun (wx : World) => times_any (L6.pm (L6.rad * r) (L6.rad * r)) (L6.ser 0 (L6.pm (L6.rad * r) (L6.rad * r)) 9) SL PL wx)
  have TL := pm_lt SL PL
  have TP := cos_pos r h1 (by omega)
  have K5 := Lib.hid (fun (wx : World) => minus_zero (L6.pm (L6.pm (L6.rad * r) (L6.rad * r)) (L6.ser 0 (L6.pm (L6.rad * r) (L6.rad * r)) 9)) TP TL wx)
  change Hid (∀ wx, Calls _ _ _ wx fun e w' => e = .returned (.agg #[.int .u64 (hb (L6.cosP (L6.rad * r))), .int .u64 (lb (L6.cosP (L6.rad * r)))]) ∧ _) at K5
  generalize hb (L6.cosP (L6.rad * r)) = r0 at *
  generalize lb (L6.cosP (L6.rad * r)) = r1 at *
  generalize hb (L6.pm (L6.pm (L6.rad * r) (L6.rad * r)) (L6.ser 0 (L6.pm (L6.rad * r) (L6.rad * r)) 9)) = t0 at *
  generalize lb (L6.pm (L6.pm (L6.rad * r) (L6.rad * r)) (L6.ser 0 (L6.pm (L6.rad * r) (L6.rad * r)) 9)) = t1 at *
  generalize hb (L6.ser 0 (L6.pm (L6.rad * r) (L6.rad * r)) 9) = p0 at *
  generalize lb (L6.ser 0 (L6.pm (L6.rad * r) (L6.rad * r)) 9) = p1 at *
  generalize hb (L6.pm (L6.rad * r) (L6.rad * r)) = s0 at *
  generalize lb (L6.pm (L6.rad * r) (L6.rad * r)) = s1 at *
  generalize hb (L6.rad * r) = x0 at *
  generalize lb (L6.rad * r) = x1 at *
  clear XL SL PL TL TP H
  have n1 : (2700000 : Int) < n := by omega
  have n0 : n ≤ 5400000 := by omega
  have R := At2.new w (.int .u64 0) (.int .u64 0) 74
  have HB := Lib.hid (below1 w (.cells #[.int .u64 0, .int .u64 0] 74))
  go_enter Tryd.func64, Tryd.ntmps64
  go_wp2_with fail
  refine (K0.out _ HB.out).mono ?_
  rintro e w1 ⟨rfl, hb⟩
  have R := R.keep hb
  have HB := Lib.hid (bstep HB.out hb)
  clear hb
  have gX := R.lt
  have R := R.alloc (.cells #[.int .u64 x0, .int .u64 x1] 74)
  have X := At2.new w1 (.int .u64 x0) (.int .u64 x1) 74
  have HB := Lib.hid (bstep HB.out (below1 w1 (.cells #[.int .u64 x0, .int .u64 x1] 74)))
  obtain ⟨X0, X1, -, -, -⟩ := id X
  go_wp2_with fail
  refine (K1.out _).mono ?_
  rintro e w2 ⟨rfl, hb⟩
  have R := R.keep hb
  have X := X.keep hb
  have HB := Lib.hid (bstep HB.out hb)
  clear hb X0 X1
  have gS := R.lt
  have R := R.alloc (.cells #[.int .u64 s0, .int .u64 s1] 74)
  have X := X.alloc (.cells #[.int .u64 s0, .int .u64 s1] 74)
  have S := At2.new w2 (.int .u64 s0) (.int .u64 s1) 74
  have HB := Lib.hid (bstep HB.out (below1 w2 (.cells #[.int .u64 s0, .int .u64 s1] 74)))
  obtain ⟨X0, X1, -, -, -⟩ := id X
  obtain ⟨S0, S1, -, -, -⟩ := id S
  obtain ⟨R0, R1, R2, R3, -⟩ := id R
  have zS : ¬ w.heap.size = w2.heap.size := by omega
  have yS : ¬ w2.heap.size = w.heap.size := by omega
  clear gX gS
  go_upto_region 4 with fail
  generalize w1.heap.size = bx at *
  generalize w2.heap.size = bs at *
  go_region_held3 (fun w' => w'.cell? ⟨bs, 0, none⟩ = some (.int .u64 s0) ∧ w'.cell? ⟨bs, 1, none⟩ = some (.int .u64 s1)) (go_keep)
    (first
    | (go_at_call 72; ((with_reducible refine (K2.out _ (by first | exact HB.out | exact HB.out.drew)).mono ?_)); rintro e v ⟨rfl, hb⟩; (try (replace hb := bdrew hb)); clear R0 R1 R2 R3 X0 X1 S0 S1; have R := R.keep hb; have X := X.keep hb; have S := S.keep hb; have HB := Lib.hid (bstep HB.out hb); obtain ⟨R0, R1, R2, R3, -⟩ := id R; obtain ⟨X0, X1, -, -, -⟩ := id X; obtain ⟨S0, S1, -, -, -⟩ := id S; clear hb)
    | (go_at_call 70; ((with_reducible refine (K3.out _).mono ?_)); rintro e v ⟨rfl, hb⟩; (try (replace hb := bdrew hb)); clear R0 R1 R2 R3 X0 X1 S0 S1; have R := R.keep hb; have X := X.keep hb; have S := S.keep hb; have HB := Lib.hid (bstep HB.out hb); obtain ⟨R0, R1, R2, R3, -⟩ := id R; obtain ⟨X0, X1, -, -, -⟩ := id X; obtain ⟨S0, S1, -, -, -⟩ := id S; clear hb)
    | (go_at_call 71; ((with_reducible refine (K5.out _).mono ?_)); rintro e v ⟨rfl, hb⟩; (try (replace hb := bdrew hb)); clear R0 R1 R2 R3 X0 X1 S0 S1; have R := R.keep hb; have X := X.keep hb; have S := S.keep hb; have HB := Lib.hid (bstep HB.out hb); obtain ⟨R0, R1, R2, R3, -⟩ := id R; obtain ⟨X0, X1, -, -, -⟩ := id X; obtain ⟨S0, S1, -, -, -⟩ := id S; clear hb))
  obtain ⟨z0, z1⟩ := set2 R0 R1 (.int .u64 r0) (.int .u64 r1)
  go_wp2_with fail
  refine bodyPost_ret (v := .agg #[.int .u64 r0, .int .u64 r1]) (by simp [results, Tryd.results64, go_sem, z0, z1]) rfl ⟨rfl, ?_⟩
  exact below_set2 HB.out (Nat.le_refl _) _ _

theorem irr_any (m : Int) (h0 : 0 < m) (h1 : m < 5400000) (w : World) (H : Held w) :
    Calls Tryd.prog 64 #[.int .i64 m, .int .i64 18] w fun e w' => e = .returned (.agg #[.int .u64 (hb (L6.irr m.toNat)), .int .u64 (lb (L6.irr m.toNat))]) ∧ Below w.heap.size w w' := by
  unfold L6.irr
  by_cases c : 2700000 < m.toNat
  · rw [if_pos c]
    exact irr_cos m (5400000 - m.toNat) (by omega) (by omega) (by omega) w H
  · rw [if_neg c]
    have k := irr_sin m.toNat m.toNat rfl (by omega) w H
    rwa [show ((m.toNat : Nat) : Int) = m by omega] at k
theorem irr_lt (m : Nat) (h : m ≤ 5400000) : L6.irr m < 340282366920938463463374607431768211456 ∨ 5400000 ≤ m := by
  unfold L6.irr
  by_cases c : 2700000 < m
  · rw [if_pos c]
    by_cases k : 5400000 ≤ m
    · exact .inr k
    · have := cos_pos (5400000 - m) (by omega) (by omega)
      refine .inl ?_
      unfold L6.cosP
      omega
  · rw [if_neg c]
    refine .inl ?_
    have := X_lt m (by omega)
    unfold L6.sinP
    omega
end Go.Proofs.YtglmkpnnbgkndaaDoor
