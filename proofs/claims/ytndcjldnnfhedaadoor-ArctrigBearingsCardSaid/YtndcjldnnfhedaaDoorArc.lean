/- The program of layer 7: acute angles. -/
import Derived.Test.YtndcjldnnfhedaaDoorTsa
import Derived.Test.YtndcjldnnfhedaaDoorPlf
import Derived.BigQuiet
import Derived.Test.YtndcjldnnfhedaaDoorArb
import Derived.Test.YtndcjldnnfhedaaDoorWda
import Derived.Test.YtndcjldnnfhedaaDoorTsb
/- Arctrig: the program's comparison of an integer angle with that of a point. -/
namespace Go.Proofs.YtndcjldnnfhedaaDoor
open Go.RowKit
set_option linter.unusedVariables false
set_option maxRecDepth 100000

/-- a block of three cells -/
structure At3 (w : World) (b : Nat) (x y z : Value) : Prop where
  c0 : w.cell? ⟨b, 0, none⟩ = some x
  c1 : w.cell? ⟨b, 1, none⟩ = some y
  c2 : w.cell? ⟨b, 2, none⟩ = some z
  f0 : w.frozen? ⟨b, 0, none⟩ = false
  f1 : w.frozen? ⟨b, 1, none⟩ = false
  f2 : w.frozen? ⟨b, 2, none⟩ = false
theorem At3.lt {w : World} {b : Nat} {x y z : Value} (h : At3 w b x y z) : b < w.heap.size := World.block_lt_of_cell? _ _ h.c0
theorem At3.keep {w w1 : World} {b : Nat} {x y z : Value} (h : At3 w b x y z) (hb : Below w.heap.size w w1) : At3 w1 b x y z :=
  ⟨(hb.cell (p := ⟨b, 0, none⟩) h.lt).trans h.c0, (hb.cell (p := ⟨b, 1, none⟩) h.lt).trans h.c1, (hb.cell (p := ⟨b, 2, none⟩) h.lt).trans h.c2,
   (hb.frozen (p := ⟨b, 0, none⟩) h.lt).trans h.f0, (hb.frozen (p := ⟨b, 1, none⟩) h.lt).trans h.f1, (hb.frozen (p := ⟨b, 2, none⟩) h.lt).trans h.f2⟩
theorem At3.new (w : World) (x y z : Value) (T : Nat) : At3 (w.alloc (.cells #[x, y, z] T)) w.heap.size x y z := by
  refine ⟨by simp, by simp, by simp, ?_, ?_, ?_⟩ <;> go_simp
theorem At3.alloc {w : World} {b : Nat} {x y z : Value} (h : At3 w b x y z) (o : Obj) : At3 (w.alloc o) b x y z := h.keep ((Below.refl _ _).alloc (Nat.le_refl _) o)
/-- the limbs of a product of a number of two limbs and a number -/
def q0 (p : Nat) : Int := ((p / 340282366920938463463374607431768211456 : Nat) : Int)
def q1 (p : Nat) : Int := ((p / 18446744073709551616 % 18446744073709551616 : Nat) : Int)
def q2 (p : Nat) : Int := ((p % 18446744073709551616 : Nat) : Int)
theorem set3 {w1 : World} {b : Nat} {u v t : Value} (c0 : w1.cell? ⟨b, 0, none⟩ = some u) (c1 : w1.cell? ⟨b, 1, none⟩ = some v) (c2 : w1.cell? ⟨b, 2, none⟩ = some t) (x y z : Value) :
    (w1.setCell ⟨b, 0, none⟩ x).cell? ⟨b, 0, none⟩ = some x ∧ ((w1.setCell ⟨b, 0, none⟩ x).setCell ⟨b, 1, none⟩ y).cell? ⟨b, 1, none⟩ = some y ∧ (((w1.setCell ⟨b, 0, none⟩ x).setCell ⟨b, 1, none⟩ y).setCell ⟨b, 2, none⟩ z).cell? ⟨b, 2, none⟩ = some z := by
  obtain ⟨s0, s1⟩ := set2 c0 c1 x y
  have h2 : ((w1.setCell ⟨b, 0, none⟩ x).setCell ⟨b, 1, none⟩ y).cell? ⟨b, 2, none⟩ = some t := (World.cell?_setCell_other _ _ _ y (by simp)).trans ((World.cell?_setCell_other w1 _ _ x (by simp)).trans c2)
  exact ⟨s0, s1, World.cell?_setCell_same _ _ z h2⟩
set_option maxHeartbeats 1000000 in
theorem mulN_any (a n : Nat) (ha : a < 340282366920938463463374607431768211456) (hn : n ≤ 2147483648) (w : World) :
    Calls Tryd.prog 66 #[.agg #[.int .u64 (hb a), .int .u64 (lb a)], .int .i64 n] w fun e w' => e = .returned (.agg #[.int .u64 (q0 (a * n)), .int .u64 (q1 (a * n)), .int .u64 (q2 (a * n))]) ∧ Below w.heap.size w w' := by
  have A := At2.new w (.int .u64 (hb a)) (.int .u64 (lb a)) 100
  unfold hb lb q0 q1 q2 at *
  obtain ⟨p, hp⟩ : ∃ p, p = a * n := ⟨_, rfl⟩
  rw [← hp]
  obtain ⟨a1, ha1⟩ : ∃ x, x = a / 18446744073709551616 := ⟨_, rfl⟩
  obtain ⟨a0, ha0⟩ : ∃ x, x = a % 18446744073709551616 := ⟨_, rfl⟩
  rw [← ha1, ← ha0] at A ⊢
  have l1 : a1 < 18446744073709551616 := by omega
  have l0 : a0 < 18446744073709551616 := by omega
  have ea : a = a1 * 18446744073709551616 + a0 := by omega
  have ep : p = a1 * n * 18446744073709551616 + a0 * n := by
    rw [hp, ea, Nat.add_mul, Nat.mul_right_comm]
  have C1 := Lib.hid (fun (wx : World) => Tryd.bits_Mul64 a0 n l0 (by omega) wx)
  have C2 := Lib.hid (fun (wx : World) => Tryd.bits_Mul64 a1 n l1 (by omega) wx)
  have b1 : a1 * n ≤ 18446744073709551615 * 2147483648 := Nat.mul_le_mul (by omega) hn
  have b0 : a0 * n ≤ 18446744073709551615 * 2147483648 := Nat.mul_le_mul (by omega) hn
  clear hp ea ha1 ha0
  obtain ⟨P, hP⟩ : ∃ P, P = a1 * n := ⟨_, rfl⟩
  obtain ⟨Q, hQ⟩ : ∃ Q, Q = a0 * n := ⟨_, rfl⟩
  rw [← hQ] at C1
  rw [← hP] at C2
  rw [← hP, ← hQ] at ep
  rw [← hP] at b1
  rw [← hQ] at b0
  obtain ⟨u, hu⟩ : ∃ x, x = Q / 18446744073709551616 := ⟨_, rfl⟩
  obtain ⟨v, hv⟩ : ∃ x, x = Q % 18446744073709551616 := ⟨_, rfl⟩
  rw [← hu, ← hv] at C1
  obtain ⟨h, hh⟩ : ∃ x, x = P / 18446744073709551616 := ⟨_, rfl⟩
  obtain ⟨m, hm⟩ : ∃ x, x = P % 18446744073709551616 := ⟨_, rfl⟩
  rw [← hh, ← hm] at C2
  have S1 := fun wx => add_run m u wx
  obtain ⟨m', hm'⟩ : ∃ x, x = (m + u) % 18446744073709551616 := ⟨_, rfl⟩
  obtain ⟨k, hk⟩ : ∃ x, x = (m + u) / 18446744073709551616 := ⟨_, rfl⟩
  rw [← hm', ← hk] at S1
  have e0 : p / 340282366920938463463374607431768211456 = h + k := by omega
  have e1 : p / 18446744073709551616 % 18446744073709551616 = m' := by omega
  have e2 : p % 18446744073709551616 = v := by omega
  rw [e0, e1, e2]
  have hk1 : h + k < 18446744073709551616 := by omega
  have w1 : IntKind.u64.wrap ((h : Int) + (k : Int)) = ((h + k : Nat) : Int) := by rw [IntKind.wrap_u64]; omega
  have w0 : IntKind.u64.wrap (n : Int) = (n : Int) := by rw [IntKind.wrap_u64]; omega
  clear e0 e1 e2 hk hm' hm hh hu hv hP hQ ep b1 b0 hk1 l1 l0 ha
  obtain ⟨t, ht⟩ : ∃ t, t = h + k := ⟨_, rfl⟩
  rw [← ht] at w1 ⊢
  clear ht
  have A' := A.alloc (.cells #[.int .u64 0, .int .u64 0, .int .u64 0] 98)
  have R := At3.new (w.alloc (.cells #[.int .u64 a1, .int .u64 a0] 100)) (.int .u64 0) (.int .u64 0) (.int .u64 0) 98
  have n1 : (n : Int) ≤ 2147483648 := by omega
  have n0 : (0 : Int) ≤ (n : Int) := by omega
  obtain ⟨A0, A1, -, -, -⟩ := id A'
  go_enter Tryd.func66, Tryd.ntmps66
  go_wp2_with fail
  refine (C1.out _).mono ?_
  rintro e w1 ⟨rfl, rfl⟩
  go_wp2_with fail
  refine (C2.out _).mono ?_
  rintro e w2 ⟨rfl, rfl⟩
  go_wp2_with fail
  refine bodyPost_ret (v := .agg #[.int .u64 t, .int .u64 m', .int .u64 v]) (by simp [results, Tryd.results66, go_sem]) rfl ⟨rfl, ?_⟩
  exact below2 _ _ _
theorem cmpU_any (x y : Nat) (w : World) (hx : x < 18446744073709551616) (hy : y < 18446744073709551616) :
    Calls Tryd.prog 97 #[.int .u64 (x : Int), .int .u64 (y : Int)] w fun e w' => e = .returned (.int .i64 (if x < y then -1 else if y < x then 1 else 0)) ∧ w' = w := by
  have N := Lib.hid (fun (z : Int) (wx : World) => show Calls Tryd.prog 109 #[.int .u64 z] wx fun e w' => e = .returned (.bool false) ∧ w' = wx from by
    go_enter Tryd.func109, Tryd.ntmps109
    go_wp2_with fail
    go_ret
    exact ⟨rfl, rfl⟩)
  have x0 : (0 : Int) ≤ (x : Int) := by omega
  have y0 : (0 : Int) ≤ (y : Int) := by omega
  clear hx hy
  rcases (show x < y ∨ x = y ∨ y < x by omega) with c | c | c
  · rw [if_pos c]
    have c' : (x : Int) < (y : Int) := by omega
    clear c
    go_enter Tryd.func97, Tryd.ntmps97
    go_wp2_with fail
    refine (N.out _ _).mono ?_
    rintro e w1 ⟨rfl, rfl⟩
    go_wp2_with fail
    refine (N.out _ _).mono ?_
    rintro e w2 ⟨rfl, rfl⟩
    go_wp2_with fail
    go_ret
    exact ⟨rfl, rfl⟩
  · subst c
    rw [if_neg (by omega), if_neg (by omega)]
    go_enter Tryd.func97, Tryd.ntmps97
    go_wp2_with fail
    refine (N.out _ _).mono ?_
    rintro e w1 ⟨rfl, rfl⟩
    go_wp2_with fail
    refine (N.out _ _).mono ?_
    rintro e w2 ⟨rfl, rfl⟩
    go_wp2_with fail
    go_ret
    exact ⟨rfl, rfl⟩
  · rw [if_neg (by omega), if_pos c]
    have c' : (y : Int) < (x : Int) := by omega
    have c2 : ¬ (x : Int) < (y : Int) := by omega
    clear c
    go_enter Tryd.func97, Tryd.ntmps97
    go_wp2_with fail
    refine (N.out _ _).mono ?_
    rintro e w1 ⟨rfl, rfl⟩
    go_wp2_with fail
    refine (N.out _ _).mono ?_
    rintro e w2 ⟨rfl, rfl⟩
    go_wp2_with fail
    go_ret
    exact ⟨rfl, rfl⟩
end Go.Proofs.YtndcjldnnfhedaaDoor

/- Arctrig: the comparison of two products, limb by limb. -/
namespace Go.Proofs.YtndcjldnnfhedaaDoor
open Go.RowKit
set_option linter.unusedVariables false
set_option maxRecDepth 100000

def c64 (x y : Nat) : Int := if x < y then -1 else if y < x then 1 else 0
theorem c64_zero {x y : Nat} (h : c64 x y = 0) : x = y := by unfold c64 at h; split at h <;> (try split at h) <;> omega
theorem c64_in (x y : Nat) : -1 ≤ c64 x y ∧ c64 x y ≤ 1 := by unfold c64; split <;> (try split) <;> omega
/-- the order of two rows of three limbs -/
def c3 (x y : Nat → Nat) : Int := if c64 (x 0) (y 0) = 0 then (if c64 (x 1) (y 1) = 0 then c64 (x 2) (y 2) else c64 (x 1) (y 1)) else c64 (x 0) (y 0)
theorem slc_any (x y : Nat → Nat) (g h : Nat) (w : World) (hx : ∀ i, x i < 18446744073709551616) (hy : ∀ i, y i < 18446744073709551616)
    (G : At3 w g (.int .u64 (x 0)) (.int .u64 (x 1)) (.int .u64 (x 2))) (H : At3 w h (.int .u64 (y 0)) (.int .u64 (y 1)) (.int .u64 (y 2))) :
    Calls Tryd.prog 67 #[.slice (some ⟨g, 0, none⟩) 3 3, .slice (some ⟨h, 0, none⟩) 3 3] w fun e w' => e = .returned (.int .i64 (c3 x y)) ∧ w' = w := by
  have C := Lib.hid (fun (j : Nat) (wx : World) => (show Calls Tryd.prog 97 #[.int .u64 (x j : Int), .int .u64 (y j : Int)] wx fun e w' => e = .returned (.int .i64 (c64 (x j) (y j))) ∧ w' = wx from cmpU_any (x j) (y j) wx (hx j) (hy j)))
  obtain ⟨R, hR⟩ : ∃ R, R = c3 x y := ⟨_, rfl⟩
  rw [← hR]
  have D : Hid ((c64 (x 0) (y 0) ≠ 0 → R = c64 (x 0) (y 0)) ∧ (c64 (x 0) (y 0) = 0 → c64 (x 1) (y 1) ≠ 0 → R = c64 (x 1) (y 1)) ∧ (c64 (x 0) (y 0) = 0 → c64 (x 1) (y 1) = 0 → R = c64 (x 2) (y 2))) := by
    refine Lib.hid ⟨fun a => ?_, fun a b => ?_, fun a b => ?_⟩ <;> rw [hR] <;> unfold c3
    · rw [if_neg a]
    · rw [if_pos a, if_neg b]
    · rw [if_pos a, if_pos b]
  clear hR hx hy
  obtain ⟨G0, G1, G2, -, -, -⟩ := id G
  obtain ⟨H0, H1, H2, -, -, -⟩ := id H
  generalize hc0 : c64 (x 0) (y 0) = c0 at *
  generalize hc1 : c64 (x 1) (y 1) = c1 at *
  generalize hc2 : c64 (x 2) (y 2) = c2 at *
  have K0 := C.out 0
  have K1 := C.out 1
  have K2 := C.out 2
  rw [hc0] at K0
  rw [hc1] at K1
  rw [hc2] at K2
  have K0 := Lib.hid K0
  have K1 := Lib.hid K1
  have K2 := Lib.hid K2
  clear C hc0 hc1 hc2 G H
  generalize ((x 0 : Nat) : Int) = x0 at *
  generalize ((x 1 : Nat) : Int) = x1 at *
  generalize ((x 2 : Nat) : Int) = x2 at *
  generalize ((y 0 : Nat) : Int) = y0 at *
  generalize ((y 1 : Nat) : Int) = y1 at *
  generalize ((y 2 : Nat) : Int) = y2 at *
  go_enter Tryd.func67, Tryd.ntmps67
  go_wp2_with fail
  go_loopg [11] 3 (fun m v11 wr => ∃ j : Nat, m = 3 - j ∧ v11 = .int .i64 (j : Int) ∧ Hid (j ≤ 3) ∧ Hid (1 ≤ j → c0 = 0) ∧ Hid (2 ≤ j → c1 = 0) ∧ Hid (3 ≤ j → c2 = 0) ∧ w = wr)
  case atStart => exact ⟨0, rfl, rfl, Nat.zero_le _, fun h => absurd h (by omega), fun h => absurd h (by omega), fun h => absurd h (by omega), rfl⟩
  case round =>
    obtain ⟨j, hm, rfl, HJ, HX, HY, HZ, rfl⟩ := hrel
    have HG := Lib.hid hm
    clear hm
    rcases (show j = 0 ∨ j = 1 ∨ j = 2 ∨ j = 3 by have := HJ.out; omega) with rfl | rfl | rfl | rfl
    · by_cases c : c0 = 0
      · skip
        subst c
        go_wp2_with fail
        refine (K0.out _).mono ?_
        rintro e w1 ⟨rfl, rfl⟩
        go_wp2_with fail
        go_roundg 2
        case measure => have := HG.out; omega
        case rel => exact ⟨1, rfl, rfl, by show _ ≤ _; omega, by first | exact fun _ => rfl | exact fun _ => trivial, fun h => absurd h (by omega), fun h => absurd h (by omega), by first | rfl | trivial⟩
      · have e := D.out.1 c
        go_wp2_with fail
        refine (K0.out _).mono ?_
        rintro e' w1 ⟨rfl, rfl⟩
        go_wp2_with fail
        go_ret
        exact ⟨ret_int e.symm, rfl⟩
    · by_cases c : c1 = 0
      · skip
        subst c
        go_wp2_with fail
        refine (K1.out _).mono ?_
        rintro e w1 ⟨rfl, rfl⟩
        go_wp2_with fail
        go_roundg 1
        case measure => have := HG.out; omega
        case rel => exact ⟨2, rfl, rfl, by show _ ≤ _; omega, fun _ => HX.out (by omega), by first | exact fun _ => rfl | exact fun _ => trivial, fun h => absurd h (by omega), by first | rfl | trivial⟩
      · have e := D.out.2.1 (HX.out (by omega)) c
        go_wp2_with fail
        refine (K1.out _).mono ?_
        rintro e' w1 ⟨rfl, rfl⟩
        go_wp2_with fail
        go_ret
        exact ⟨ret_int e.symm, rfl⟩
    · by_cases c : c2 = 0
      · have HF := Lib.hid (D.out.2.2 (HX.out (by omega)) (HY.out (by omega)))
        subst c
        go_wp2_with fail
        refine (K2.out _).mono ?_
        rintro e w1 ⟨rfl, rfl⟩
        go_wp2_with fail
        go_roundg 0
        case measure => have := HG.out; omega
        case rel => exact ⟨3, rfl, rfl, by show _ ≤ _; omega, fun _ => HX.out (by omega), fun _ => HY.out (by omega), by first | exact fun _ => rfl | exact fun _ => trivial, by first | rfl | trivial⟩
      · have e := D.out.2.2 (HX.out (by omega)) (HY.out (by omega))
        go_wp2_with fail
        refine (K2.out _).mono ?_
        rintro e' w1 ⟨rfl, rfl⟩
        go_wp2_with fail
        go_ret
        exact ⟨ret_int e.symm, rfl⟩
    · have e := D.out.2.2 (HX.out (by omega)) (HY.out (by omega))
      have f := Lib.hid (e.trans (HZ.out (by omega)))
      clear e
      go_wp2_with fail
      go_ret
      exact ⟨ret_int f.out.symm, rfl⟩
/-- the order of two products -/
def limb (p : Nat) (i : Nat) : Nat := if i = 0 then p / 340282366920938463463374607431768211456 else if i = 1 then p / 18446744073709551616 % 18446744073709551616 else p % 18446744073709551616
theorem c64_lt {x y : Nat} (h : x < y) : c64 x y = -1 := by unfold c64; rw [if_pos h]
theorem c64_eq {x y : Nat} (h : x = y) : c64 x y = 0 := by unfold c64; rw [if_neg (by omega), if_neg (by omega)]
theorem c64_gt {x y : Nat} (h : y < x) : c64 x y = 1 := by unfold c64; rw [if_neg (by omega), if_pos h]
theorem c3_first {x y : Nat → Nat} {r : Int} (h : c64 (x 0) (y 0) = r) (k : r ≠ 0) : c3 x y = r := by unfold c3; rw [h, if_neg k]
theorem c3_second {x y : Nat → Nat} {r : Int} (h0 : c64 (x 0) (y 0) = 0) (h : c64 (x 1) (y 1) = r) (k : r ≠ 0) : c3 x y = r := by unfold c3; rw [if_pos h0, h, if_neg k]
theorem c3_third {x y : Nat → Nat} {r : Int} (h0 : c64 (x 0) (y 0) = 0) (h1 : c64 (x 1) (y 1) = 0) (h : c64 (x 2) (y 2) = r) : c3 x y = r := by unfold c3; rw [if_pos h0, if_pos h1, h]
theorem limb_order (p q : Nat) : (p < q → c3 (limb p) (limb q) = -1) ∧ (q < p → c3 (limb p) (limb q) = 1) := by
  have e0 : ∀ p, limb p 0 = p / 340282366920938463463374607431768211456 := fun p => rfl
  have e1 : ∀ p, limb p 1 = p / 18446744073709551616 % 18446744073709551616 := fun p => rfl
  have e2 : ∀ p, limb p 2 = p % 18446744073709551616 := fun p => rfl
  have dd : ∀ p, p / 340282366920938463463374607431768211456 = p / 18446744073709551616 / 18446744073709551616 := fun p => by rw [Nat.div_div_eq_div_mul]
  have f := dd p
  have g := dd q
  have E0 := e0 p
  have E1 := e1 p
  have E2 := e2 p
  have G0 := e0 q
  have G1 := e1 q
  have G2 := e2 q
  rw [f] at E0
  rw [g] at G0
  clear e0 e1 e2 dd f g
  constructor
  · intro h
    rcases (show limb p 0 < limb q 0 ∨ limb p 0 = limb q 0 by omega) with a | a
    · exact c3_first (c64_lt a) (by decide)
    · rcases (show limb p 1 < limb q 1 ∨ limb p 1 = limb q 1 by omega) with b | b
      · exact c3_second (c64_eq a) (c64_lt b) (by decide)
      · exact c3_third (c64_eq a) (c64_eq b) (c64_lt (by omega))
  · intro h
    rcases (show limb q 0 < limb p 0 ∨ limb p 0 = limb q 0 by omega) with a | a
    · exact c3_first (c64_gt a) (by decide)
    · rcases (show limb q 1 < limb p 1 ∨ limb p 1 = limb q 1 by omega) with b | b
      · exact c3_second (c64_eq a) (c64_gt b) (by decide)
      · exact c3_third (c64_eq a) (c64_eq b) (c64_gt (by omega))
theorem limb_lt (a n : Nat) (ha : a < 340282366920938463463374607431768211456) (hn : n ≤ 2147483648) (i : Nat) : limb (a * n) i < 18446744073709551616 := by
  have := Nat.mul_le_mul (Nat.le_of_lt ha) hn
  unfold limb
  split
  · omega
  · split <;> omega
theorem At3.put {w : World} {b : Nat} {x y z : Value} (h : At3 w b x y z) (u v t : Value) : At3 (((w.setCell ⟨b, 0, none⟩ u).setCell ⟨b, 1, none⟩ v).setCell ⟨b, 2, none⟩ t) b u v t := by
  obtain ⟨s0, s1, s2⟩ := set3 h.c0 h.c1 h.c2 u v t
  have f : ∀ (p q : Addr) (wx : World) (s : Value), (wx.setCell p s).frozen? q = wx.frozen? q := fun p q wx s => World.frozen?_setCell _ _ _ _
  exact ⟨(World.cell?_setCell_other _ _ _ t (by simp)).trans ((World.cell?_setCell_other _ _ _ v (by simp)).trans s0), (World.cell?_setCell_other _ _ _ t (by simp)).trans s1, s2, by rw [f, f, f]; exact h.f0, by rw [f, f, f]; exact h.f1, by rw [f, f, f]; exact h.f2⟩
theorem At2.far3 {w : World} {b c : Nat} {x y : Value} (h : At2 w b x y) (hne : b ≠ c) (u v t : Value) : At2 (((w.setCell ⟨c, 0, none⟩ u).setCell ⟨c, 1, none⟩ v).setCell ⟨c, 2, none⟩ t) b x y := by
  obtain ⟨c0, c1, f0, f1, l⟩ := h.far hne u v
  exact ⟨(World.cell?_setCell_other _ _ _ t (by simp; try omega)).trans c0, (World.cell?_setCell_other _ _ _ t (by simp; try omega)).trans c1, (World.frozen?_setCell _ _ _ _).trans f0, (World.frozen?_setCell _ _ _ _).trans f1, by simpa [World.setCell] using l⟩
theorem At3.far3 {w : World} {b c : Nat} {x y z : Value} (h : At3 w b x y z) (hne : b ≠ c) (u v t : Value) : At3 (((w.setCell ⟨c, 0, none⟩ u).setCell ⟨c, 1, none⟩ v).setCell ⟨c, 2, none⟩ t) b x y z := by
  have o : ∀ (i j : Nat) (wx : World) (s : Value), (wx.setCell ⟨c, j, none⟩ s).cell? ⟨b, i, none⟩ = wx.cell? ⟨b, i, none⟩ := fun i j wx s => World.cell?_setCell_other _ _ _ s (by simp; try omega)
  have f : ∀ (p q : Addr) (wx : World) (s : Value), (wx.setCell p s).frozen? q = wx.frozen? q := fun p q wx s => World.frozen?_setCell _ _ _ _
  exact ⟨by rw [o, o, o]; exact h.c0, by rw [o, o, o]; exact h.c1, by rw [o, o, o]; exact h.c2, by rw [f, f, f]; exact h.f0, by rw [f, f, f]; exact h.f1, by rw [f, f, f]; exact h.f2⟩
theorem below_set3 {w w' : World} {n b : Nat} (h : Below n w w') (hn : n ≤ b) (x y z : Value) : Below n w (((w'.setCell ⟨b, 0, none⟩ x).setCell ⟨b, 1, none⟩ y).setCell ⟨b, 2, none⟩ z) := ((h.setCell hn x).setCell hn y).setCell hn z
theorem At3.drp {w : World} {b : Nat} {x y z : Value} (h : At3 w b x y z) : At3 w.drew b x y z := h.keep (Below.refl _ _).drew
theorem At2.drp3 {w : World} {b : Nat} {x y : Value} (h : At2 w b x y) : At2 w.drew b x y := h.keep (Below.refl _ _).drew
set_option maxHeartbeats 2000000 in
/-- the walk of compare over its calls -/
theorem comp_walk (x y n m a0 a1 b0 b1 : Int) (p q : Nat → Nat) (hm : 5400000 - n = m) (n1 : 0 ≤ n) (n2 : n ≤ 5400000) (hp : ∀ i, p i < 18446744073709551616) (hq : ∀ i, q i < 18446744073709551616) (w : World)
    (K1 : Hid (∀ wx, Below w.heap.size w wx → Calls Tryd.prog 65 #[.int .i64 n, .int .i64 26] wx fun e w' => e = .returned (.agg #[.int .u64 a0, .int .u64 a1]) ∧ Below wx.heap.size wx w'))
    (K2 : Hid (∀ wx, Calls Tryd.prog 66 #[.agg #[.int .u64 a0, .int .u64 a1], .int .i64 x] wx fun e w' => e = .returned (.agg #[.int .u64 (p 0), .int .u64 (p 1), .int .u64 (p 2)]) ∧ Below wx.heap.size wx w'))
    (K3 : Hid (∀ wx, Below w.heap.size w wx → Calls Tryd.prog 65 #[.int .i64 m, .int .i64 26] wx fun e w' => e = .returned (.agg #[.int .u64 b0, .int .u64 b1]) ∧ Below wx.heap.size wx w'))
    (K4 : Hid (∀ wx, Calls Tryd.prog 66 #[.agg #[.int .u64 b0, .int .u64 b1], .int .i64 y] wx fun e w' => e = .returned (.agg #[.int .u64 (q 0), .int .u64 (q 1), .int .u64 (q 2)]) ∧ Below wx.heap.size wx w')) :
    Calls Tryd.prog 52 #[.agg #[.int .i64 x, .int .i64 y], .int .i64 n] w fun e w' => e = .returned (.int .i64 (c3 p q)) ∧ Below w.heap.size w w' := by
  have K5 := Lib.hid (fun (g h : Nat) (wx : World) (G : At3 wx g (.int .u64 (p 0)) (.int .u64 (p 1)) (.int .u64 (p 2))) (H : At3 wx h (.int .u64 (q 0)) (.int .u64 (q 1)) (.int .u64 (q 2))) => slc_any p q g h wx hp hq G H)
  clear hp hq
  generalize c3 p q = R at *
  generalize ((p 0 : Nat) : Int) = p0 at *
  generalize ((p 1 : Nat) : Int) = p1 at *
  generalize ((p 2 : Nat) : Int) = p2 at *
  generalize ((q 0 : Nat) : Int) = q0 at *
  generalize ((q 1 : Nat) : Int) = q1 at *
  generalize ((q 2 : Nat) : Int) = q2 at *
  have A := At2.new w (.int .i64 x) (.int .i64 y) 50
  have HB := Lib.hid (below1 w (.cells #[.int .i64 x, .int .i64 y] 50))
  obtain ⟨A0, A1, -, -, -⟩ := id A
  go_enter Tryd.func52, Tryd.ntmps52
  go_upto_region 1 with fail
  generalize (w.alloc (.cells #[.int .i64 x, .int .i64 y] 50)) = W at *
  go_cut [5] from 7 to 11 (fun v5 wx => ∃ gq : Nat, v5 = .pointer (some ⟨gq, 0, none⟩) ∧ Hid (At3 wx gq (.int .u64 p0) (.int .u64 p1) (.int .u64 p2)) ∧ Hid (At2 wx w.heap.size (.int .i64 x) (.int .i64 y)) ∧ Hid (Below w.heap.size w wx))
  case first =>
    have pA : ¬ w.heap.size = W.heap.size := (by have := A.lt; omega)
    have rA : ¬ W.heap.size = w.heap.size := (by have := A.lt; omega)
    have lA := Lib.hid (show w.heap.size ≤ W.heap.size by have := A.lt; omega)
    go_region_held3 (fun w' => w'.cell? ⟨w.heap.size, 0, none⟩ = some (.int .i64 x) ∧ w'.cell? ⟨w.heap.size, 1, none⟩ = some (.int .i64 y)) (go_keep)
      (first
      | (go_at_call 65; (with_reducible refine (K1.out (World.drew W) HB.out.drew).mono ?_); rintro e v ⟨rfl, hb⟩; clear A0 A1; have A := A.drp3.keep hb; have HB := Lib.hid (bstep HB.out (bdrew hb)); obtain ⟨A0, A1, -, -, -⟩ := id A; clear hb; have zA : ¬ w.heap.size = v.heap.size := (by have := A.lt; omega); have xA : ¬ v.heap.size = w.heap.size := (by have := A.lt; omega); have yA := Lib.hid (show w.heap.size ≤ v.heap.size by have := A.lt; omega); have N := At3.new v (.int .u64 0) (.int .u64 0) (.int .u64 0) 98)
      | (go_at_call 65; (with_reducible refine (K1.out (World.drew (World.alloc W _)) (bstep HB.out (below1 _ _)).drew).mono ?_); rintro e v ⟨rfl, hb⟩; clear A0 A1; have A := (A.alloc _).drp3.keep hb; have HB := Lib.hid (bstep HB.out (alloc_below (bdrew hb))); obtain ⟨A0, A1, -, -, -⟩ := id A; have N := (At3.new W (.int .u64 0) (.int .u64 0) (.int .u64 0) 98).drp.keep hb; obtain ⟨N0, N1, N2, Nf, Ng, Nh⟩ := id N; clear hb)
      | (go_at_call 66; (with_reducible refine (K2.out (World.alloc v _)).mono ?_); rintro e v2 ⟨rfl, hb⟩; clear A0 A1; have A := (A.alloc _).keep hb; have HB := Lib.hid (bstep HB.out (alloc_below hb)); obtain ⟨A0, A1, -, -, -⟩ := id A; have N := N.keep hb; obtain ⟨N0, N1, N2, Nf, Ng, Nh⟩ := id N; clear hb)
      | (go_at_call 66; (with_reducible refine (K2.out v).mono ?_); rintro e v2 ⟨rfl, hb⟩; clear A0 A1; have A := A.keep hb; have HB := Lib.hid (bstep HB.out hb); obtain ⟨A0, A1, -, -, -⟩ := id A; (try (have N := N.keep hb; obtain ⟨N0, N1, N2, Nf, Ng, Nh⟩ := id N)); clear hb))
    all_goals
      go_wp2_with fail
      go_meet
    all_goals
      first
      | (with_reducible exact ⟨_, rfl, Lib.hid (At3.new _ _ _ _ 98), Lib.hid (A.alloc _), Lib.hid (bstep HB.out (below1 _ _))⟩)
      | (with_reducible exact ⟨_, rfl, Lib.hid (N.put _ _ _), Lib.hid (A.far3 zA _ _ _), Lib.hid (below_set3 HB.out yA.out _ _ _)⟩)
      | (with_reducible exact ⟨_, rfl, Lib.hid (N.put _ _ _), Lib.hid (A.far3 pA _ _ _), Lib.hid (below_set3 HB.out lA.out _ _ _)⟩)
  case rest =>
    obtain ⟨g, rfl, Gh, Ah, HB'⟩ := hcut
    clear A0 A1 A HB
    have A := Ah.out
    have G := Gh.out
    have HB := Lib.hid HB'.out
    clear Ah Gh HB' K1 K2
    obtain ⟨A0, A1, -, -, -⟩ := id A
    have wm : IntKind.i64.wrap m = m := by rw [IntKind.wrap_i64]; omega
    go_upto_region 2 with fail
    go_cut [6] from 12 to 17 (fun v6 wx => ∃ gq : Nat, v6 = .pointer (some ⟨gq, 0, none⟩) ∧ Hid (At3 wx gq (.int .u64 q0) (.int .u64 q1) (.int .u64 q2)) ∧ Hid (At2 wx w.heap.size (.int .i64 x) (.int .i64 y)) ∧ Hid (At3 wx g (.int .u64 p0) (.int .u64 p1) (.int .u64 p2)) ∧ Hid (Below w.heap.size w wx))
    case first =>
      have pA : ¬ w.heap.size = wc.heap.size := (by have := A.lt; omega)
      have rA : ¬ wc.heap.size = w.heap.size := (by have := A.lt; omega)
      have lA := Lib.hid (show w.heap.size ≤ wc.heap.size by have := A.lt; omega)
      have pG : ¬ g = wc.heap.size := (by have := G.lt; omega)
      have rG : ¬ wc.heap.size = g := (by have := G.lt; omega)
      go_region_held3 (fun w' => w'.cell? ⟨w.heap.size, 0, none⟩ = some (.int .i64 x) ∧ w'.cell? ⟨w.heap.size, 1, none⟩ = some (.int .i64 y)) (go_keep)
        (first
        | (go_at_call 65; (with_reducible refine (K3.out (World.drew wc) HB.out.drew).mono ?_); rintro e v ⟨rfl, hb⟩; clear A0 A1; have A := A.drp3.keep hb; have G := G.drp.keep hb; have HB := Lib.hid (bstep HB.out (bdrew hb)); obtain ⟨A0, A1, -, -, -⟩ := id A; clear hb; have zA : ¬ w.heap.size = v.heap.size := (by have := A.lt; omega); have xA : ¬ v.heap.size = w.heap.size := (by have := A.lt; omega); have yA := Lib.hid (show w.heap.size ≤ v.heap.size by have := A.lt; omega); have zG : ¬ g = v.heap.size := (by have := G.lt; omega); have xG : ¬ v.heap.size = g := (by have := G.lt; omega); have N := At3.new v (.int .u64 0) (.int .u64 0) (.int .u64 0) 98)
        | (go_at_call 65; (with_reducible refine (K3.out (World.drew (World.alloc wc _)) (bstep HB.out (below1 _ _)).drew).mono ?_); rintro e v ⟨rfl, hb⟩; clear A0 A1; have A := (A.alloc _).drp3.keep hb; have G := (G.alloc _).drp.keep hb; have HB := Lib.hid (bstep HB.out (alloc_below (bdrew hb))); obtain ⟨A0, A1, -, -, -⟩ := id A; have N := (At3.new wc (.int .u64 0) (.int .u64 0) (.int .u64 0) 98).drp.keep hb; obtain ⟨N0, N1, N2, Nf, Ng, Nh⟩ := id N; clear hb)
        | (go_at_call 66; (with_reducible refine (K4.out (World.alloc v _)).mono ?_); rintro e v2 ⟨rfl, hb⟩; clear A0 A1; have A := (A.alloc _).keep hb; have G := (G.alloc _).keep hb; have HB := Lib.hid (bstep HB.out (alloc_below hb)); obtain ⟨A0, A1, -, -, -⟩ := id A; have N := N.keep hb; obtain ⟨N0, N1, N2, Nf, Ng, Nh⟩ := id N; clear hb)
        | (go_at_call 66; (with_reducible refine (K4.out v).mono ?_); rintro e v2 ⟨rfl, hb⟩; clear A0 A1; have A := A.keep hb; have G := G.keep hb; have HB := Lib.hid (bstep HB.out hb); obtain ⟨A0, A1, -, -, -⟩ := id A; (try (have N := N.keep hb; obtain ⟨N0, N1, N2, Nf, Ng, Nh⟩ := id N)); clear hb))
      all_goals
        go_wp2_with fail
        go_meet
      all_goals
        first
        | (with_reducible exact ⟨_, rfl, Lib.hid (At3.new _ _ _ _ 98), Lib.hid (A.alloc _), Lib.hid (G.alloc _), Lib.hid (bstep HB.out (below1 _ _))⟩)
        | (with_reducible exact ⟨_, rfl, Lib.hid (N.put _ _ _), Lib.hid (A.far3 zA _ _ _), Lib.hid (G.far3 zG _ _ _), Lib.hid (below_set3 HB.out yA.out _ _ _)⟩)
        | (with_reducible exact ⟨_, rfl, Lib.hid (N.put _ _ _), Lib.hid (A.far3 pA _ _ _), Lib.hid (G.far3 pG _ _ _), Lib.hid (below_set3 HB.out lA.out _ _ _)⟩)
    case rest =>
      obtain ⟨h, rfl, Hh, Ah, Gh, HB'⟩ := hcut
      have H := Hh.out
      have G' := Gh.out
      have HBB := Lib.hid HB'.out
      clear Ah Gh HB' Hh K3 K4 A0 A1 A HB G
      go_upto_region 3 with fail
      go_region_with (first | (go_at_call 67; refine (K5.out g h _ (by first | exact G' | exact G'.drp) (by first | exact H | exact H.drp)).mono ?_; rintro e v ⟨rfl, rfl⟩))
      all_goals
        go_wp2_with fail
        go_ret
        exact ⟨rfl, by first | exact HBB.out | exact HBB.out.drew⟩
end Go.Proofs.YtndcjldnnfhedaaDoor

/- Arctrig: the angle of a point of the first quarter, as the program finds it. -/
namespace Go.Proofs.YtndcjldnnfhedaaDoor
open Go.RowKit
set_option linter.unusedVariables false
set_option maxRecDepth 100000

theorem comp_any (n X Y : Nat) (h1 : 1 ≤ n) (h2 : n < 5400000) (y0 : 0 < Y) (yx : Y < X) (x1 : X ≤ 2147483648) (w : World) (H : Held w) :
    Calls Tryd.prog 52 #[.agg #[.int .i64 (X : Int), .int .i64 (Y : Int)], .int .i64 (n : Int)] w fun e w' => e = .returned (.int .i64 (L6.sd n X Y)) ∧ Below w.heap.size w w' := by
  have L1 := (irF_lt n (by omega)).resolve_right (by omega)
  have L2 := (irF_lt (5400000 - n) (by omega)).resolve_right (by omega)
  have K1 := fun wx (hb : Below w.heap.size w wx) => irF_any (n : Int) (by omega) (by omega) wx (H.keep hb)
  have K3 := fun wx (hb : Below w.heap.size w wx) => irF_any (5400000 - (n : Int)) (by omega) (by omega) wx (H.keep hb)
  rw [show ((n : Int)).toNat = n by omega] at K1
  rw [show (5400000 - (n : Int)).toNat = 5400000 - n by omega] at K3
  have W := comp_walk X Y n (5400000 - (n : Int)) _ _ _ _ (limb (L6.irF n * X)) (limb (L6.irF (5400000 - n) * Y)) rfl (by omega) (by omega) (limb_lt _ _ L1 x1) (limb_lt _ _ L2 (by omega)) w
    (Lib.hid K1) (Lib.hid fun wx => mulN_any _ X L1 x1 wx) (Lib.hid K3) (Lib.hid fun wx => mulN_any _ Y L2 (by omega) wx)
  obtain ⟨o1, o2⟩ := limb_order (L6.irF n * X) (L6.irF (5400000 - n) * Y)
  rcases L6.side_prog n X Y h1 h2 y0 yx x1 with ⟨a, b⟩ | ⟨a, b⟩
  · rw [o2 b] at W
    rw [a]; exact W
  · rw [o1 b] at W
    rw [a]; exact W
set_option maxHeartbeats 1000000 in
theorem psine_any (X Y s : Nat) (y0 : 0 < Y) (yx : Y < X) (x1 : X ≤ 2147483648) (s1 : s * s ≤ Y * Y * 1152921504606846976 / (X * X + Y * Y)) (s2 : Y * Y * 1152921504606846976 / (X * X + Y * Y) < (s + 1) * (s + 1)) (w : World) :
    Calls Tryd.prog 51 #[.agg #[.int .i64 (X : Int), .int .i64 (Y : Int)]] w fun e w' => e = .returned (.int .i64 (s : Int)) ∧ Below w.heap.size w w' := by
  have A := At2.new w (.int .i64 (X : Int)) (.int .i64 (Y : Int)) 50
  have HB := Lib.hid (below1 w (.cells #[.int .i64 (X : Int), .int .i64 (Y : Int)] 50))
  obtain ⟨A0, A1, -, -, -⟩ := id A
  have yy := Nat.mul_le_mul (show Y ≤ 2147483648 by omega) (show Y ≤ 2147483648 by omega)
  have xx := Nat.mul_le_mul x1 x1
  have yp := Nat.mul_pos y0 y0
  have xp := Nat.mul_pos (show 0 < X by omega) (show 0 < X by omega)
  have xy := Nat.mul_lt_mul_of_lt_of_le yx (Nat.le_of_lt yx) (show 0 < X by omega)
  have c1 : (X : Int) * (X : Int) = ((X * X : Nat) : Int) := by rw [Int.natCast_mul]
  have c2 : (Y : Int) * (Y : Int) = ((Y * Y : Nat) : Int) := by rw [Int.natCast_mul]
  have u1 : IntKind.u64.wrap (X : Int) = (X : Int) := by rw [IntKind.wrap_u64]; omega
  have u2 : IntKind.u64.wrap (Y : Int) = (Y : Int) := by rw [IntKind.wrap_u64]; omega
  have u3 : IntKind.u64.wrap ((X : Int) * (X : Int)) = ((X * X : Nat) : Int) := by rw [c1, IntKind.wrap_u64]; omega
  have u4 : IntKind.u64.wrap ((Y : Int) * (Y : Int)) = ((Y * Y : Nat) : Int) := by rw [c2, IntKind.wrap_u64]; omega
  obtain ⟨p, hp⟩ : ∃ p, p = X * X := ⟨_, rfl⟩
  obtain ⟨q, hq⟩ : ∃ q, q = Y * Y := ⟨_, rfl⟩
  rw [← hp] at u3 xx xp xy s1 s2
  rw [← hq] at u4 yy yp xy s1 s2
  obtain ⟨D, hD⟩ : ∃ D, D = p + q := ⟨_, rfl⟩
  have u5 : IntKind.u64.wrap ((p : Int) + (q : Int)) = (D : Int) := by rw [IntKind.wrap_u64]; omega
  rw [← hD] at s1 s2
  obtain ⟨hi, hhi⟩ : ∃ h, h = q / 16 := ⟨_, rfl⟩
  obtain ⟨lo, hlo⟩ : ∃ l, l = q * 1152921504606846976 % 18446744073709551616 := ⟨_, rfl⟩
  have v1 : (q : Int) / 16 = (hi : Int) := by omega
  have v2 : IntKind.u64.wrap ((q : Int) * 1152921504606846976) = (lo : Int) := by rw [IntKind.wrap_u64]; omega
  have eN : hi * 18446744073709551616 + lo = q * 1152921504606846976 := by omega
  have qD : q * 1152921504606846976 < 1152921504606846976 * D := by omega
  have G1 := Lib.hid (fun wx => wd.div64_any hi lo D wx (by omega) (by omega) (by omega))
  rw [eN] at G1
  obtain ⟨S, hS⟩ : ∃ S, S = q * 1152921504606846976 / D := ⟨_, rfl⟩
  have S1 : S < 1152921504606846976 := by rw [hS]; exact Nat.div_lt_of_lt_mul (by rw [Nat.mul_comm D]; exact qD)
  rw [← hS] at s1 s2 G1
  generalize q * 1152921504606846976 % D = rest at *
  have u6 : IntKind.i64.wrap (S : Int) = (S : Int) := by rw [IntKind.wrap_i64]; omega
  have G2 := Lib.hid (fun wx => wd.of_any (S : Int) wx (by omega) (by omega))
  have k0 : wd.wh (S : Int) = 0 := by unfold wd.wh; omega
  have k1 : wd.wl (S : Int) = (S : Int) := by unfold wd.wl; omega
  rw [k0, k1] at G2
  have G3 := Lib.hid (fun wx => wd.Root_ok 0 (S : Int) s wx ((wd.wok_iff _ _).2 (by omega)) (by omega) (by unfold wd.wv; omega) (by unfold wd.wv; omega))
  have n1 : (X : Int) ≤ 2147483648 := by omega
  have n2 : (Y : Int) ≤ 2147483648 := by omega
  have n3 : (0 : Int) ≤ (X : Int) := by omega
  have n4 : (0 : Int) ≤ (Y : Int) := by omega
  have n5 : (0 : Int) ≤ (q : Int) := by omega
  have n6 : (q : Int) ≤ 4611686018427387904 := by omega
  clear s1 s2 hS S1 qD eN hlo hhi hD hp hq xy xp yp xx yy c1 c2 k0 k1 A y0 yx x1
  go_enter Tryd.func51, Tryd.ntmps51
  go_upto_region 1 with fail
  go_quiet (fail)
  go_wp2_with fail
  refine (G1.out _).mono ?_
  rintro e w1 ⟨rfl, hb⟩
  have HB := Lib.hid (bstep (bstep HB.out (below_drewN _ _ _)) hb)
  clear hb
  go_wp2_with fail
  refine (G2.out _).mono ?_
  rintro e w2 ⟨rfl, hb⟩
  have HB := Lib.hid (bstep HB.out hb)
  clear hb
  go_wp2_with fail
  refine (G3.out _).mono ?_
  rintro e w3 ⟨rfl, hb⟩
  have HB := Lib.hid (bstep HB.out hb)
  clear hb
  go_wp2_with fail
  go_ret
  exact ⟨rfl, HB.out⟩
/-- the search between two angles that are two units apart -/
theorem around_c (x y d r : Int) (d1 : 0 ≤ d) (d2 : d ≤ 5400000) (hr : r = 1 ∨ r = -1) (w : World)
    (C : Hid (∀ wx, Below w.heap.size w wx → Calls Tryd.prog 52 #[.agg #[.int .i64 x, .int .i64 y], .int .i64 (d + 1)] wx fun e w' => e = .returned (.int .i64 r) ∧ Below wx.heap.size wx w')) :
    Calls Tryd.prog 48 #[.int .i64 d, .int .i64 (d + 2), .func (.func 52) #[.agg #[.int .i64 x, .int .i64 y]] #[]] w fun e w' => e = .returned (.tuple #[.int .i64 (if r = 1 then d else d + 1), .int .i64 (if r = 1 then d + 1 else d + 2)]) ∧ Below w.heap.size w w' := by
  obtain ⟨L, hL⟩ : ∃ L, L = if r = 1 then d else d + 1 := ⟨_, rfl⟩
  have hU : (if r = 1 then d + 1 else d + 2) = L + 1 := by rw [hL]; split <;> omega
  rw [hU, ← hL]
  have hL' := Lib.hid (show (r = 1 → L = d) ∧ (r = -1 → L = d + 1) from ⟨fun h => by rw [hL, if_pos h], fun h => by rw [hL, if_neg (by omega)]⟩)
  clear hL hU
  have HB := Lib.hid (Below.refl w.heap.size w)
  obtain ⟨e, he⟩ : ∃ e, e = d + 2 := ⟨_, rfl⟩
  rw [← he]
  have hE := Lib.hid he
  clear he
  go_enter Tryd.func48, Tryd.ntmps48
  go_wp2_with fail
  go_loopg [0, 1] 2 (fun m p q wr => ∃ l u : Int, m = (u - l).toNat ∧ p = .int .i64 l ∧ q = .int .i64 u ∧ Hid ((l = d ∧ u = e) ∨ (l = L ∧ u = L + 1)) ∧ Hid (Below w.heap.size w wr))
  case atStart => exact ⟨d, e, by have := hE.out; omega, rfl, rfl, .inl ⟨rfl, rfl⟩, HB⟩
  case round =>
    obtain ⟨l, u, hm, rfl, rfl, HS, HB⟩ := hrel
    have HM := Lib.hid hm
    clear hm
    rcases HS.out with ⟨rfl, rfl⟩ | ⟨rfl, rfl⟩
    · have hd : u - l = 2 := by have := hE.out; omega
      have hq : Int.tdiv 2 2 = 1 := rfl
      have KB := Lib.hid (C.out wr HB.out)
      obtain ⟨m, hm⟩ : ∃ m, l + 1 = m := ⟨_, rfl⟩
      rw [hm] at KB
      have m1 := Lib.hid hm
      have b1 : u ≤ 5400002 := by omega
      have b2 : 2 ≤ u := by omega
      have b3 : 0 ≤ m := by omega
      have b4 : m ≤ 5400001 := by omega
      rcases hr with rfl | rfl
      · have hK := Lib.hid (hL'.out.1 rfl)
        clear hL'
        go_wp2_with fail
        refine KB.out.mono ?_
        rintro e w1 ⟨rfl, hb⟩
        have HB := Lib.hid (bstep HB.out hb)
        clear hb
        go_wp2_with fail
        go_roundg 1
        case measure => have := HM.out; have := m1.out; omega
        case rel => exact ⟨l, m, by have := m1.out; omega, rfl, rfl, .inr ⟨hK.out.symm, by have := hK.out; have := m1.out; omega⟩, HB⟩
      · have hK := Lib.hid (hL'.out.2 rfl)
        clear hL'
        go_wp2_with fail
        refine KB.out.mono ?_
        rintro e w1 ⟨rfl, hb⟩
        have HB := Lib.hid (bstep HB.out hb)
        clear hb
        go_wp2_with fail
        go_roundg 1
        case measure => have := HM.out; have := m1.out; omega
        case rel => exact ⟨m, u, by have := m1.out; omega, rfl, rfl, .inr ⟨by have := hK.out; have := m1.out; omega, by have := hK.out; have := m1.out; have := hE.out; omega⟩, HB⟩
    · have hd : l + 1 - l = 1 := by omega
      have b0 : 0 ≤ l := by have := hL'.out; omega
      have b1 : l ≤ 5400001 := by have := hL'.out; omega
      go_wp2_with fail
      go_ret2
      exact ⟨rfl, HB.out⟩
theorem root_ex (N : Nat) : ∃ s : Nat, s * s ≤ N ∧ N < (s + 1) * (s + 1) := by
  induction N with
  | zero => exact ⟨0, by omega, by omega⟩
  | succ N ih =>
    obtain ⟨s, h1, h2⟩ := ih
    by_cases c : N + 1 < (s + 1) * (s + 1)
    · exact ⟨s, by omega, c⟩
    · refine ⟨s + 1, by omega, ?_⟩
      rw [show (s + 1 + 1) * (s + 1 + 1) = (s + 1) * (s + 1) + 2 * (s + 1) + 1 by rw [Nat.add_mul (s + 1) 1, Nat.mul_add (s + 1)]; omega]
      omega
set_option maxHeartbeats 1000000 in
/-- the walk of acute below the middle -/
theorem acute_walk (X Y v d u l h : Int) (y0 : ¬ Y = 0) (yx : Y < X) (d0 : 0 ≤ d) (d1 : d ≤ 5400000) (w : World)
    (C1 : Hid (∀ wx, Calls Tryd.prog 51 #[.agg #[.int .i64 X, .int .i64 Y]] wx fun e w' => e = .returned (.int .i64 v) ∧ Below wx.heap.size wx w'))
    (C2 : Hid (∀ wx, Below w.heap.size w wx → Calls Tryd.prog 36 #[.int .i64 v] wx fun e w' => e = .returned (.tuple #[.int .i64 d, .int .i64 u]) ∧ Below wx.heap.size wx w'))
    (C3 : Hid (∀ wx, Below w.heap.size w wx → Calls Tryd.prog 48 #[.int .i64 d, .int .i64 (d + 2), .func (.func 52) #[.agg #[.int .i64 X, .int .i64 Y]] #[]] wx fun e w' => e = .returned (.tuple #[.int .i64 l, .int .i64 h]) ∧ Below wx.heap.size wx w')) :
    Calls Tryd.prog 39 #[.agg #[.int .i64 X, .int .i64 Y]] w fun e w' => e = .returned (.tuple #[.int .i64 l, .int .i64 h]) ∧ Below w.heap.size w w' := by
  have A := At2.new w (.int .i64 X) (.int .i64 Y) 50
  have HB := Lib.hid (below1 w (.cells #[.int .i64 X, .int .i64 Y] 50))
  have hmf : ∀ (fn : Fn) (first cap : Array Value) (w : World), (Instr.makeFunc fn first cap).run Tryd.prog w = .ok (.func fn first cap) w := fun _ _ _ _ => rfl
  have z0 : (Y == 0) = false := by simp [y0]
  have z1 : (Y == X) = false := by simp; omega
  have z2 : ¬ Y > X := by omega
  obtain ⟨A0, A1, -, -, -⟩ := id A
  go_enter Tryd.func39, Tryd.ntmps39
  go_wp2_with fail
  refine (C1.out _).mono ?_
  rintro e w1 ⟨rfl, hb⟩
  clear A0 A1
  have A := A.keep hb
  have HB := Lib.hid (bstep HB.out hb)
  clear hb
  go_wp2_with fail
  refine (C2.out _ HB.out).mono ?_
  rintro e w2 ⟨rfl, hb⟩
  have A := A.keep hb
  have HB := Lib.hid (bstep HB.out hb)
  clear hb
  obtain ⟨A0, A1, -, -, -⟩ := id A
  go_wp2_with fail
  refine (C3.out _ HB.out).mono ?_
  rintro e w3 ⟨rfl, hb⟩
  have HB := Lib.hid (bstep HB.out hb)
  clear hb
  go_wp2_with fail
  go_ret2
  exact ⟨rfl, HB.out⟩
theorem acute_low (X Y : Nat) (y0 : 0 < Y) (yx : Y < X) (x1 : X ≤ 2147483648) (w : World) (H : Held w) :
    Calls Tryd.prog 39 #[.agg #[.int .i64 (X : Int), .int .i64 (Y : Int)]] w fun e w' => e = .returned (.tuple #[.int .i64 (L6.gN X Y), .int .i64 (L6.gU X Y)]) ∧ Below w.heap.size w w' := by
  obtain ⟨s, s1, s2⟩ := root_ex (Y * Y * 1152921504606846976 / (X * X + Y * Y))
  have xy := Nat.mul_pos (show 0 < X by omega) (show 0 < X by omega)
  have D0 : 0 < X * X + Y * Y := by omega
  have t1 : s * s * (X * X + Y * Y) ≤ Y * Y * 1152921504606846976 := (Nat.le_div_iff_mul_le D0).1 s1
  have t2 : Y * Y * 1152921504606846976 < (s + 1) * (s + 1) * (X * X + Y * Y) := (Nat.div_lt_iff_lt_mul D0).1 s2
  have i1 := Int.ofNat_le.2 t1
  have i2 := Int.ofNat_lt.2 t2
  simp only [Int.natCast_mul, Int.natCast_add, Int.cast_ofNat_Int] at i1 i2
  obtain ⟨g1, g2, g3, g4, g5, g6, g7⟩ := L6.g_acute (X := X) (Y := Y) (v := s) (by omega) (by omega) (by omega) (by omega) i1 i2
  have C := fun wx (hb : Below w.heap.size w wx) => comp_any (L6.aLo s + 1).toNat X Y (by omega) (by omega) y0 yx x1 wx (H.keep hb)
  rw [show ((L6.aLo s + 1).toNat : Int) = L6.aLo s + 1 by omega] at C
  have R := fun wx (hb : Below w.heap.size w wx) => around_c X Y (L6.aLo s) (L6.sd (L6.aLo s + 1) X Y) g2 (by omega) g7 wx (Lib.hid fun wy hy => C wy (bstep hb hy))
  have e1 : (if L6.sd (L6.aLo s + 1) X Y = 1 then L6.aLo s else L6.aLo s + 1) = L6.gN X Y := by
    rcases g7 with k | k
    · rw [if_pos k, g5 (by omega)]
    · rw [if_neg (by omega), g6 (by omega)]
  have e2 : (if L6.sd (L6.aLo s + 1) X Y = 1 then L6.aLo s + 1 else L6.aLo s + 2) = L6.gU X Y := by
    rw [g1, ← e1]
    rcases g7 with k | k
    · rw [if_pos k, if_pos k]
    · rw [if_neg (by omega), if_neg (by omega)]; omega
  rw [e1, e2] at R
  exact acute_walk X Y s (L6.aLo s) (L6.aHi s) _ _ (by omega) (by omega) g2 (by omega) w (Lib.hid fun wx => psine_any X Y s y0 yx x1 s1 s2 wx)
    (Lib.hid fun wx hb => arcsine_any s w wx (trProg w H) hb (by omega) (by omega)) (Lib.hid R)
theorem acute_axis (X : Int) (w : World) :
    Calls Tryd.prog 39 #[.agg #[.int .i64 X, .int .i64 0]] w fun e w' => e = .returned (.tuple #[.int .i64 0, .int .i64 0]) ∧ Below w.heap.size w w' := by
  have A := At2.new w (.int .i64 X) (.int .i64 0) 50
  have HB := Lib.hid (below1 w (.cells #[.int .i64 X, .int .i64 0] 50))
  obtain ⟨A0, A1, -, -, -⟩ := id A
  go_enter Tryd.func39, Tryd.ntmps39
  go_wp2_with fail
  go_ret2
  exact ⟨rfl, HB.out⟩
theorem acute_mid (X : Int) (h : ¬ X = 0) (w : World) :
    Calls Tryd.prog 39 #[.agg #[.int .i64 X, .int .i64 X]] w fun e w' => e = .returned (.tuple #[.int .i64 2700000, .int .i64 2700000]) ∧ Below w.heap.size w w' := by
  have A := At2.new w (.int .i64 X) (.int .i64 X) 50
  have HB := Lib.hid (below1 w (.cells #[.int .i64 X, .int .i64 X] 50))
  have z0 : (X == 0) = false := by simp [h]
  obtain ⟨A0, A1, -, -, -⟩ := id A
  go_enter Tryd.func39, Tryd.ntmps39
  go_wp2_with fail
  go_ret2
  exact ⟨rfl, HB.out⟩
theorem acute_swap (X Y l h a b : Int) (y0 : ¬ Y = 0) (yx : X < Y) (hl : 5400000 - h = a) (hh : 5400000 - l = b) (l1 : 0 ≤ l) (l2 : l ≤ 5400000) (h1 : 0 ≤ h) (h2 : h ≤ 5400000) (w : World)
    (C : Hid (∀ wx, Below w.heap.size w wx → Calls Tryd.prog 39 #[.agg #[.int .i64 Y, .int .i64 X]] wx fun e w' => e = .returned (.tuple #[.int .i64 l, .int .i64 h]) ∧ Below wx.heap.size wx w')) :
    Calls Tryd.prog 39 #[.agg #[.int .i64 X, .int .i64 Y]] w fun e w' => e = .returned (.tuple #[.int .i64 a, .int .i64 b]) ∧ Below w.heap.size w w' := by
  have A := At2.new w (.int .i64 X) (.int .i64 Y) 50
  have HB := Lib.hid (below1 w (.cells #[.int .i64 X, .int .i64 Y] 50))
  have z0 : (Y == 0) = false := by simp [y0]
  have z1 : (Y == X) = false := by simp; omega
  have z2 : Y > X := by omega
  obtain ⟨A0, A1, -, -, -⟩ := id A
  go_enter Tryd.func39, Tryd.ntmps39
  go_wp2_with fail
  refine (C.out _ HB.out).mono ?_
  rintro e w1 ⟨rfl, hb⟩
  have HB := Lib.hid (bstep HB.out hb)
  clear hb
  go_wp2_with fail
  go_ret2
  exact ⟨rfl, HB.out⟩
theorem g_in (X Y : Int) (x0 : 0 < X) (y0 : 0 ≤ Y) : 0 ≤ L6.gN X Y ∧ L6.gN X Y < 5400000 ∧ L6.gN X Y ≤ L6.gU X Y ∧ L6.gU X Y ≤ 5400000 ∧ L6.gU X Y ≤ L6.gN X Y + 1 := by
  obtain ⟨a, b, -, -⟩ := L6.gN_is X Y x0 y0
  unfold L6.gU
  split <;> omega
theorem acute_any (X Y : Int) (x0 : 0 < X) (y0 : 0 ≤ Y) (x1 : X ≤ 2147483648) (y1 : Y ≤ 2147483648) (w : World) (H : Held w) :
    Calls Tryd.prog 39 #[.agg #[.int .i64 X, .int .i64 Y]] w fun e w' => e = .returned (.tuple #[.int .i64 (L6.gN X Y), .int .i64 (L6.gU X Y)]) ∧ Below w.heap.size w w' := by
  rcases (show Y = 0 ∨ 0 < Y ∧ Y < X ∨ Y = X ∨ X < Y by omega) with c | ⟨c, c'⟩ | c | c
  · subst c
    obtain ⟨e1, e2⟩ := L6.g_axis X x0 x1
    rw [e1, e2]
    exact acute_axis X w
  · have k := acute_low X.toNat Y.toNat (by omega) (by omega) (by omega) w H
    rwa [show ((X.toNat : Nat) : Int) = X by omega, show ((Y.toNat : Nat) : Int) = Y by omega] at k
  · subst c
    obtain ⟨e1, e2⟩ := L6.g_mid Y x0 x1
    rw [e1, e2]
    exact acute_mid Y (by omega) w
  · obtain ⟨e1, e2, e3⟩ := L6.g_mirror x0 c y1
    obtain ⟨i1, i2, i3, i4, i5⟩ := g_in Y X (by omega) (by omega)
    rw [e3, e1]
    refine acute_swap X Y (L6.gN Y X) (L6.gU Y X) _ _ (by omega) c ?_ ?_ i1 (by omega) (by omega) i4 w (Lib.hid fun wx hb => ?_)
    · rw [e2]; omega
    · omega
    · have k := acute_low Y.toNat X.toNat (by omega) (by omega) (by omega) wx (H.keep hb)
      rwa [show ((X.toNat : Nat) : Int) = X by omega, show ((Y.toNat : Nat) : Int) = Y by omega] at k
end Go.Proofs.YtndcjldnnfhedaaDoor
