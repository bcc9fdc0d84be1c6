/- The reference of layer 6. -/
import Derived.Test.YtndcjldnnfhedaaDoorPlb
import Derived.Test.YtndcjldnnfhedaaDoorBsa
import Derived.Deep.LoopGhost
/- Trig: contracts of the reference's high, quick. -/
namespace Go.Proofs.YtndcjldnnfhedaaDoor
open Go.RowKit
set_option linter.unusedVariables false
set_option maxRecDepth 100000

theorem mask31 (l : Int) : bits .and .i64 l 2147483647 = l % 2147483648 := by
  have h2 : (BitVec.ofInt 64 (2147483647 : Int)).toNat = 2147483647 := by decide
  have h1 : (BitVec.ofInt 64 l).toNat = (l % 18446744073709551616).toNat := by rw [BitVec.toNat_ofInt]; rfl
  show IntKind.i64.wrap ((BitVec.ofInt 64 l &&& BitVec.ofInt 64 2147483647).toNat : Int) = _
  rw [BitVec.toNat_and, h1, h2, show (2147483647 : Nat) = 2 ^ 31 - 1 by rfl, Nat.and_two_pow_sub_one_eq_mod, IntKind.wrap_i64]
  omega
theorem hiN_le (a b : Nat) (ha : a ≤ 4611686018427387904) (hb : b ≤ 4611686018427387904) : L6.hiN a b ≤ 4611686018427387904 := by
  have h := (L6.hiN_in a b).1
  have m := Nat.mul_le_mul ha hb
  omega
theorem hiN_le_left (a b : Nat) (hb : b ≤ 4611686018427387904) : L6.hiN a b ≤ a := by
  have h := (L6.hiN_in a b).1
  have m := Nat.mul_le_mul (Nat.le_refl a) hb
  omega
set_option maxHeartbeats 1000000 in
theorem rHigh (a b : Nat) (w : World) (ha : a ≤ 4611686018427387904) (hb : b ≤ 4611686018427387904) :
    Calls Tryd.prog 123 #[.int .i64 (a : Int), .int .i64 (b : Int)] w fun e w' => e = .returned (.int .i64 (L6.hiN a b : Int)) ∧ w' = w := by
  unfold L6.hiN
  have a1 : a / 2147483648 ≤ 2147483648 := by omega
  have a0 : a % 2147483648 ≤ 2147483648 := by omega
  have b1 : b / 2147483648 ≤ 2147483648 := by omega
  have b0 : b % 2147483648 ≤ 2147483648 := by omega
  have f1 : (a : Int) / 2147483648 = ((a / 2147483648 : Nat) : Int) := by omega
  have f2 : bits .and .i64 (a : Int) 2147483647 = ((a % 2147483648 : Nat) : Int) := by rw [mask31]; omega
  have f3 : (b : Int) / 2147483648 = ((b / 2147483648 : Nat) : Int) := by omega
  have f4 : bits .and .i64 (b : Int) 2147483647 = ((b % 2147483648 : Nat) : Int) := by rw [mask31]; omega
  generalize a / 2147483648 = p at *
  generalize a % 2147483648 = q at *
  generalize b / 2147483648 = r at *
  generalize b % 2147483648 = s at *
  have m1 := Nat.mul_le_mul a1 b1
  have m2 := Nat.mul_le_mul a1 b0
  have m3 := Nat.mul_le_mul a0 b1
  have g1 : (p : Int) * (r : Int) = ((p * r : Nat) : Int) := by rw [Int.natCast_mul]
  have g2 : (p : Int) * (s : Int) = ((p * s : Nat) : Int) := by rw [Int.natCast_mul]
  have g3 : (q : Int) * (r : Int) = ((q * r : Nat) : Int) := by rw [Int.natCast_mul]
  generalize p * r = x at *
  generalize p * s = y at *
  generalize q * r = z at *
  have h1 : (y : Int) / 2147483648 = ((y / 2147483648 : Nat) : Int) := by omega
  have h2 : (z : Int) / 2147483648 = ((z / 2147483648 : Nat) : Int) := by omega
  have k1 : y / 2147483648 ≤ 2147483648 := by omega
  have k2 : z / 2147483648 ≤ 2147483648 := by omega
  have x1 : x ≤ 4611686018427387904 := by omega
  have y1 : y ≤ 4611686018427387904 := by omega
  have z1 : z ≤ 4611686018427387904 := by omega
  generalize y / 2147483648 = y' at *
  generalize z / 2147483648 = z' at *
  clear m1 m2 m3 a1 a0 b1 b0 ha hb
  go_enter Tryd.func123, Tryd.ntmps123
  go_wp2
  go_ret
  exact ⟨ret_int (by omega), rfl⟩
end Go.Proofs.YtndcjldnnfhedaaDoor

/- Trig: contract of the reference's quick. -/
namespace Go.Proofs.YtndcjldnnfhedaaDoor
open Go.RowKit
set_option linter.unusedVariables false
set_option maxRecDepth 100000

set_option maxHeartbeats 4000000 in
theorem rQuick_s (r : Nat) (w : World) (h : r ≤ 2700000) :
    Calls Tryd.prog 110 #[.int .i64 (r : Int), .bool false] w fun e w' => e = .returned (.int .i64 (L6.sinN (L6.xN r))) ∧ w' = w := by
  have hx := L6.xN_le r h
  have hst := L6.sin_stop r h
  have hv : L6.sinN (L6.xN r) = L6.alN (L6.xN r) (L6.hiN (L6.xN r) (L6.xN r)) 2 16 := rfl
  rw [hv]
  clear hv
  have ex : (r : Int) * 2620088056 * 512 + (r : Int) * 658911831 / 4194304 = ((L6.xN r : Nat) : Int) := by
    unfold L6.xN
    omega
  have C0 := Lib.hid (fun wx => rHigh (L6.xN r) (L6.xN r) wx hx hx)
  have hq := hiN_le (L6.xN r) (L6.xN r) hx hx
  obtain ⟨X, hX⟩ : ∃ X, L6.xN r = X := ⟨_, rfl⟩
  rw [hX] at ex C0 hq hst hx ⊢
  obtain ⟨Q, hQ⟩ : ∃ Q, L6.hiN X X = Q := ⟨_, rfl⟩
  rw [hQ] at C0 hq hst ⊢
  clear hX hQ
  have p1 : (r : Int) * 2620088056 ≤ 8000000000000000 := by omega
  have p2 : (r : Int) * 658911831 ≤ 2000000000000000 := by omega
  have p3 : 0 ≤ (r : Int) := by omega
  have HST := Lib.hid hst
  have HX := Lib.hid hx
  have HQ := Lib.hid hq
  clear hst
  go_enter Tryd.func110, Tryd.ntmps110
  go_wp2_with fail
  refine (C0.out _).mono ?_
  rintro e w1 ⟨rfl, rfl⟩
  clear p1 p2 p3 ex C0
  go_wp2_with fail
  go_loopg [7, 8, 9] 8 (fun m v7 v8 v9 wr => ∃ j : Nat, m = 8 - j ∧ v7 = .int .i64 ((L6.tmN X Q 2 (2 * j) : Nat) : Int) ∧ v8 = .int .i64 ((2 + 4 * j : Nat) : Int) ∧ v9 = .int .i64 (L6.alN X Q 2 (2 * j)) ∧ Hid (j ≤ 8) ∧ w1 = wr)
  case atStart => exact ⟨0, rfl, rfl, rfl, rfl, Nat.zero_le _, rfl⟩
  case round =>
    obtain ⟨j, hm, rfl, rfl, rfl, HJ, rfl⟩ := hrel
    have HM := Lib.hid hm
    clear hm
    have hj := HJ.out
    have hq := HQ.out
    have hx := HX.out
    obtain ⟨s1, s2⟩ := L6.al_even X Q 2 hq (by omega) j
    have u1 := L6.tm_first X Q 2 hq (by omega) (2 * j)
    by_cases hz : L6.tmN X Q 2 (2 * j) = 0
    · have HE := Lib.hid (L6.tm_zero X Q 2 (2 * j) hz (16 - 2 * j)).2
      have z1 : ¬ ((L6.tmN X Q 2 (2 * j) : Nat) : Int) > 0 := by omega
      obtain ⟨t, ht⟩ : ∃ t, L6.tmN X Q 2 (2 * j) = t := ⟨_, rfl⟩
      obtain ⟨s, hs⟩ : ∃ s, L6.alN X Q 2 (2 * j) = s := ⟨_, rfl⟩
      rw [ht] at z1 ⊢
      rw [hs] at HE ⊢
      clear ht hs hz u1 s1 s2 hx hq
      go_wp2_with fail
      go_ret
      refine ⟨?_, rfl⟩
      have e := HE.out
      rw [show 2 * j + (16 - 2 * j) = 16 by omega] at e
      rw [e]
      rfl
    · have hj7 : j < 8 := by
        refine Classical.byContradiction fun c => hz ?_
        have : j = 8 := by omega
        subst this
        exact HST.out
      have n1 : L6.tmN X Q 2 (2 * j + 1) = L6.hiN (L6.tmN X Q 2 (2 * j)) Q / ((2 + 4 * j) * (2 + 4 * j + 1)) := by
        show L6.hiN _ Q / L6.dv 2 (2 * j) = _
        unfold L6.dv
        rw [show 2 + 2 * (2 * j) = 2 + 4 * j by omega]
      have n2 : L6.tmN X Q 2 (2 * j + 2) = L6.hiN (L6.tmN X Q 2 (2 * j + 1)) Q / ((2 + 4 * j + 2) * (2 + 4 * j + 3)) := by
        show L6.hiN _ Q / L6.dv 2 (2 * j + 1) = _
        unfold L6.dv
        rw [show 2 + 2 * (2 * j + 1) = 2 + 4 * j + 2 by omega]
      have n3 := L6.al_next X Q 2 j
      obtain ⟨s3, s4⟩ := L6.al_even X Q 2 hq (by omega) (j + 1)
      rw [show 2 * (j + 1) = 2 * j + 2 by omega] at s3 s4
      have u2 := L6.tm_le X Q 2 hq (by omega) (2 * j)
      have u3 := L6.tm_first X Q 2 hq (by omega) (2 * j + 2)
      have C1 := Lib.hid (fun wx => rHigh (L6.tmN X Q 2 (2 * j)) Q wx (by omega) hq)
      have C2 := Lib.hid (fun wx => rHigh (L6.tmN X Q 2 (2 * j + 1)) Q wx (by omega) hq)
      have l1 := hiN_le_left (L6.tmN X Q 2 (2 * j)) Q hq
      have l2 := hiN_le_left (L6.tmN X Q 2 (2 * j + 1)) Q hq
      obtain ⟨d, hd⟩ : ∃ d, 2 + 4 * j = d := ⟨_, rfl⟩
      have d1 : 1 ≤ d := by omega
      have d2 : d ≤ 40 := by omega
      have HD := Lib.hid (show 2 + 4 * (j + 1) = d + 4 by omega)
      rw [hd] at n1 n2 ⊢
      clear hd
      have m1 := Nat.mul_le_mul d2 (show d + 1 ≤ 41 by omega)
      have m2 := Nat.mul_le_mul (show d + 2 ≤ 42 by omega) (show d + 3 ≤ 43 by omega)
      have m3 := Nat.mul_le_mul d1 (show 1 ≤ d + 1 by omega)
      have m4 := Nat.mul_le_mul (show 1 ≤ d + 2 by omega) (show 1 ≤ d + 3 by omega)
      have g1 : (d : Int) * ((d : Int) + 1) = ((d * (d + 1) : Nat) : Int) := by rw [Int.natCast_mul]; rfl
      have g2 : ((d : Int) + 2) * ((d : Int) + 3) = (((d + 2) * (d + 3) : Nat) : Int) := by rw [Int.natCast_mul]; rfl
      generalize d * (d + 1) = D1 at *
      generalize (d + 2) * (d + 3) = D2 at *
      have q1 : ((L6.hiN (L6.tmN X Q 2 (2 * j)) Q : Nat) : Int) / (D1 : Int) = ((L6.tmN X Q 2 (2 * j + 1) : Nat) : Int) := by rw [n1, Int.natCast_ediv]
      have q2 : ((L6.hiN (L6.tmN X Q 2 (2 * j + 1)) Q : Nat) : Int) / (D2 : Int) = ((L6.tmN X Q 2 (2 * j + 2) : Nat) : Int) := by rw [n2, Int.natCast_ediv]
      have e1 : ¬ (D1 : Int) = 0 := by omega
      have e2 : ¬ (D2 : Int) = 0 := by omega
      clear n1 n2
      generalize L6.hiN (L6.tmN X Q 2 (2 * j)) Q = H1 at *
      generalize L6.hiN (L6.tmN X Q 2 (2 * j + 1)) Q = H2 at *
      generalize hB : L6.alN X Q 2 (2 * j + 2) = B at *
      generalize hT2 : L6.tmN X Q 2 (2 * j + 2) = t2 at *
      generalize L6.tmN X Q 2 (2 * j + 1) = t1 at *
      generalize L6.tmN X Q 2 (2 * j) = t at *
      generalize L6.alN X Q 2 (2 * j) = A at *
      have z1 : (t : Int) > 0 := by omega
      have HB := Lib.hid hB
      have HT := Lib.hid hT2
      have b1 : A + (t : Int) ≤ 4611686018427387904 := by omega
      have b2 : A + (t : Int) - (t1 : Int) = B := by omega
      have b3 : B ≤ 4611686018427387904 := by omega
      have b4 : t1 ≤ 4611686018427387904 := by omega
      have b5 : t2 ≤ 4611686018427387904 := by omega
      have b6 : H1 ≤ 4611686018427387904 := by omega
      have b7 : H2 ≤ 4611686018427387904 := by omega
      have b8 : t ≤ 4611686018427387904 := by omega
      have b9 : D1 ≤ 2000 := by omega
      have b10 : D2 ≤ 2000 := by omega
      clear hB hT2 n3 s2 s4 u1 u2 u3 l1 l2 m1 m2 m3 m4 hz hx hq hj
      go_wp2_with fail
      refine (C1.out _).mono ?_
      rintro e w2 ⟨rfl, hww⟩
      replace hww := hww.symm
      subst hww
      go_wp2_with fail
      refine (C2.out _).mono ?_
      rintro e w2 ⟨rfl, hww⟩
      replace hww := hww.symm
      subst hww
      go_wp2_with fail
      go_roundg (8 - (j + 1))
      case measure => have := HM.out; omega
      case rel =>
        refine ⟨j + 1, rfl, ?_, ?_, ?_, by show j + 1 ≤ 8; omega, rfl⟩
        · rw [show 2 * (j + 1) = 2 * j + 2 by omega, HT.out]
        · rw [HD.out]; go_num
        · rw [show 2 * (j + 1) = 2 * j + 2 by omega, HB.out]

set_option maxHeartbeats 4000000 in
theorem rQuick_c (r : Nat) (w : World) (h : r ≤ 2700000) :
    Calls Tryd.prog 110 #[.int .i64 (r : Int), .bool true] w fun e w' => e = .returned (.int .i64 (L6.cosN (L6.xN r))) ∧ w' = w := by
  have hx := L6.xN_le r h
  have hst := L6.cos_stop r h
  have hv : L6.cosN (L6.xN r) = L6.alN 4611686018427387904 (L6.hiN (L6.xN r) (L6.xN r)) 1 16 := rfl
  rw [hv]
  clear hv
  have ex : (r : Int) * 2620088056 * 512 + (r : Int) * 658911831 / 4194304 = ((L6.xN r : Nat) : Int) := by
    unfold L6.xN
    omega
  have C0 := Lib.hid (fun wx => rHigh (L6.xN r) (L6.xN r) wx hx hx)
  have hq := hiN_le (L6.xN r) (L6.xN r) hx hx
  obtain ⟨X, hX⟩ : ∃ X, L6.xN r = X := ⟨_, rfl⟩
  rw [hX] at ex C0 hq hst hx ⊢
  obtain ⟨Q, hQ⟩ : ∃ Q, L6.hiN X X = Q := ⟨_, rfl⟩
  rw [hQ] at C0 hq hst ⊢
  clear hX hQ
  have p1 : (r : Int) * 2620088056 ≤ 8000000000000000 := by omega
  have p2 : (r : Int) * 658911831 ≤ 2000000000000000 := by omega
  have p3 : 0 ≤ (r : Int) := by omega
  have HST := Lib.hid hst
  have HX := Lib.hid hx
  have HQ := Lib.hid hq
  clear hst
  go_enter Tryd.func110, Tryd.ntmps110
  go_wp2_with fail
  refine (C0.out _).mono ?_
  rintro e w1 ⟨rfl, rfl⟩
  clear p1 p2 p3 ex C0
  go_wp2_with fail
  go_loopg [7, 8, 9] 8 (fun m v7 v8 v9 wr => ∃ j : Nat, m = 8 - j ∧ v7 = .int .i64 ((L6.tmN 4611686018427387904 Q 1 (2 * j) : Nat) : Int) ∧ v8 = .int .i64 ((1 + 4 * j : Nat) : Int) ∧ v9 = .int .i64 (L6.alN 4611686018427387904 Q 1 (2 * j)) ∧ Hid (j ≤ 8) ∧ w1 = wr)
  case atStart => exact ⟨0, rfl, rfl, rfl, rfl, Nat.zero_le _, rfl⟩
  case round =>
    obtain ⟨j, hm, rfl, rfl, rfl, HJ, rfl⟩ := hrel
    have HM := Lib.hid hm
    clear hm
    have hj := HJ.out
    have hq := HQ.out
    have hx := HX.out
    obtain ⟨s1, s2⟩ := L6.al_even 4611686018427387904 Q 1 hq (by omega) j
    have u1 := L6.tm_first 4611686018427387904 Q 1 hq (by omega) (2 * j)
    by_cases hz : L6.tmN 4611686018427387904 Q 1 (2 * j) = 0
    · have HE := Lib.hid (L6.tm_zero 4611686018427387904 Q 1 (2 * j) hz (16 - 2 * j)).2
      have z1 : ¬ ((L6.tmN 4611686018427387904 Q 1 (2 * j) : Nat) : Int) > 0 := by omega
      obtain ⟨t, ht⟩ : ∃ t, L6.tmN 4611686018427387904 Q 1 (2 * j) = t := ⟨_, rfl⟩
      obtain ⟨s, hs⟩ : ∃ s, L6.alN 4611686018427387904 Q 1 (2 * j) = s := ⟨_, rfl⟩
      rw [ht] at z1 ⊢
      rw [hs] at HE ⊢
      clear ht hs hz u1 s1 s2 hx hq
      go_wp2_with fail
      go_ret
      refine ⟨?_, rfl⟩
      have e := HE.out
      rw [show 2 * j + (16 - 2 * j) = 16 by omega] at e
      rw [e]
      rfl
    · have hj7 : j < 8 := by
        refine Classical.byContradiction fun c => hz ?_
        have : j = 8 := by omega
        subst this
        exact HST.out
      have n1 : L6.tmN 4611686018427387904 Q 1 (2 * j + 1) = L6.hiN (L6.tmN 4611686018427387904 Q 1 (2 * j)) Q / ((1 + 4 * j) * (1 + 4 * j + 1)) := by
        show L6.hiN _ Q / L6.dv 1 (2 * j) = _
        unfold L6.dv
        rw [show 1 + 2 * (2 * j) = 1 + 4 * j by omega]
      have n2 : L6.tmN 4611686018427387904 Q 1 (2 * j + 2) = L6.hiN (L6.tmN 4611686018427387904 Q 1 (2 * j + 1)) Q / ((1 + 4 * j + 2) * (1 + 4 * j + 3)) := by
        show L6.hiN _ Q / L6.dv 1 (2 * j + 1) = _
        unfold L6.dv
        rw [show 1 + 2 * (2 * j + 1) = 1 + 4 * j + 2 by omega]
      have n3 := L6.al_next 4611686018427387904 Q 1 j
      obtain ⟨s3, s4⟩ := L6.al_even 4611686018427387904 Q 1 hq (by omega) (j + 1)
      rw [show 2 * (j + 1) = 2 * j + 2 by omega] at s3 s4
      have u2 := L6.tm_le 4611686018427387904 Q 1 hq (by omega) (2 * j)
      have u3 := L6.tm_first 4611686018427387904 Q 1 hq (by omega) (2 * j + 2)
      have C1 := Lib.hid (fun wx => rHigh (L6.tmN 4611686018427387904 Q 1 (2 * j)) Q wx (by omega) hq)
      have C2 := Lib.hid (fun wx => rHigh (L6.tmN 4611686018427387904 Q 1 (2 * j + 1)) Q wx (by omega) hq)
      have l1 := hiN_le_left (L6.tmN 4611686018427387904 Q 1 (2 * j)) Q hq
      have l2 := hiN_le_left (L6.tmN 4611686018427387904 Q 1 (2 * j + 1)) Q hq
      obtain ⟨d, hd⟩ : ∃ d, 1 + 4 * j = d := ⟨_, rfl⟩
      have d1 : 1 ≤ d := by omega
      have d2 : d ≤ 40 := by omega
      have HD := Lib.hid (show 1 + 4 * (j + 1) = d + 4 by omega)
      rw [hd] at n1 n2 ⊢
      clear hd
      have m1 := Nat.mul_le_mul d2 (show d + 1 ≤ 41 by omega)
      have m2 := Nat.mul_le_mul (show d + 2 ≤ 42 by omega) (show d + 3 ≤ 43 by omega)
      have m3 := Nat.mul_le_mul d1 (show 1 ≤ d + 1 by omega)
      have m4 := Nat.mul_le_mul (show 1 ≤ d + 2 by omega) (show 1 ≤ d + 3 by omega)
      have g1 : (d : Int) * ((d : Int) + 1) = ((d * (d + 1) : Nat) : Int) := by rw [Int.natCast_mul]; rfl
      have g2 : ((d : Int) + 2) * ((d : Int) + 3) = (((d + 2) * (d + 3) : Nat) : Int) := by rw [Int.natCast_mul]; rfl
      generalize d * (d + 1) = D1 at *
      generalize (d + 2) * (d + 3) = D2 at *
      have q1 : ((L6.hiN (L6.tmN 4611686018427387904 Q 1 (2 * j)) Q : Nat) : Int) / (D1 : Int) = ((L6.tmN 4611686018427387904 Q 1 (2 * j + 1) : Nat) : Int) := by rw [n1, Int.natCast_ediv]
      have q2 : ((L6.hiN (L6.tmN 4611686018427387904 Q 1 (2 * j + 1)) Q : Nat) : Int) / (D2 : Int) = ((L6.tmN 4611686018427387904 Q 1 (2 * j + 2) : Nat) : Int) := by rw [n2, Int.natCast_ediv]
      have e1 : ¬ (D1 : Int) = 0 := by omega
      have e2 : ¬ (D2 : Int) = 0 := by omega
      clear n1 n2
      generalize L6.hiN (L6.tmN 4611686018427387904 Q 1 (2 * j)) Q = H1 at *
      generalize L6.hiN (L6.tmN 4611686018427387904 Q 1 (2 * j + 1)) Q = H2 at *
      generalize hB : L6.alN 4611686018427387904 Q 1 (2 * j + 2) = B at *
      generalize hT2 : L6.tmN 4611686018427387904 Q 1 (2 * j + 2) = t2 at *
      generalize L6.tmN 4611686018427387904 Q 1 (2 * j + 1) = t1 at *
      generalize L6.tmN 4611686018427387904 Q 1 (2 * j) = t at *
      generalize L6.alN 4611686018427387904 Q 1 (2 * j) = A at *
      have z1 : (t : Int) > 0 := by omega
      have HB := Lib.hid hB
      have HT := Lib.hid hT2
      have b1 : A + (t : Int) ≤ 4611686018427387904 := by omega
      have b2 : A + (t : Int) - (t1 : Int) = B := by omega
      have b3 : B ≤ 4611686018427387904 := by omega
      have b4 : t1 ≤ 4611686018427387904 := by omega
      have b5 : t2 ≤ 4611686018427387904 := by omega
      have b6 : H1 ≤ 4611686018427387904 := by omega
      have b7 : H2 ≤ 4611686018427387904 := by omega
      have b8 : t ≤ 4611686018427387904 := by omega
      have b9 : D1 ≤ 2000 := by omega
      have b10 : D2 ≤ 2000 := by omega
      clear hB hT2 n3 s2 s4 u1 u2 u3 l1 l2 m1 m2 m3 m4 hz hx hq hj
      go_wp2_with fail
      refine (C1.out _).mono ?_
      rintro e w2 ⟨rfl, hww⟩
      replace hww := hww.symm
      subst hww
      go_wp2_with fail
      refine (C2.out _).mono ?_
      rintro e w2 ⟨rfl, hww⟩
      replace hww := hww.symm
      subst hww
      go_wp2_with fail
      go_roundg (8 - (j + 1))
      case measure => have := HM.out; omega
      case rel =>
        refine ⟨j + 1, rfl, ?_, ?_, ?_, by show j + 1 ≤ 8; omega, rfl⟩
        · rw [show 2 * (j + 1) = 2 * j + 2 by omega, HT.out]
        · rw [HD.out]; go_num
        · rw [show 2 * (j + 1) = 2 * j + 2 by omega, HB.out]
end Go.Proofs.YtndcjldnnfhedaaDoor

/- Trig: contracts of the reference's Quick, Exact, Floor. -/
namespace Go.Proofs.YtndcjldnnfhedaaDoor
open Go.RowKit
set_option linter.unusedVariables false
set_option maxRecDepth 100000

/-- the remainder that Go's division leaves, and the one from 0 on -/
theorem tmodM (n : Int) : ∃ M : Nat, L6.mT n = (M : Int) ∧ M < 21600000 ∧ (n.tmod 21600000 < 0 → n.tmod 21600000 + 21600000 = (M : Int)) ∧ (¬ n.tmod 21600000 < 0 → n.tmod 21600000 = (M : Int)) ∧ -21600000 < n.tmod 21600000 := by
  have e := Int.tmod_add_mul_tdiv n 21600000
  have b1 := Int.tmod_lt_of_pos n (show (0 : Int) < 21600000 by omega)
  have b2 := Int.lt_tmod_of_pos n (show (0 : Int) < 21600000 by omega)
  have b3 := L6.m_in n
  unfold L6.mT at *
  refine ⟨(n % 21600000).toNat, ?_, ?_, ?_, ?_, b2⟩ <;> generalize n.tmod 21600000 = r at * <;> generalize n.tdiv 21600000 = q at * <;> omega
theorem rQuick (r : Nat) (c : Bool) (w : World) (h : r ≤ 2700000) :
    Calls Tryd.prog 110 #[.int .i64 (r : Int), .bool c] w fun e w' => e = .returned (.int .i64 (if c = true then L6.cosN (L6.xN r) else L6.sinN (L6.xN r))) ∧ w' = w := by
  cases c
  · rw [if_neg (by simp)]; exact rQuick_s r w h
  · rw [if_pos rfl]; exact rQuick_c r w h
theorem vk_in (n : Int) : -4611686018427387904 ≤ L6.vk n ∧ L6.vk n ≤ 4611686018427387904 := by
  have hr := L6.rr_in n
  have hx := L6.xN_le (L6.rr n) hr
  have hq := hiN_le (L6.xN (L6.rr n)) (L6.xN (L6.rr n)) hx hx
  unfold L6.vk
  split
  · have a := L6.al_even 4611686018427387904 (L6.hiN (L6.xN (L6.rr n)) (L6.xN (L6.rr n))) 1 hq (by omega) 8
    show -4611686018427387904 ≤ L6.alN _ _ _ (2 * 8) ∧ L6.alN _ _ _ (2 * 8) ≤ _
    omega
  · have a := L6.al_even (L6.xN (L6.rr n)) (L6.hiN (L6.xN (L6.rr n)) (L6.xN (L6.rr n))) 2 hq (by omega) 8
    show -4611686018427387904 ≤ L6.alN _ _ _ (2 * 8) ∧ L6.alN _ _ _ (2 * 8) ≤ _
    omega

set_option maxHeartbeats 2000000 in
theorem rQk_000 (n : Int) (M Q R r : Nat) (r0 v : Int) (c : Bool) (w : World) (h0 : n.tmod 21600000 = r0) (h1 : ¬ r0 < 0) (h2 : r0 = (M : Int)) (h2' : -21600000 < r0) (hM : M < 21600000) (hQ : (M : Int) / 5400000 = (Q : Int)) (hR : (M : Int) % 5400000 = (R : Int)) (hP : ((Q : Int) % 2 == 1) = c)
    (hfar : ¬ (R : Int) > 2700000) (hbig : ¬ (Q : Int) ≥ 2) (hr : (R : Int) = (r : Int)) (C : ∀ wx, Calls Tryd.prog 110 #[.int .i64 (r : Int), .bool c] wx fun e w' => e = .returned (.int .i64 v) ∧ w' = wx) (v1 : -4611686018427387904 ≤ v) (v2 : v ≤ 4611686018427387904) (hq3 : Q ≤ 3) (hR2 : R < 5400000) :
    Calls Tryd.prog 98 #[.int .i64 n] w fun e w' => e = .returned (.int .i64 (v)) ∧ w' = w := by
  have CC := Lib.hid C
  clear C
  go_enter Tryd.func98, Tryd.ntmps98
  go_wp2_with fail
  refine (CC.out _).mono ?_
  rintro e w1 ⟨rfl, rfl⟩
  go_wp2_with fail
  go_ret
  exact ⟨ret_int (by go_num), rfl⟩

set_option maxHeartbeats 2000000 in
theorem rQk_001 (n : Int) (M Q R r : Nat) (r0 v : Int) (c : Bool) (w : World) (h0 : n.tmod 21600000 = r0) (h1 : ¬ r0 < 0) (h2 : r0 = (M : Int)) (h2' : -21600000 < r0) (hM : M < 21600000) (hQ : (M : Int) / 5400000 = (Q : Int)) (hR : (M : Int) % 5400000 = (R : Int)) (hP : ((Q : Int) % 2 == 1) = c)
    (hfar : ¬ (R : Int) > 2700000) (hbig : (Q : Int) ≥ 2) (hr : (R : Int) = (r : Int)) (C : ∀ wx, Calls Tryd.prog 110 #[.int .i64 (r : Int), .bool c] wx fun e w' => e = .returned (.int .i64 v) ∧ w' = wx) (v1 : -4611686018427387904 ≤ v) (v2 : v ≤ 4611686018427387904) (hq3 : Q ≤ 3) (hR2 : R < 5400000) :
    Calls Tryd.prog 98 #[.int .i64 n] w fun e w' => e = .returned (.int .i64 (-v)) ∧ w' = w := by
  have CC := Lib.hid C
  clear C
  go_enter Tryd.func98, Tryd.ntmps98
  go_wp2_with fail
  refine (CC.out _).mono ?_
  rintro e w1 ⟨rfl, rfl⟩
  go_wp2_with fail
  go_ret
  exact ⟨ret_int (by go_num), rfl⟩

set_option maxHeartbeats 2000000 in
theorem rQk_010 (n : Int) (M Q R r : Nat) (r0 v : Int) (c : Bool) (w : World) (h0 : n.tmod 21600000 = r0) (h1 : ¬ r0 < 0) (h2 : r0 = (M : Int)) (h2' : -21600000 < r0) (hM : M < 21600000) (hQ : (M : Int) / 5400000 = (Q : Int)) (hR : (M : Int) % 5400000 = (R : Int)) (hP : ((Q : Int) % 2 == 1) = c)
    (hfar : (R : Int) > 2700000) (hbig : ¬ (Q : Int) ≥ 2) (hr : 5400000 - (R : Int) = (r : Int)) (C : ∀ wx, Calls Tryd.prog 110 #[.int .i64 (r : Int), .bool (!c)] wx fun e w' => e = .returned (.int .i64 v) ∧ w' = wx) (v1 : -4611686018427387904 ≤ v) (v2 : v ≤ 4611686018427387904) (hq3 : Q ≤ 3) (hR2 : R < 5400000) :
    Calls Tryd.prog 98 #[.int .i64 n] w fun e w' => e = .returned (.int .i64 (v)) ∧ w' = w := by
  have CC := Lib.hid C
  clear C
  go_enter Tryd.func98, Tryd.ntmps98
  go_wp2_with fail
  refine (CC.out _).mono ?_
  rintro e w1 ⟨rfl, rfl⟩
  go_wp2_with fail
  go_ret
  exact ⟨ret_int (by go_num), rfl⟩

set_option maxHeartbeats 2000000 in
theorem rQk_011 (n : Int) (M Q R r : Nat) (r0 v : Int) (c : Bool) (w : World) (h0 : n.tmod 21600000 = r0) (h1 : ¬ r0 < 0) (h2 : r0 = (M : Int)) (h2' : -21600000 < r0) (hM : M < 21600000) (hQ : (M : Int) / 5400000 = (Q : Int)) (hR : (M : Int) % 5400000 = (R : Int)) (hP : ((Q : Int) % 2 == 1) = c)
    (hfar : (R : Int) > 2700000) (hbig : (Q : Int) ≥ 2) (hr : 5400000 - (R : Int) = (r : Int)) (C : ∀ wx, Calls Tryd.prog 110 #[.int .i64 (r : Int), .bool (!c)] wx fun e w' => e = .returned (.int .i64 v) ∧ w' = wx) (v1 : -4611686018427387904 ≤ v) (v2 : v ≤ 4611686018427387904) (hq3 : Q ≤ 3) (hR2 : R < 5400000) :
    Calls Tryd.prog 98 #[.int .i64 n] w fun e w' => e = .returned (.int .i64 (-v)) ∧ w' = w := by
  have CC := Lib.hid C
  clear C
  go_enter Tryd.func98, Tryd.ntmps98
  go_wp2_with fail
  refine (CC.out _).mono ?_
  rintro e w1 ⟨rfl, rfl⟩
  go_wp2_with fail
  go_ret
  exact ⟨ret_int (by go_num), rfl⟩

set_option maxHeartbeats 2000000 in
theorem rQk_100 (n : Int) (M Q R r : Nat) (r0 v : Int) (c : Bool) (w : World) (h0 : n.tmod 21600000 = r0) (h1 : r0 < 0) (h2 : r0 + 21600000 = (M : Int)) (h2' : -21600000 < r0) (hM : M < 21600000) (hQ : (M : Int) / 5400000 = (Q : Int)) (hR : (M : Int) % 5400000 = (R : Int)) (hP : ((Q : Int) % 2 == 1) = c)
    (hfar : ¬ (R : Int) > 2700000) (hbig : ¬ (Q : Int) ≥ 2) (hr : (R : Int) = (r : Int)) (C : ∀ wx, Calls Tryd.prog 110 #[.int .i64 (r : Int), .bool c] wx fun e w' => e = .returned (.int .i64 v) ∧ w' = wx) (v1 : -4611686018427387904 ≤ v) (v2 : v ≤ 4611686018427387904) (hq3 : Q ≤ 3) (hR2 : R < 5400000) :
    Calls Tryd.prog 98 #[.int .i64 n] w fun e w' => e = .returned (.int .i64 (v)) ∧ w' = w := by
  have CC := Lib.hid C
  clear C
  go_enter Tryd.func98, Tryd.ntmps98
  go_wp2_with fail
  refine (CC.out _).mono ?_
  rintro e w1 ⟨rfl, rfl⟩
  go_wp2_with fail
  go_ret
  exact ⟨ret_int (by go_num), rfl⟩

set_option maxHeartbeats 2000000 in
theorem rQk_101 (n : Int) (M Q R r : Nat) (r0 v : Int) (c : Bool) (w : World) (h0 : n.tmod 21600000 = r0) (h1 : r0 < 0) (h2 : r0 + 21600000 = (M : Int)) (h2' : -21600000 < r0) (hM : M < 21600000) (hQ : (M : Int) / 5400000 = (Q : Int)) (hR : (M : Int) % 5400000 = (R : Int)) (hP : ((Q : Int) % 2 == 1) = c)
    (hfar : ¬ (R : Int) > 2700000) (hbig : (Q : Int) ≥ 2) (hr : (R : Int) = (r : Int)) (C : ∀ wx, Calls Tryd.prog 110 #[.int .i64 (r : Int), .bool c] wx fun e w' => e = .returned (.int .i64 v) ∧ w' = wx) (v1 : -4611686018427387904 ≤ v) (v2 : v ≤ 4611686018427387904) (hq3 : Q ≤ 3) (hR2 : R < 5400000) :
    Calls Tryd.prog 98 #[.int .i64 n] w fun e w' => e = .returned (.int .i64 (-v)) ∧ w' = w := by
  have CC := Lib.hid C
  clear C
  go_enter Tryd.func98, Tryd.ntmps98
  go_wp2_with fail
  refine (CC.out _).mono ?_
  rintro e w1 ⟨rfl, rfl⟩
  go_wp2_with fail
  go_ret
  exact ⟨ret_int (by go_num), rfl⟩

set_option maxHeartbeats 2000000 in
theorem rQk_110 (n : Int) (M Q R r : Nat) (r0 v : Int) (c : Bool) (w : World) (h0 : n.tmod 21600000 = r0) (h1 : r0 < 0) (h2 : r0 + 21600000 = (M : Int)) (h2' : -21600000 < r0) (hM : M < 21600000) (hQ : (M : Int) / 5400000 = (Q : Int)) (hR : (M : Int) % 5400000 = (R : Int)) (hP : ((Q : Int) % 2 == 1) = c)
    (hfar : (R : Int) > 2700000) (hbig : ¬ (Q : Int) ≥ 2) (hr : 5400000 - (R : Int) = (r : Int)) (C : ∀ wx, Calls Tryd.prog 110 #[.int .i64 (r : Int), .bool (!c)] wx fun e w' => e = .returned (.int .i64 v) ∧ w' = wx) (v1 : -4611686018427387904 ≤ v) (v2 : v ≤ 4611686018427387904) (hq3 : Q ≤ 3) (hR2 : R < 5400000) :
    Calls Tryd.prog 98 #[.int .i64 n] w fun e w' => e = .returned (.int .i64 (v)) ∧ w' = w := by
  have CC := Lib.hid C
  clear C
  go_enter Tryd.func98, Tryd.ntmps98
  go_wp2_with fail
  refine (CC.out _).mono ?_
  rintro e w1 ⟨rfl, rfl⟩
  go_wp2_with fail
  go_ret
  exact ⟨ret_int (by go_num), rfl⟩

set_option maxHeartbeats 2000000 in
theorem rQk_111 (n : Int) (M Q R r : Nat) (r0 v : Int) (c : Bool) (w : World) (h0 : n.tmod 21600000 = r0) (h1 : r0 < 0) (h2 : r0 + 21600000 = (M : Int)) (h2' : -21600000 < r0) (hM : M < 21600000) (hQ : (M : Int) / 5400000 = (Q : Int)) (hR : (M : Int) % 5400000 = (R : Int)) (hP : ((Q : Int) % 2 == 1) = c)
    (hfar : (R : Int) > 2700000) (hbig : (Q : Int) ≥ 2) (hr : 5400000 - (R : Int) = (r : Int)) (C : ∀ wx, Calls Tryd.prog 110 #[.int .i64 (r : Int), .bool (!c)] wx fun e w' => e = .returned (.int .i64 v) ∧ w' = wx) (v1 : -4611686018427387904 ≤ v) (v2 : v ≤ 4611686018427387904) (hq3 : Q ≤ 3) (hR2 : R < 5400000) :
    Calls Tryd.prog 98 #[.int .i64 n] w fun e w' => e = .returned (.int .i64 (-v)) ∧ w' = w := by
  have CC := Lib.hid C
  clear C
  go_enter Tryd.func98, Tryd.ntmps98
  go_wp2_with fail
  refine (CC.out _).mono ?_
  rintro e w1 ⟨rfl, rfl⟩
  go_wp2_with fail
  go_ret
  exact ⟨ret_int (by go_num), rfl⟩

theorem rQuickN (n : Int) (w : World) : Calls Tryd.prog 98 #[.int .i64 n] w fun e w' => e = .returned (.int .i64 (L6.qk n)) ∧ w' = w := by
  obtain ⟨M, hm, hM, t1, t2, t3⟩ := tmodM n
  obtain ⟨Q, hQ⟩ : ∃ Q : Nat, M / 5400000 = Q := ⟨_, rfl⟩
  obtain ⟨R, hR⟩ : ∃ R : Nat, M % 5400000 = R := ⟨_, rfl⟩
  have iQ : (M : Int) / 5400000 = (Q : Int) := by omega
  have iR : (M : Int) % 5400000 = (R : Int) := by omega
  have q3 : Q ≤ 3 := by omega
  have r2 : R < 5400000 := by omega
  have eq : L6.qd n = (Q : Int) := by unfold L6.qd; rw [hm]; exact iQ
  have er : L6.rd n = (R : Int) := by unfold L6.rd; rw [hm]; exact iR
  have ef : L6.far n = decide (2700000 < (R : Int)) := by unfold L6.far; rw [er]
  obtain ⟨c, hc⟩ : ∃ c, ((Q : Int) % 2 == 1) = c := ⟨_, rfl⟩
  have ec : L6.co n = xor c (decide (2700000 < (R : Int))) := by
    unfold L6.co
    rw [eq, ef, ← hc]
    congr 1
  have ei := L6.rr_int n
  rw [er, ef] at ei
  have hv := vk_in n
  have C := fun wx => rQuick (L6.rr n) (L6.co n) wx (L6.rr_in n)
  have ev : (if L6.co n = true then L6.cosN (L6.xN (L6.rr n)) else L6.sinN (L6.xN (L6.rr n))) = L6.vk n := rfl
  rw [ev] at C
  have ek : L6.qk n = if 2 ≤ (Q : Int) then -L6.vk n else L6.vk n := by unfold L6.qk; rw [eq]
  rw [ek]
  generalize L6.vk n = v at *
  generalize L6.rr n = r at *
  obtain ⟨r0, hr0⟩ : ∃ r0, n.tmod 21600000 = r0 := ⟨_, rfl⟩
  rw [hr0] at t1 t2 t3
  by_cases hf : (R : Int) > 2700000
  · rw [ec, decide_eq_true (show 2700000 < (R : Int) from hf), Bool.xor_true] at C
    rw [decide_eq_true (show 2700000 < (R : Int) from hf), if_pos rfl] at ei
    by_cases hb : (Q : Int) ≥ 2
    · rw [if_pos (show 2 ≤ (Q : Int) from hb)]
      by_cases h : r0 < 0
      · exact rQk_111 n M Q R r r0 v c w hr0 h (t1 h) t3 hM iQ iR hc hf hb ei.symm C hv.1 hv.2 q3 r2
      · exact rQk_011 n M Q R r r0 v c w hr0 h (t2 h) t3 hM iQ iR hc hf hb ei.symm C hv.1 hv.2 q3 r2
    · rw [if_neg (show ¬ 2 ≤ (Q : Int) from hb)]
      by_cases h : r0 < 0
      · exact rQk_110 n M Q R r r0 v c w hr0 h (t1 h) t3 hM iQ iR hc hf hb ei.symm C hv.1 hv.2 q3 r2
      · exact rQk_010 n M Q R r r0 v c w hr0 h (t2 h) t3 hM iQ iR hc hf hb ei.symm C hv.1 hv.2 q3 r2
  · rw [ec, decide_eq_false (show ¬ 2700000 < (R : Int) from hf), Bool.xor_false] at C
    rw [decide_eq_false (show ¬ 2700000 < (R : Int) from hf), if_neg (by simp)] at ei
    by_cases hb : (Q : Int) ≥ 2
    · rw [if_pos (show 2 ≤ (Q : Int) from hb)]
      by_cases h : r0 < 0
      · exact rQk_101 n M Q R r r0 v c w hr0 h (t1 h) t3 hM iQ iR hc hf hb ei.symm C hv.1 hv.2 q3 r2
      · exact rQk_001 n M Q R r r0 v c w hr0 h (t2 h) t3 hM iQ iR hc hf hb ei.symm C hv.1 hv.2 q3 r2
    · rw [if_neg (show ¬ 2 ≤ (Q : Int) from hb)]
      by_cases h : r0 < 0
      · exact rQk_100 n M Q R r r0 v c w hr0 h (t1 h) t3 hM iQ iR hc hf hb ei.symm C hv.1 hv.2 q3 r2
      · exact rQk_000 n M Q R r r0 v c w hr0 h (t2 h) t3 hM iQ iR hc hf hb ei.symm C hv.1 hv.2 q3 r2

theorem exV_k (k : Int) (n : Int) (hm : L6.mT n = 1800000 * k) (h0 : 0 ≤ k) (h1 : k ≤ 11) (x : Bool) (hx : x = !(decide (k % 6 = 2) || decide (k % 6 = 4))) : L6.ex n = x ∧ L6.mT n / 1800000 = k := by
  have e : L6.mT n / 1800000 = k := by omega
  refine ⟨?_, e⟩
  unfold L6.ex
  rw [e, hm, hx, decide_eq_true (by omega), Bool.true_and]
theorem qk_in (n : Int) : -4611686018427387904 ≤ L6.qk n ∧ L6.qk n ≤ 4611686018427387904 := by
  have := vk_in n
  unfold L6.qk
  split <;> omega
end Go.Proofs.YtndcjldnnfhedaaDoor

/- Trig: contracts of the reference's ends, haversine, Below, has, Valid, sine, Sin, Cos, Hav. -/
namespace Go.Proofs.YtndcjldnnfhedaaDoor
open Go.RowKit
set_option linter.unusedVariables false
set_option maxRecDepth 100000

theorem fl_in (n : Int) : -1073741824 ≤ L6.fl n ∧ L6.fl n ≤ 1073741824 := by
  have h := qk_in n
  unfold L6.fl
  split
  · unfold L6.exV
    split
    · omega
    · split
      · omega
      · split
        · omega
        · split <;> omega
  · omega
/-- haversines of single angles -/
def hvL (n : Int) : Int := if L6.ex (n + 5400000) = true then (1073741824 - L6.fl (n + 5400000)) / 2 else (1073741824 - L6.fl (n + 5400000) - 1) / 2
def hvH (n : Int) : Int := if L6.ex (n + 5400000) = true then (1073741824 - L6.fl (n + 5400000)) / 2 else (1073741824 - L6.fl (n + 5400000) - 1) / 2 + 1
theorem fl_no_top (n : Int) (h : L6.ex n = false) : L6.fl n ≤ 1073741823 := by
  obtain ⟨q1, q2⟩ := L6.qk_near n
  obtain ⟨-, m1, m2⟩ := L6.fl_of n h (L6.qk n) 140 (by omega) ⟨q1, q2⟩
  have b : L6.sgn n (L6.bs n) ≤ 1 := by
    have c := L6.cz_in (L6.rr n)
    have s := L6.sz_in (L6.rr n)
    unfold L6.sgn L6.bs
    split <;> split <;> grind
  refine L6.int_le_of ?_
  have e : ((1073741823 : Int) : Rat) = 1073741823 := rfl
  rw [e]
  have d : (0 : Rat) < L6.dl := by decide +kernel
  generalize L6.sgn n (L6.bs n) = x at *
  generalize L6.dl = dd at *
  grind
/-- the sine against a number -/
def blN (n v : Int) : Int := if L6.ex n = true ∧ L6.fl n = v then 0 else if v ≤ L6.fl n then 1 else -1
end Go.Proofs.YtndcjldnnfhedaaDoor

/- Trig: contracts of the reference's Valid, sine, Sin, Cos, Hav. -/
namespace Go.Proofs.YtndcjldnnfhedaaDoor
open Go.RowKit
set_option linter.unusedVariables false
set_option maxRecDepth 100000

/-- one store into a block of two -/
theorem At2.put0 {w : World} {b : Nat} {x y : Value} (h : At2 w b x y) (u : Value) : At2 (w.setCell ⟨b, 0, none⟩ u) b u y :=
  ⟨World.cell?_setCell_same _ _ _ h.c0, (World.cell?_setCell_other _ _ _ _ (by simp)).trans h.c1, (World.frozen?_setCell _ _ _ _).trans h.f0, (World.frozen?_setCell _ _ _ _).trans h.f1, by simpa [World.setCell] using h.lt⟩
theorem At2.put1 {w : World} {b : Nat} {x y : Value} (h : At2 w b x y) (u : Value) : At2 (w.setCell ⟨b, 1, none⟩ u) b x u :=
  ⟨(World.cell?_setCell_other _ _ _ _ (by simp)).trans h.c0, World.cell?_setCell_same _ _ _ h.c1, (World.frozen?_setCell _ _ _ _).trans h.f0, (World.frozen?_setCell _ _ _ _).trans h.f1, by simpa [World.setCell] using h.lt⟩
theorem At2.off {w : World} {b c k : Nat} {x y : Value} (h : At2 w b x y) (hne : b ≠ c) (u : Value) : At2 (w.setCell ⟨c, k, none⟩ u) b x y :=
  ⟨(World.cell?_setCell_other _ _ _ _ (by simp; try omega)).trans h.c0, (World.cell?_setCell_other _ _ _ _ (by simp; try omega)).trans h.c1, (World.frozen?_setCell _ _ _ _).trans h.f0, (World.frozen?_setCell _ _ _ _).trans h.f1, by simpa [World.setCell] using h.lt⟩
/-- haversines over arcs -/
def hL (a b : Int) : Int := if L6.has a b 0 = true then 0 else min (hvL a) (hvL b)
def hH (a b : Int) : Int := if L6.has a b 10800000 = true then 1073741824 else max (hvH a) (hvH b)

end Go.Proofs.YtndcjldnnfhedaaDoor

/- Trig: what is asked of the program's functions, by their plain answers; the law's examples. -/
namespace Go.Proofs.YtndcjldnnfhedaaDoor
open Go.RowKit
set_option linter.unusedVariables false
set_option maxRecDepth 100000

/-- the answer, if the arc is valid -/
def vTr (r : Bool) (l h : Int) : Value := if r = true then .tuple #[.agg #[.int .i64 l, .int .i64 h], .int .i64 0] else .tuple #[.agg #[.int .i64 0, .int .i64 0], .int .i64 1]
theorem vTr_yes {r : Bool} (l h : Int) (k : r = true) : vTr r l h = .tuple #[.agg #[.int .i64 l, .int .i64 h], .int .i64 0] := if_pos k
theorem vTr_no {r : Bool} (l h : Int) (k : r = false) : vTr r l h = .tuple #[.agg #[.int .i64 0, .int .i64 0], .int .i64 1] := if_neg (by rw [k]; simp)
/-- whole numbers of 64 bits -/
abbrev I64 (n : Int) : Prop := -9223372036854775808 ≤ n ∧ n ≤ 9223372036854775807
/-- the program's functions answer as they should -/
structure TrProg (w : World) : Prop where
  below : ∀ (n v : Int) (wx : World), Below w.heap.size w wx → I64 n → I64 v → Calls Tryd.prog 50 #[.int .i64 n, .int .i64 v] wx fun e w' => e = .returned (.int .i64 (blN n v)) ∧ Below wx.heap.size wx w'
theorem toldV {f : Nat} {args : Array Value} {w : World} {v : Value} (v' : Value) (e : v = v') (C : Calls Tryd.prog f args w fun e w' => e = .returned v ∧ Below w.heap.size w w') :
    Calls Tryd.prog f args w fun e w' => e = .returned v' ∧ Below w.heap.size w w' := by
  rw [e] at C; exact C
theorem tell_s1 : L6.sL 2700000 2700000 = 759250124 ∧ L6.sH 2700000 2700000 = 759250125 := by decide +kernel
theorem tell_s2 : L6.sL 0 7200000 = 0 ∧ L6.sH 0 7200000 = 1073741824 := by decide +kernel
theorem tell_s3 : L6.sL 5400000 12600000 = -536870912 ∧ L6.sH 5400000 12600000 = 1073741824 := by decide +kernel
theorem tell_b : blN 2700000 759250125 = -1 ∧ blN 1800000 536870912 = 0 := by decide +kernel
end Go.Proofs.YtndcjldnnfhedaaDoor
