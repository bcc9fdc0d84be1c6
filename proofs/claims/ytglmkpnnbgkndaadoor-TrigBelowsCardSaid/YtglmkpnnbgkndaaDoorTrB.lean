/- Trig: contract of the reference's quick. -/
import Derived.Test.YtglmkpnnbgkndaaDoorTrA
import Derived.Test.YtglmkpnnbgkndaaDoorTg16
namespace Go.Proofs.YtglmkpnnbgkndaaDoor
open Go.RowKit
set_option linter.unusedVariables false
set_option maxRecDepth 100000

set_option maxHeartbeats 4000000 in
theorem rQuick_s (r : Nat) (w : World) (h : r ≤ 2700000) :
    Calls Tryd.prog 65 #[.int .i64 (r : Int), .bool false] w fun e w' => e = .returned (.int .i64 (L6.sinN (L6.xN r))) ∧ w' = w := by
  have hx := L6.xN_le r h
  have hst := L6.sin_stop r h
  have hv : L6.sinN (L6.xN r) = L6.alN (L6.xN r) (L6.hiN (L6.xN r) (L6.xN r)) 2 16 := rfl
  rw [hv]
  clear hv
  have ex : (r : Int) * 2620088056 * 512 + (r : Int) * 658911831 / 4194304 = ((L6.xN r : Nat) : Int) := by
    unfold L6.xN
    omega
  have C0 := Lib.hid (fun wx => rHigh (L6.xN r) (L6.xN r) wx hx hx)
  have hq := hiN_le (L6.xN r) (L6.xN r) hx hx
  obtain ⟨X, hX⟩ : ∃ X, L6.xN r = X := ⟨_, rfl⟩
  rw [hX] at ex C0 hq hst hx ⊢
  obtain ⟨Q, hQ⟩ : ∃ Q, L6.hiN X X = Q := ⟨_, rfl⟩
  rw [hQ] at C0 hq hst ⊢
  clear hX hQ
  have p1 : (r : Int) * 2620088056 ≤ 8000000000000000 := by omega
  have p2 : (r : Int) * 658911831 ≤ 2000000000000000 := by omega
  have p3 : 0 ≤ (r : Int) := by omega
  have HST := Lib.hid hst
  have HX := Lib.hid hx
  have HQ := Lib.hid hq
  clear hst
  go_enter Tryd.func65, Tryd.ntmps65
  go_wp2_with fail
  refine (C0.out _).mono ?_
  rintro e w1 ⟨rfl, rfl⟩
  clear p1 p2 p3 ex C0
  go_wp2_with fail
  go_loopg [7, 8, 9] 8 (fun m v7 v8 v9 wr => ∃ j : Nat, m = 8 - j ∧ v7 = .int .i64 ((L6.tmN X Q 2 (2 * j) : Nat) : Int) ∧ v8 = .int .i64 ((2 + 4 * j : Nat) : Int) ∧ v9 = .int .i64 (L6.alN X Q 2 (2 * j)) ∧ Hid (j ≤ 8) ∧ w1 = wr)
  case atStart => exact ⟨0, rfl, rfl, rfl, rfl, Nat.zero_le _, rfl⟩
  case round =>
    obtain ⟨j, hm, rfl, rfl, rfl, HJ, rfl⟩ := hrel
    have HM := Lib.hid hm
    clear hm
    have hj := HJ.out
    have hq := HQ.out
    have hx := HX.out
    obtain ⟨s1, s2⟩ := L6.al_even X Q 2 hq (by omega) j
    have u1 := L6.tm_first X Q 2 hq (by omega) (2 * j)
    by_cases hz : L6.tmN X Q 2 (2 * j) = 0
    · have HE := Lib.hid (L6.tm_zero X Q 2 (2 * j) hz (16 - 2 * j)).2
      have z1 : ¬ ((L6.tmN X Q 2 (2 * j) : Nat) : Int) > 0 := by omega
      obtain ⟨t, ht⟩ : ∃ t, L6.tmN X Q 2 (2 * j) = t := ⟨_, rfl⟩
      obtain ⟨s, hs⟩ : ∃ s, L6.alN X Q 2 (2 * j) = s := ⟨_, rfl⟩
      rw [ht] at z1 ⊢
      rw [hs] at HE ⊢
      clear ht hs hz u1 s1 s2 hx hq
      go_wp2_with fail
      go_ret
      refine ⟨?_, rfl⟩
      have e := HE.out
      rw [show 2 * j + (16 - 2 * j) = 16 by omega] at e
      rw [e]
      rfl
    · have hj7 : j < 8 := by
        refine Classical.byContradiction fun c => hz ?_
        have : j = 8 := by omega
        subst this
        exact HST.out
      have n1 : L6.tmN X Q 2 (2 * j + 1) = L6.hiN (L6.tmN X Q 2 (2 * j)) Q / ((2 + 4 * j) * (2 + 4 * j + 1)) := by
        show L6.hiN _ Q / L6.dv 2 (2 * j) = _
        unfold L6.dv
        rw [show 2 + 2 * (2 * j) = 2 + 4 * j by omega]
      have n2 : L6.tmN X Q 2 (2 * j + 2) = L6.hiN (L6.tmN X Q 2 (2 * j + 1)) Q / ((2 + 4 * j + 2) * (2 + 4 * j + 3)) := by
        show L6.hiN _ Q / L6.dv 2 (2 * j + 1) = _
        unfold L6.dv
        rw [show 2 + 2 * (2 * j + 1) = 2 + 4 * j + 2 by omega]
      have n3 := L6.al_next X Q 2 j
      obtain ⟨s3, s4⟩ := L6.al_even X Q 2 hq (by omega) (j + 1)
      rw [show 2 * (j + 1) = 2 * j + 2 by omega] at s3 s4
      have u2 := L6.tm_le X Q 2 hq (by omega) (2 * j)
      have u3 := L6.tm_first X Q 2 hq (by omega) (2 * j + 2)
      have C1 := Lib.hid (fun wx => rHigh (L6.tmN X Q 2 (2 * j)) Q wx (by omega) hq)
      have C2 := Lib.hid (fun wx => rHigh (L6.tmN X Q 2 (2 * j + 1)) Q wx (by omega) hq)
      have l1 := hiN_le_left (L6.tmN X Q 2 (2 * j)) Q hq
      have l2 := hiN_le_left (L6.tmN X Q 2 (2 * j + 1)) Q hq
      obtain ⟨d, hd⟩ : ∃ d, 2 + 4 * j = d := ⟨_, rfl⟩
      have d1 : 1 ≤ d := by omega
      have d2 : d ≤ 40 := by omega
      have HD := Lib.hid (show 2 + 4 * (j + 1) = d + 4 by omega)
      rw [hd] at n1 n2 ⊢
      clear hd
      have m1 := Nat.mul_le_mul d2 (show d + 1 ≤ 41 by omega)
      have m2 := Nat.mul_le_mul (show d + 2 ≤ 42 by omega) (show d + 3 ≤ 43 by omega)
      have m3 := Nat.mul_le_mul d1 (show 1 ≤ d + 1 by omega)
      have m4 := Nat.mul_le_mul (show 1 ≤ d + 2 by omega) (show 1 ≤ d + 3 by omega)
      have g1 : (d : Int) * ((d : Int) + 1) = ((d * (d + 1) : Nat) : Int) := by rw [Int.natCast_mul]; rfl
      have g2 : ((d : Int) + 2) * ((d : Int) + 3) = (((d + 2) * (d + 3) : Nat) : Int) := by rw [Int.natCast_mul]; rfl
      generalize d * (d + 1) = D1 at *
      generalize (d + 2) * (d + 3) = D2 at *
      have q1 : ((L6.hiN (L6.tmN X Q 2 (2 * j)) Q : Nat) : Int) / (D1 : Int) = ((L6.tmN X Q 2 (2 * j + 1) : Nat) : Int) := by rw [n1, Int.natCast_ediv]
      have q2 : ((L6.hiN (L6.tmN X Q 2 (2 * j + 1)) Q : Nat) : Int) / (D2 : Int) = ((L6.tmN X Q 2 (2 * j + 2) : Nat) : Int) := by rw [n2, Int.natCast_ediv]
      have e1 : ¬ (D1 : Int) = 0 := by omega
      have e2 : ¬ (D2 : Int) = 0 := by omega
      clear n1 n2
      generalize L6.hiN (L6.tmN X Q 2 (2 * j)) Q = H1 at *
      generalize L6.hiN (L6.tmN X Q 2 (2 * j + 1)) Q = H2 at *
      generalize hB : L6.alN X Q 2 (2 * j + 2) = B at *
      generalize hT2 : L6.tmN X Q 2 (2 * j + 2) = t2 at *
      generalize L6.tmN X Q 2 (2 * j + 1) = t1 at *
      generalize L6.tmN X Q 2 (2 * j) = t at *
      generalize L6.alN X Q 2 (2 * j) = A at *
      have z1 : (t : Int) > 0 := by omega
      have HB := Lib.hid hB
      have HT := Lib.hid hT2
      have b1 : A + (t : Int) ≤ 4611686018427387904 := by omega
      have b2 : A + (t : Int) - (t1 : Int) = B := by omega
      have b3 : B ≤ 4611686018427387904 := by omega
      have b4 : t1 ≤ 4611686018427387904 := by omega
      have b5 : t2 ≤ 4611686018427387904 := by omega
      have b6 : H1 ≤ 4611686018427387904 := by omega
      have b7 : H2 ≤ 4611686018427387904 := by omega
      have b8 : t ≤ 4611686018427387904 := by omega
      have b9 : D1 ≤ 2000 := by omega
      have b10 : D2 ≤ 2000 := by omega
      clear hB hT2 n3 s2 s4 u1 u2 u3 l1 l2 m1 m2 m3 m4 hz hx hq hj
      go_wp2_with fail
      refine (C1.out _).mono ?_
      rintro e w2 ⟨rfl, hww⟩
      replace hww := hww.symm
      subst hww
      go_wp2_with fail
      refine (C2.out _).mono ?_
      rintro e w2 ⟨rfl, hww⟩
      replace hww := hww.symm
      subst hww
      go_wp2_with fail
      go_roundg (8 - (j + 1))
      case measure => have := HM.out; omega
      case rel =>
        refine ⟨j + 1, rfl, ?_, ?_, ?_, by show j + 1 ≤ 8; omega, rfl⟩
        · rw [show 2 * (j + 1) = 2 * j + 2 by omega, HT.out]
        · rw [HD.out]; go_num
        · rw [show 2 * (j + 1) = 2 * j + 2 by omega, HB.out]

set_option maxHeartbeats 4000000 in
theorem rQuick_c (r : Nat) (w : World) (h : r ≤ 2700000) :
    Calls Tryd.prog 65 #[.int .i64 (r : Int), .bool true] w fun e w' => e = .returned (.int .i64 (L6.cosN (L6.xN r))) ∧ w' = w := by
  have hx := L6.xN_le r h
  have hst := L6.cos_stop r h
  have hv : L6.cosN (L6.xN r) = L6.alN 4611686018427387904 (L6.hiN (L6.xN r) (L6.xN r)) 1 16 := rfl
  rw [hv]
  clear hv
  have ex : (r : Int) * 2620088056 * 512 + (r : Int) * 658911831 / 4194304 = ((L6.xN r : Nat) : Int) := by
    unfold L6.xN
    omega
  have C0 := Lib.hid (fun wx => rHigh (L6.xN r) (L6.xN r) wx hx hx)
  have hq := hiN_le (L6.xN r) (L6.xN r) hx hx
  obtain ⟨X, hX⟩ : ∃ X, L6.xN r = X := ⟨_, rfl⟩
  rw [hX] at ex C0 hq hst hx ⊢
  obtain ⟨Q, hQ⟩ : ∃ Q, L6.hiN X X = Q := ⟨_, rfl⟩
  rw [hQ] at C0 hq hst ⊢
  clear hX hQ
  have p1 : (r : Int) * 2620088056 ≤ 8000000000000000 := by omega
  have p2 : (r : Int) * 658911831 ≤ 2000000000000000 := by omega
  have p3 : 0 ≤ (r : Int) := by omega
  have HST := Lib.hid hst
  have HX := Lib.hid hx
  have HQ := Lib.hid hq
  clear hst
  go_enter Tryd.func65, Tryd.ntmps65
  go_wp2_with fail
  refine (C0.out _).mono ?_
  rintro e w1 ⟨rfl, rfl⟩
  clear p1 p2 p3 ex C0
  go_wp2_with fail
  go_loopg [7, 8, 9] 8 (fun m v7 v8 v9 wr => ∃ j : Nat, m = 8 - j ∧ v7 = .int .i64 ((L6.tmN 4611686018427387904 Q 1 (2 * j) : Nat) : Int) ∧ v8 = .int .i64 ((1 + 4 * j : Nat) : Int) ∧ v9 = .int .i64 (L6.alN 4611686018427387904 Q 1 (2 * j)) ∧ Hid (j ≤ 8) ∧ w1 = wr)
  case atStart => exact ⟨0, rfl, rfl, rfl, rfl, Nat.zero_le _, rfl⟩
  case round =>
    obtain ⟨j, hm, rfl, rfl, rfl, HJ, rfl⟩ := hrel
    have HM := Lib.hid hm
    clear hm
    have hj := HJ.out
    have hq := HQ.out
    have hx := HX.out
    obtain ⟨s1, s2⟩ := L6.al_even 4611686018427387904 Q 1 hq (by omega) j
    have u1 := L6.tm_first 4611686018427387904 Q 1 hq (by omega) (2 * j)
    by_cases hz : L6.tmN 4611686018427387904 Q 1 (2 * j) = 0
    · have HE := Lib.hid (L6.tm_zero 4611686018427387904 Q 1 (2 * j) hz (16 - 2 * j)).2
      have z1 : ¬ ((L6.tmN 4611686018427387904 Q 1 (2 * j) : Nat) : Int) > 0 := by omega
      obtain ⟨t, ht⟩ : ∃ t, L6.tmN 4611686018427387904 Q 1 (2 * j) = t := ⟨_, rfl⟩
      obtain ⟨s, hs⟩ : ∃ s, L6.alN 4611686018427387904 Q 1 (2 * j) = s := ⟨_, rfl⟩
      rw [ht] at z1 ⊢
      rw [hs] at HE ⊢
      clear ht hs hz u1 s1 s2 hx hq
      go_wp2_with fail
      go_ret
      refine ⟨?_, rfl⟩
      have e := HE.out
      rw [show 2 * j + (16 - 2 * j) = 16 by omega] at e
      rw [e]
      rfl
    · have hj7 : j < 8 := by
        refine Classical.byContradiction fun c => hz ?_
        have : j = 8 := by omega
        subst this
        exact HST.out
      have n1 : L6.tmN 4611686018427387904 Q 1 (2 * j + 1) = L6.hiN (L6.tmN 4611686018427387904 Q 1 (2 * j)) Q / ((1 + 4 * j) * (1 + 4 * j + 1)) := by
        show L6.hiN _ Q / L6.dv 1 (2 * j) = _
        unfold L6.dv
        rw [show 1 + 2 * (2 * j) = 1 + 4 * j by omega]
      have n2 : L6.tmN 4611686018427387904 Q 1 (2 * j + 2) = L6.hiN (L6.tmN 4611686018427387904 Q 1 (2 * j + 1)) Q / ((1 + 4 * j + 2) * (1 + 4 * j + 3)) := by
        show L6.hiN _ Q / L6.dv 1 (2 * j + 1) = _
        unfold L6.dv
        rw [show 1 + 2 * (2 * j + 1) = 1 + 4 * j + 2 by omega]
      have n3 := L6.al_next 4611686018427387904 Q 1 j
      obtain ⟨s3, s4⟩ := L6.al_even 4611686018427387904 Q 1 hq (by omega) (j + 1)
      rw [show 2 * (j + 1) = 2 * j + 2 by omega] at s3 s4
      have u2 := L6.tm_le 4611686018427387904 Q 1 hq (by omega) (2 * j)
      have u3 := L6.tm_first 4611686018427387904 Q 1 hq (by omega) (2 * j + 2)
      have C1 := Lib.hid (fun wx => rHigh (L6.tmN 4611686018427387904 Q 1 (2 * j)) Q wx (by omega) hq)
      have C2 := Lib.hid (fun wx => rHigh (L6.tmN 4611686018427387904 Q 1 (2 * j + 1)) Q wx (by omega) hq)
      have l1 := hiN_le_left (L6.tmN 4611686018427387904 Q 1 (2 * j)) Q hq
      have l2 := hiN_le_left (L6.tmN 4611686018427387904 Q 1 (2 * j + 1)) Q hq
      obtain ⟨d, hd⟩ : ∃ d, 1 + 4 * j = d := ⟨_, rfl⟩
      have d1 : 1 ≤ d := by omega
      have d2 : d ≤ 40 := by omega
      have HD := Lib.hid (show 1 + 4 * (j + 1) = d + 4 by omega)
      rw [hd] at n1 n2 ⊢
      clear hd
      have m1 := Nat.mul_le_mul d2 (show d + 1 ≤ 41 by omega)
      have m2 := Nat.mul_le_mul (show d + 2 ≤ 42 by omega) (show d + 3 ≤ 43 by omega)
      have m3 := Nat.mul_le_mul d1 (show 1 ≤ d + 1 by omega)
      have m4 := Nat.mul_le_mul (show 1 ≤ d + 2 by omega) (show 1 ≤ d + 3 by omega)
      have g1 : (d : Int) * ((d : Int) + 1) = ((d * (d + 1) : Nat) : Int) := by rw [Int.natCast_mul]; rfl
      have g2 : ((d : Int) + 2) * ((d : Int) + 3) = (((d + 2) * (d + 3) : Nat) : Int) := by rw [Int.natCast_mul]; rfl
      generalize d * (d + 1) = D1 at *
      generalize (d + 2) * (d + 3) = D2 at *
      have q1 : ((L6.hiN (L6.tmN 4611686018427387904 Q 1 (2 * j)) Q : Nat) : Int) / (D1 : Int) = ((L6.tmN 4611686018427387904 Q 1 (2 * j + 1) : Nat) : Int) := by rw [n1, Int.natCast_ediv]
      have q2 : ((L6.hiN (L6.tmN 4611686018427387904 Q 1 (2 * j + 1)) Q : Nat) : Int) / (D2 : Int) = ((L6.tmN 4611686018427387904 Q 1 (2 * j + 2) : Nat) : Int) := by rw [n2, Int.natCast_ediv]
      have e1 : ¬ (D1 : Int) = 0 := by omega
      have e2 : ¬ (D2 : Int) = 0 := by omega
      clear n1 n2
      generalize L6.hiN (L6.tmN 4611686018427387904 Q 1 (2 * j)) Q = H1 at *
      generalize L6.hiN (L6.tmN 4611686018427387904 Q 1 (2 * j + 1)) Q = H2 at *
      generalize hB : L6.alN 4611686018427387904 Q 1 (2 * j + 2) = B at *
      generalize hT2 : L6.tmN 4611686018427387904 Q 1 (2 * j + 2) = t2 at *
      generalize L6.tmN 4611686018427387904 Q 1 (2 * j + 1) = t1 at *
      generalize L6.tmN 4611686018427387904 Q 1 (2 * j) = t at *
      generalize L6.alN 4611686018427387904 Q 1 (2 * j) = A at *
      have z1 : (t : Int) > 0 := by omega
      have HB := Lib.hid hB
      have HT := Lib.hid hT2
      have b1 : A + (t : Int) ≤ 4611686018427387904 := by omega
      have b2 : A + (t : Int) - (t1 : Int) = B := by omega
      have b3 : B ≤ 4611686018427387904 := by omega
      have b4 : t1 ≤ 4611686018427387904 := by omega
      have b5 : t2 ≤ 4611686018427387904 := by omega
      have b6 : H1 ≤ 4611686018427387904 := by omega
      have b7 : H2 ≤ 4611686018427387904 := by omega
      have b8 : t ≤ 4611686018427387904 := by omega
      have b9 : D1 ≤ 2000 := by omega
      have b10 : D2 ≤ 2000 := by omega
      clear hB hT2 n3 s2 s4 u1 u2 u3 l1 l2 m1 m2 m3 m4 hz hx hq hj
      go_wp2_with fail
      refine (C1.out _).mono ?_
      rintro e w2 ⟨rfl, hww⟩
      replace hww := hww.symm
      subst hww
      go_wp2_with fail
      refine (C2.out _).mono ?_
      rintro e w2 ⟨rfl, hww⟩
      replace hww := hww.symm
      subst hww
      go_wp2_with fail
      go_roundg (8 - (j + 1))
      case measure => have := HM.out; omega
      case rel =>
        refine ⟨j + 1, rfl, ?_, ?_, ?_, by show j + 1 ≤ 8; omega, rfl⟩
        · rw [show 2 * (j + 1) = 2 * j + 2 by omega, HT.out]
        · rw [HD.out]; go_num
        · rw [show 2 * (j + 1) = 2 * j + 2 by omega, HB.out]
end Go.Proofs.YtglmkpnnbgkndaaDoor
