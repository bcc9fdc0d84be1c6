/- Arctrig: the reference's Angle. -/
import Derived.Test.YtndcjldnnfhedaaDoorArYl
import Derived.Test.YtndcjldnnfhedaaDoorArYd
namespace Go.Proofs.YtndcjldnnfhedaaDoor.wd2
open Go.RowKit
set_option linter.unusedVariables false
set_option maxRecDepth 100000

/-- is the angle a whole one -/
noncomputable def anX (a : Int × Int) : Bool := L6.sd (L6.gN (rot a (rk a)).1 (rot a (rk a)).2) (rot a (rk a)).1 (rot a (rk a)).2 == 0
theorem anU_x (a : Int × Int) : anU a = if anX a = true then anD a else anD a + 1 := by
  unfold anU anX anD L6.gU
  by_cases c : L6.sd (L6.gN (rot a (rk a)).1 (rot a (rk a)).2) (rot a (rk a)).1 (rot a (rk a)).2 = 0
  · rw [if_pos c, if_pos (beq_iff_eq.2 c)]
  · rw [if_neg c, if_neg (fun h => c (beq_iff_eq.1 h))]; omega
set_option maxHeartbeats 4000000 in
theorem rAngle (a : Int × Int) (h : ¬ (a.1 = 0 ∧ a.2 = 0)) (i : In31 a) (w : World) :
    Calls Tryd.prog 26 #[.agg #[.int .i64 a.1, .int .i64 a.2]] w fun e w' => e = .returned (.tuple #[.int .i64 (anD a), .bool (anX a)]) ∧ Below w.heap.size w w' := by
  have G := Lib.hid (fun (j : Nat) (hj : j ≤ rk a) => rk_go a h j hj)
  have I := Lib.hid (fun j => rot_in i j)
  obtain ⟨k0, k1⟩ := (G.out (rk a) (Nat.le_refl _)).2 rfl
  obtain ⟨b1, b2, b3, b4⟩ := I.out (rk a)
  have C := Lib.hid (fun wx (hb : Below w.heap.size w wx) => floor_any _ _ k0 b2 k1 b4 wx)
  obtain ⟨g1, g2, g3, g4, g5⟩ := g_in _ _ k0 k1
  have K3 := rk_in a
  unfold anD anX
  generalize hgd : L6.gN (rot a (rk a)).1 (rot a (rk a)).2 = gd at *
  generalize hgu : (L6.sd gd (rot a (rk a)).1 (rot a (rk a)).2 == 0) = gu at *
  clear hgd hgu k0 k1 b1 b2 b3 b4 i h
  obtain ⟨K, hK⟩ : ∃ K, K = rk a := ⟨_, rfl⟩
  rw [← hK] at C K3 ⊢
  have G : Hid (∀ j : Nat, j ≤ K → (j < K → ((rot a j).1 ≤ 0 ∨ (rot a j).2 < 0) ∧ (rot a (j + 1)).1 = (rot a j).2 ∧ (rot a (j + 1)).2 = -(rot a j).1) ∧ (j = K → 0 < (rot a j).1 ∧ 0 ≤ (rot a j).2)) := by rw [hK]; exact G
  clear hK
  have A := Lib.hid (At2.new w (.int .i64 a.1) (.int .i64 a.2) 57)
  have HB := Lib.hid (below1 w (.cells #[.int .i64 a.1, .int .i64 a.2] 57))
  obtain ⟨t, ht⟩ : ∃ t, 5400000 * (K : Int) = t := ⟨_, rfl⟩
  have T1 : 0 ≤ t := by omega
  have T2 : t ≤ 16200000 := by omega
  rw [ht]
  have HT := Lib.hid ht
  have K3 := Lib.hid K3
  have G1 := Lib.hid (And.intro g1 g2)
  have G2 := Lib.hid (And.intro g3 g4)
  clear ht g1 g2 g3 g4 g5
  go_enter Tryd.func26, Tryd.ntmps26
  go_wp2_with fail
  go_loopg [4] K (fun m v4 wr => ∃ j : Nat, m = K - j ∧ v4 = .int .i64 (j : Int) ∧ Hid (j ≤ K) ∧ Hid (At2 wr w.heap.size (.int .i64 (rot a j).1) (.int .i64 (rot a j).2)) ∧ Hid (Below w.heap.size w wr))
  case atStart => exact ⟨0, rfl, rfl, Nat.zero_le _, A, HB⟩
  case round =>
    obtain ⟨j, hm, rfl, HJ, A', HB⟩ := hrel
    have HM := Lib.hid hm
    clear hm A
    have A := A'.out
    clear A'
    obtain ⟨A0, A1, A2, A3, -⟩ := id A
    have R := G.out j HJ.out
    obtain ⟨i1, i2, i3, i4⟩ := I.out j
    rcases (show j < K ∨ j = K by have := HJ.out; omega) with hj | hj
    · obtain ⟨r1, r2, r3⟩ := R.1 hj
      clear R
      have Q := Lib.hid (And.intro r2 r3)
      have J := Lib.hid hj
      have K3' := K3.out
      obtain ⟨tt, htt⟩ : ∃ tt, 5400000 * (j : Int) = tt := ⟨_, rfl⟩
      have t1 : 0 ≤ tt := by omega
      have t2 : tt ≤ 10800000 := by omega
      have TT := Lib.hid htt
      have j3 : (j : Int) < 4 := by omega
      clear r2 r3 htt hj K3'
      generalize (rot a j).1 = x at *
      generalize (rot a j).2 = y at *
      by_cases c : x ≤ 0
      · clear r1
        go_wp2_with fail
        have A := A.put (.int .i64 y) (.int .i64 (-x))
        have HB := Lib.hid (below_set2 HB.out (Nat.le_refl _) (.int .i64 y) (.int .i64 (-x)))
        go_roundg (K - (j + 1))
        case measure => have := HM.out; have := J.out; omega
        case rel => exact ⟨j + 1, rfl, congrArg (Value.int .i64) (by omega), by have := J.out; show _ ≤ _; omega, by rw [Q.out.1, Q.out.2]; exact A, HB⟩
      · have c2 : y < 0 := by omega
        clear r1
        go_wp2_with fail
        have A := A.put (.int .i64 y) (.int .i64 (-x))
        have HB := Lib.hid (below_set2 HB.out (Nat.le_refl _) (.int .i64 y) (.int .i64 (-x)))
        go_roundg (K - (j + 1))
        case measure => have := HM.out; have := J.out; omega
        case rel => exact ⟨j + 1, rfl, congrArg (Value.int .i64) (by omega), by have := J.out; show _ ≤ _; omega, by rw [Q.out.1, Q.out.2]; exact A, HB⟩
    · obtain ⟨r1, r2⟩ := R.2 hj
      clear R
      subst hj
      have hjt : (j : Int) * 5400000 = t := by have := HT.out; omega
      have j3 : (j : Int) < 4 := by have := K3.out; omega
      have G1' := G1.out
      have G2' := G2.out
      clear HT K3 HM G HJ I
      generalize (rot a j).1 = x at *
      generalize (rot a j).2 = y at *
      have c1 : ¬ x ≤ 0 := by omega
      have c2 : ¬ y < 0 := by omega
      obtain ⟨g1, g2⟩ := G1'
      obtain ⟨g3, g4⟩ := G2'
      clear r1 r2 G1 G2
      go_wp2_with fail
      refine (C.out _ HB.out).mono ?_
      rintro e w1 ⟨rfl, hb⟩
      have HB := Lib.hid (bstep HB.out hb)
      clear hb
      go_wp2_with fail
      go_ret2
      exact ⟨rfl, HB.out⟩
end Go.Proofs.YtndcjldnnfhedaaDoor.wd2
