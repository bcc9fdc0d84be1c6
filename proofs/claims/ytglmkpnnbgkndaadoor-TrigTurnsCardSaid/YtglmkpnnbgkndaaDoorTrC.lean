/- Trig: contracts of the reference's Quick, Exact, Floor. -/
import Derived.Test.YtglmkpnnbgkndaaDoorTrB
namespace Go.Proofs.YtglmkpnnbgkndaaDoor
open Go.RowKit
set_option linter.unusedVariables false
set_option maxRecDepth 100000

/-- the remainder that Go's division leaves, and the one from 0 on -/
theorem tmodM (n : Int) : ∃ M : Nat, L6.mT n = (M : Int) ∧ M < 21600000 ∧ (n.tmod 21600000 < 0 → n.tmod 21600000 + 21600000 = (M : Int)) ∧ (¬ n.tmod 21600000 < 0 → n.tmod 21600000 = (M : Int)) ∧ -21600000 < n.tmod 21600000 := by
  have e := Int.tmod_add_mul_tdiv n 21600000
  have b1 := Int.tmod_lt_of_pos n (show (0 : Int) < 21600000 by omega)
  have b2 := Int.lt_tmod_of_pos n (show (0 : Int) < 21600000 by omega)
  have b3 := L6.m_in n
  unfold L6.mT at *
  refine ⟨(n % 21600000).toNat, ?_, ?_, ?_, ?_, b2⟩ <;> generalize n.tmod 21600000 = r at * <;> generalize n.tdiv 21600000 = q at * <;> omega
theorem rQuick (r : Nat) (c : Bool) (w : World) (h : r ≤ 2700000) :
    Calls Tryd.prog 65 #[.int .i64 (r : Int), .bool c] w fun e w' => e = .returned (.int .i64 (if c = true then L6.cosN (L6.xN r) else L6.sinN (L6.xN r))) ∧ w' = w := by
  cases c
  · rw [if_neg (by simp)]; exact rQuick_s r w h
  · rw [if_pos rfl]; exact rQuick_c r w h
theorem vk_in (n : Int) : -4611686018427387904 ≤ L6.vk n ∧ L6.vk n ≤ 4611686018427387904 := by
  have hr := L6.rr_in n
  have hx := L6.xN_le (L6.rr n) hr
  have hq := hiN_le (L6.xN (L6.rr n)) (L6.xN (L6.rr n)) hx hx
  unfold L6.vk
  split
  · have a := L6.al_even 4611686018427387904 (L6.hiN (L6.xN (L6.rr n)) (L6.xN (L6.rr n))) 1 hq (by omega) 8
    show -4611686018427387904 ≤ L6.alN _ _ _ (2 * 8) ∧ L6.alN _ _ _ (2 * 8) ≤ _
    omega
  · have a := L6.al_even (L6.xN (L6.rr n)) (L6.hiN (L6.xN (L6.rr n)) (L6.xN (L6.rr n))) 2 hq (by omega) 8
    show -4611686018427387904 ≤ L6.alN _ _ _ (2 * 8) ∧ L6.alN _ _ _ (2 * 8) ≤ _
    omega

set_option maxHeartbeats 2000000 in
theorem rQk_000 (n : Int) (M Q R r : Nat) (r0 v : Int) (c : Bool) (w : World) (h0 : n.tmod 21600000 = r0) (h1 : ¬ r0 < 0) (h2 : r0 = (M : Int)) (h2' : -21600000 < r0) (hM : M < 21600000) (hQ : (M : Int) / 5400000 = (Q : Int)) (hR : (M : Int) % 5400000 = (R : Int)) (hP : ((Q : Int) % 2 == 1) = c)
    (hfar : ¬ (R : Int) > 2700000) (hbig : ¬ (Q : Int) ≥ 2) (hr : (R : Int) = (r : Int)) (C : ∀ wx, Calls Tryd.prog 65 #[.int .i64 (r : Int), .bool c] wx fun e w' => e = .returned (.int .i64 v) ∧ w' = wx) (v1 : -4611686018427387904 ≤ v) (v2 : v ≤ 4611686018427387904) (hq3 : Q ≤ 3) (hR2 : R < 5400000) :
    Calls Tryd.prog 53 #[.int .i64 n] w fun e w' => e = .returned (.int .i64 (v)) ∧ w' = w := by
  have CC := Lib.hid C
  clear C
  go_enter Tryd.func53, Tryd.ntmps53
  go_wp2_with fail
  refine (CC.out _).mono ?_
  rintro e w1 ⟨rfl, rfl⟩
  go_wp2_with fail
  go_ret
  exact ⟨ret_int (by go_num), rfl⟩

set_option maxHeartbeats 2000000 in
theorem rQk_001 (n : Int) (M Q R r : Nat) (r0 v : Int) (c : Bool) (w : World) (h0 : n.tmod 21600000 = r0) (h1 : ¬ r0 < 0) (h2 : r0 = (M : Int)) (h2' : -21600000 < r0) (hM : M < 21600000) (hQ : (M : Int) / 5400000 = (Q : Int)) (hR : (M : Int) % 5400000 = (R : Int)) (hP : ((Q : Int) % 2 == 1) = c)
    (hfar : ¬ (R : Int) > 2700000) (hbig : (Q : Int) ≥ 2) (hr : (R : Int) = (r : Int)) (C : ∀ wx, Calls Tryd.prog 65 #[.int .i64 (r : Int), .bool c] wx fun e w' => e = .returned (.int .i64 v) ∧ w' = wx) (v1 : -4611686018427387904 ≤ v) (v2 : v ≤ 4611686018427387904) (hq3 : Q ≤ 3) (hR2 : R < 5400000) :
    Calls Tryd.prog 53 #[.int .i64 n] w fun e w' => e = .returned (.int .i64 (-v)) ∧ w' = w := by
  have CC := Lib.hid C
  clear C
  go_enter Tryd.func53, Tryd.ntmps53
  go_wp2_with fail
  refine (CC.out _).mono ?_
  rintro e w1 ⟨rfl, rfl⟩
  go_wp2_with fail
  go_ret
  exact ⟨ret_int (by go_num), rfl⟩

set_option maxHeartbeats 2000000 in
theorem rQk_010 (n : Int) (M Q R r : Nat) (r0 v : Int) (c : Bool) (w : World) (h0 : n.tmod 21600000 = r0) (h1 : ¬ r0 < 0) (h2 : r0 = (M : Int)) (h2' : -21600000 < r0) (hM : M < 21600000) (hQ : (M : Int) / 5400000 = (Q : Int)) (hR : (M : Int) % 5400000 = (R : Int)) (hP : ((Q : Int) % 2 == 1) = c)
    (hfar : (R : Int) > 2700000) (hbig : ¬ (Q : Int) ≥ 2) (hr : 5400000 - (R : Int) = (r : Int)) (C : ∀ wx, Calls Tryd.prog 65 #[.int .i64 (r : Int), .bool (!c)] wx fun e w' => e = .returned (.int .i64 v) ∧ w' = wx) (v1 : -4611686018427387904 ≤ v) (v2 : v ≤ 4611686018427387904) (hq3 : Q ≤ 3) (hR2 : R < 5400000) :
    Calls Tryd.prog 53 #[.int .i64 n] w fun e w' => e = .returned (.int .i64 (v)) ∧ w' = w := by
  have CC := Lib.hid C
  clear C
  go_enter Tryd.func53, Tryd.ntmps53
  go_wp2_with fail
  refine (CC.out _).mono ?_
  rintro e w1 ⟨rfl, rfl⟩
  go_wp2_with fail
  go_ret
  exact ⟨ret_int (by go_num), rfl⟩

set_option maxHeartbeats 2000000 in
theorem rQk_011 (n : Int) (M Q R r : Nat) (r0 v : Int) (c : Bool) (w : World) (h0 : n.tmod 21600000 = r0) (h1 : ¬ r0 < 0) (h2 : r0 = (M : Int)) (h2' : -21600000 < r0) (hM : M < 21600000) (hQ : (M : Int) / 5400000 = (Q : Int)) (hR : (M : Int) % 5400000 = (R : Int)) (hP : ((Q : Int) % 2 == 1) = c)
    (hfar : (R : Int) > 2700000) (hbig : (Q : Int) ≥ 2) (hr : 5400000 - (R : Int) = (r : Int)) (C : ∀ wx, Calls Tryd.prog 65 #[.int .i64 (r : Int), .bool (!c)] wx fun e w' => e = .returned (.int .i64 v) ∧ w' = wx) (v1 : -4611686018427387904 ≤ v) (v2 : v ≤ 4611686018427387904) (hq3 : Q ≤ 3) (hR2 : R < 5400000) :
    Calls Tryd.prog 53 #[.int .i64 n] w fun e w' => e = .returned (.int .i64 (-v)) ∧ w' = w := by
  have CC := Lib.hid C
  clear C
  go_enter Tryd.func53, Tryd.ntmps53
  go_wp2_with fail
  refine (CC.out _).mono ?_
  rintro e w1 ⟨rfl, rfl⟩
  go_wp2_with fail
  go_ret
  exact ⟨ret_int (by go_num), rfl⟩

set_option maxHeartbeats 2000000 in
theorem rQk_100 (n : Int) (M Q R r : Nat) (r0 v : Int) (c : Bool) (w : World) (h0 : n.tmod 21600000 = r0) (h1 : r0 < 0) (h2 : r0 + 21600000 = (M : Int)) (h2' : -21600000 < r0) (hM : M < 21600000) (hQ : (M : Int) / 5400000 = (Q : Int)) (hR : (M : Int) % 5400000 = (R : Int)) (hP : ((Q : Int) % 2 == 1) = c)
    (hfar : ¬ (R : Int) > 2700000) (hbig : ¬ (Q : Int) ≥ 2) (hr : (R : Int) = (r : Int)) (C : ∀ wx, Calls Tryd.prog 65 #[.int .i64 (r : Int), .bool c] wx fun e w' => e = .returned (.int .i64 v) ∧ w' = wx) (v1 : -4611686018427387904 ≤ v) (v2 : v ≤ 4611686018427387904) (hq3 : Q ≤ 3) (hR2 : R < 5400000) :
    Calls Tryd.prog 53 #[.int .i64 n] w fun e w' => e = .returned (.int .i64 (v)) ∧ w' = w := by
  have CC := Lib.hid C
  clear C
  go_enter Tryd.func53, Tryd.ntmps53
  go_wp2_with fail
  refine (CC.out _).mono ?_
  rintro e w1 ⟨rfl, rfl⟩
  go_wp2_with fail
  go_ret
  exact ⟨ret_int (by go_num), rfl⟩

set_option maxHeartbeats 2000000 in
theorem rQk_101 (n : Int) (M Q R r : Nat) (r0 v : Int) (c : Bool) (w : World) (h0 : n.tmod 21600000 = r0) (h1 : r0 < 0) (h2 : r0 + 21600000 = (M : Int)) (h2' : -21600000 < r0) (hM : M < 21600000) (hQ : (M : Int) / 5400000 = (Q : Int)) (hR : (M : Int) % 5400000 = (R : Int)) (hP : ((Q : Int) % 2 == 1) = c)
    (hfar : ¬ (R : Int) > 2700000) (hbig : (Q : Int) ≥ 2) (hr : (R : Int) = (r : Int)) (C : ∀ wx, Calls Tryd.prog 65 #[.int .i64 (r : Int), .bool c] wx fun e w' => e = .returned (.int .i64 v) ∧ w' = wx) (v1 : -4611686018427387904 ≤ v) (v2 : v ≤ 4611686018427387904) (hq3 : Q ≤ 3) (hR2 : R < 5400000) :
    Calls Tryd.prog 53 #[.int .i64 n] w fun e w' => e = .returned (.int .i64 (-v)) ∧ w' = w := by
  have CC := Lib.hid C
  clear C
  go_enter Tryd.func53, Tryd.ntmps53
  go_wp2_with fail
  refine (CC.out _).mono ?_
  rintro e w1 ⟨rfl, rfl⟩
  go_wp2_with fail
  go_ret
  exact ⟨ret_int (by go_num), rfl⟩

set_option maxHeartbeats 2000000 in
theorem rQk_110 (n : Int) (M Q R r : Nat) (r0 v : Int) (c : Bool) (w : World) (h0 : n.tmod 21600000 = r0) (h1 : r0 < 0) (h2 : r0 + 21600000 = (M : Int)) (h2' : -21600000 < r0) (hM : M < 21600000) (hQ : (M : Int) / 5400000 = (Q : Int)) (hR : (M : Int) % 5400000 = (R : Int)) (hP : ((Q : Int) % 2 == 1) = c)
    (hfar : (R : Int) > 2700000) (hbig : ¬ (Q : Int) ≥ 2) (hr : 5400000 - (R : Int) = (r : Int)) (C : ∀ wx, Calls Tryd.prog 65 #[.int .i64 (r : Int), .bool (!c)] wx fun e w' => e = .returned (.int .i64 v) ∧ w' = wx) (v1 : -4611686018427387904 ≤ v) (v2 : v ≤ 4611686018427387904) (hq3 : Q ≤ 3) (hR2 : R < 5400000) :
    Calls Tryd.prog 53 #[.int .i64 n] w fun e w' => e = .returned (.int .i64 (v)) ∧ w' = w := by
  have CC := Lib.hid C
  clear C
  go_enter Tryd.func53, Tryd.ntmps53
  go_wp2_with fail
  refine (CC.out _).mono ?_
  rintro e w1 ⟨rfl, rfl⟩
  go_wp2_with fail
  go_ret
  exact ⟨ret_int (by go_num), rfl⟩

set_option maxHeartbeats 2000000 in
theorem rQk_111 (n : Int) (M Q R r : Nat) (r0 v : Int) (c : Bool) (w : World) (h0 : n.tmod 21600000 = r0) (h1 : r0 < 0) (h2 : r0 + 21600000 = (M : Int)) (h2' : -21600000 < r0) (hM : M < 21600000) (hQ : (M : Int) / 5400000 = (Q : Int)) (hR : (M : Int) % 5400000 = (R : Int)) (hP : ((Q : Int) % 2 == 1) = c)
    (hfar : (R : Int) > 2700000) (hbig : (Q : Int) ≥ 2) (hr : 5400000 - (R : Int) = (r : Int)) (C : ∀ wx, Calls Tryd.prog 65 #[.int .i64 (r : Int), .bool (!c)] wx fun e w' => e = .returned (.int .i64 v) ∧ w' = wx) (v1 : -4611686018427387904 ≤ v) (v2 : v ≤ 4611686018427387904) (hq3 : Q ≤ 3) (hR2 : R < 5400000) :
    Calls Tryd.prog 53 #[.int .i64 n] w fun e w' => e = .returned (.int .i64 (-v)) ∧ w' = w := by
  have CC := Lib.hid C
  clear C
  go_enter Tryd.func53, Tryd.ntmps53
  go_wp2_with fail
  refine (CC.out _).mono ?_
  rintro e w1 ⟨rfl, rfl⟩
  go_wp2_with fail
  go_ret
  exact ⟨ret_int (by go_num), rfl⟩

theorem rQuickN (n : Int) (w : World) : Calls Tryd.prog 53 #[.int .i64 n] w fun e w' => e = .returned (.int .i64 (L6.qk n)) ∧ w' = w := by
  obtain ⟨M, hm, hM, t1, t2, t3⟩ := tmodM n
  obtain ⟨Q, hQ⟩ : ∃ Q : Nat, M / 5400000 = Q := ⟨_, rfl⟩
  obtain ⟨R, hR⟩ : ∃ R : Nat, M % 5400000 = R := ⟨_, rfl⟩
  have iQ : (M : Int) / 5400000 = (Q : Int) := by omega
  have iR : (M : Int) % 5400000 = (R : Int) := by omega
  have q3 : Q ≤ 3 := by omega
  have r2 : R < 5400000 := by omega
  have eq : L6.qd n = (Q : Int) := by unfold L6.qd; rw [hm]; exact iQ
  have er : L6.rd n = (R : Int) := by unfold L6.rd; rw [hm]; exact iR
  have ef : L6.far n = decide (2700000 < (R : Int)) := by unfold L6.far; rw [er]
  obtain ⟨c, hc⟩ : ∃ c, ((Q : Int) % 2 == 1) = c := ⟨_, rfl⟩
  have ec : L6.co n = xor c (decide (2700000 < (R : Int))) := by
    unfold L6.co
    rw [eq, ef, ← hc]
    congr 1
  have ei := L6.rr_int n
  rw [er, ef] at ei
  have hv := vk_in n
  have C := fun wx => rQuick (L6.rr n) (L6.co n) wx (L6.rr_in n)
  have ev : (if L6.co n = true then L6.cosN (L6.xN (L6.rr n)) else L6.sinN (L6.xN (L6.rr n))) = L6.vk n := rfl
  rw [ev] at C
  have ek : L6.qk n = if 2 ≤ (Q : Int) then -L6.vk n else L6.vk n := by unfold L6.qk; rw [eq]
  rw [ek]
  generalize L6.vk n = v at *
  generalize L6.rr n = r at *
  obtain ⟨r0, hr0⟩ : ∃ r0, n.tmod 21600000 = r0 := ⟨_, rfl⟩
  rw [hr0] at t1 t2 t3
  by_cases hf : (R : Int) > 2700000
  · rw [ec, decide_eq_true (show 2700000 < (R : Int) from hf), Bool.xor_true] at C
    rw [decide_eq_true (show 2700000 < (R : Int) from hf), if_pos rfl] at ei
    by_cases hb : (Q : Int) ≥ 2
    · rw [if_pos (show 2 ≤ (Q : Int) from hb)]
      by_cases h : r0 < 0
      · exact rQk_111 n M Q R r r0 v c w hr0 h (t1 h) t3 hM iQ iR hc hf hb ei.symm C hv.1 hv.2 q3 r2
      · exact rQk_011 n M Q R r r0 v c w hr0 h (t2 h) t3 hM iQ iR hc hf hb ei.symm C hv.1 hv.2 q3 r2
    · rw [if_neg (show ¬ 2 ≤ (Q : Int) from hb)]
      by_cases h : r0 < 0
      · exact rQk_110 n M Q R r r0 v c w hr0 h (t1 h) t3 hM iQ iR hc hf hb ei.symm C hv.1 hv.2 q3 r2
      · exact rQk_010 n M Q R r r0 v c w hr0 h (t2 h) t3 hM iQ iR hc hf hb ei.symm C hv.1 hv.2 q3 r2
  · rw [ec, decide_eq_false (show ¬ 2700000 < (R : Int) from hf), Bool.xor_false] at C
    rw [decide_eq_false (show ¬ 2700000 < (R : Int) from hf), if_neg (by simp)] at ei
    by_cases hb : (Q : Int) ≥ 2
    · rw [if_pos (show 2 ≤ (Q : Int) from hb)]
      by_cases h : r0 < 0
      · exact rQk_101 n M Q R r r0 v c w hr0 h (t1 h) t3 hM iQ iR hc hf hb ei.symm C hv.1 hv.2 q3 r2
      · exact rQk_001 n M Q R r r0 v c w hr0 h (t2 h) t3 hM iQ iR hc hf hb ei.symm C hv.1 hv.2 q3 r2
    · rw [if_neg (show ¬ 2 ≤ (Q : Int) from hb)]
      by_cases h : r0 < 0
      · exact rQk_100 n M Q R r r0 v c w hr0 h (t1 h) t3 hM iQ iR hc hf hb ei.symm C hv.1 hv.2 q3 r2
      · exact rQk_000 n M Q R r r0 v c w hr0 h (t2 h) t3 hM iQ iR hc hf hb ei.symm C hv.1 hv.2 q3 r2

set_option maxHeartbeats 2000000 in
theorem rEx_no0 (n : Int) (M : Nat) (r0 : Int) (w : World) (h0 : n.tmod 21600000 = r0) (h1 : ¬ r0 < 0) (h2 : r0 = (M : Int)) (h3 : -21600000 < r0) (hM : M < 21600000) (hx : ((M : Int) % 1800000 != 0) = true) :
    Calls Tryd.prog 52 #[.int .i64 n] w fun e w' => e = .returned (.tuple #[.int .i64 0, .bool false]) ∧ Below w.heap.size w w' := by
  go_enter Tryd.func52, Tryd.ntmps52
  go_wp2_with fail
  go_ret2
  exact ⟨rfl, Below.refl _ _⟩

set_option maxHeartbeats 2000000 in
theorem rEx_0_0 (n : Int) (r0 : Int) (w : World) (h0 : n.tmod 21600000 = r0) (h1 : ¬ r0 < 0) (h2 : r0 = 0) (h3 : -21600000 < r0) :
    Calls Tryd.prog 52 #[.int .i64 n] w fun e w' => e = .returned (.tuple #[.int .i64 0, .bool true]) ∧ Below w.heap.size w w' := by
  go_enter Tryd.func52, Tryd.ntmps52
  go_wp2_with fail
  go_ret2
  exact ⟨rfl, by first | exact below1 _ _ | exact below2 _ _ _⟩

set_option maxHeartbeats 2000000 in
theorem rEx_1_0 (n : Int) (r0 : Int) (w : World) (h0 : n.tmod 21600000 = r0) (h1 : ¬ r0 < 0) (h2 : r0 = 1800000) (h3 : -21600000 < r0) :
    Calls Tryd.prog 52 #[.int .i64 n] w fun e w' => e = .returned (.tuple #[.int .i64 536870912, .bool true]) ∧ Below w.heap.size w w' := by
  go_enter Tryd.func52, Tryd.ntmps52
  go_wp2_with fail
  go_ret2
  exact ⟨rfl, by first | exact below1 _ _ | exact below2 _ _ _⟩

set_option maxHeartbeats 2000000 in
theorem rEx_2_0 (n : Int) (r0 : Int) (w : World) (h0 : n.tmod 21600000 = r0) (h1 : ¬ r0 < 0) (h2 : r0 = 3600000) (h3 : -21600000 < r0) :
    Calls Tryd.prog 52 #[.int .i64 n] w fun e w' => e = .returned (.tuple #[.int .i64 0, .bool false]) ∧ Below w.heap.size w w' := by
  go_enter Tryd.func52, Tryd.ntmps52
  go_wp2_with fail
  go_ret2
  exact ⟨rfl, by first | exact below1 _ _ | exact below2 _ _ _⟩

set_option maxHeartbeats 2000000 in
theorem rEx_3_0 (n : Int) (r0 : Int) (w : World) (h0 : n.tmod 21600000 = r0) (h1 : ¬ r0 < 0) (h2 : r0 = 5400000) (h3 : -21600000 < r0) :
    Calls Tryd.prog 52 #[.int .i64 n] w fun e w' => e = .returned (.tuple #[.int .i64 1073741824, .bool true]) ∧ Below w.heap.size w w' := by
  go_enter Tryd.func52, Tryd.ntmps52
  go_wp2_with fail
  go_ret2
  exact ⟨rfl, by first | exact below1 _ _ | exact below2 _ _ _⟩

set_option maxHeartbeats 2000000 in
theorem rEx_4_0 (n : Int) (r0 : Int) (w : World) (h0 : n.tmod 21600000 = r0) (h1 : ¬ r0 < 0) (h2 : r0 = 7200000) (h3 : -21600000 < r0) :
    Calls Tryd.prog 52 #[.int .i64 n] w fun e w' => e = .returned (.tuple #[.int .i64 0, .bool false]) ∧ Below w.heap.size w w' := by
  go_enter Tryd.func52, Tryd.ntmps52
  go_wp2_with fail
  go_ret2
  exact ⟨rfl, by first | exact below1 _ _ | exact below2 _ _ _⟩

set_option maxHeartbeats 2000000 in
theorem rEx_5_0 (n : Int) (r0 : Int) (w : World) (h0 : n.tmod 21600000 = r0) (h1 : ¬ r0 < 0) (h2 : r0 = 9000000) (h3 : -21600000 < r0) :
    Calls Tryd.prog 52 #[.int .i64 n] w fun e w' => e = .returned (.tuple #[.int .i64 536870912, .bool true]) ∧ Below w.heap.size w w' := by
  go_enter Tryd.func52, Tryd.ntmps52
  go_wp2_with fail
  go_ret2
  exact ⟨rfl, by first | exact below1 _ _ | exact below2 _ _ _⟩

set_option maxHeartbeats 2000000 in
theorem rEx_6_0 (n : Int) (r0 : Int) (w : World) (h0 : n.tmod 21600000 = r0) (h1 : ¬ r0 < 0) (h2 : r0 = 10800000) (h3 : -21600000 < r0) :
    Calls Tryd.prog 52 #[.int .i64 n] w fun e w' => e = .returned (.tuple #[.int .i64 0, .bool true]) ∧ Below w.heap.size w w' := by
  go_enter Tryd.func52, Tryd.ntmps52
  go_wp2_with fail
  go_ret2
  exact ⟨rfl, by first | exact below1 _ _ | exact below2 _ _ _⟩

set_option maxHeartbeats 2000000 in
theorem rEx_7_0 (n : Int) (r0 : Int) (w : World) (h0 : n.tmod 21600000 = r0) (h1 : ¬ r0 < 0) (h2 : r0 = 12600000) (h3 : -21600000 < r0) :
    Calls Tryd.prog 52 #[.int .i64 n] w fun e w' => e = .returned (.tuple #[.int .i64 (-536870912), .bool true]) ∧ Below w.heap.size w w' := by
  go_enter Tryd.func52, Tryd.ntmps52
  go_wp2_with fail
  go_ret2
  exact ⟨rfl, by first | exact below1 _ _ | exact below2 _ _ _⟩

set_option maxHeartbeats 2000000 in
theorem rEx_8_0 (n : Int) (r0 : Int) (w : World) (h0 : n.tmod 21600000 = r0) (h1 : ¬ r0 < 0) (h2 : r0 = 14400000) (h3 : -21600000 < r0) :
    Calls Tryd.prog 52 #[.int .i64 n] w fun e w' => e = .returned (.tuple #[.int .i64 0, .bool false]) ∧ Below w.heap.size w w' := by
  go_enter Tryd.func52, Tryd.ntmps52
  go_wp2_with fail
  go_ret2
  exact ⟨rfl, by first | exact below1 _ _ | exact below2 _ _ _⟩

set_option maxHeartbeats 2000000 in
theorem rEx_9_0 (n : Int) (r0 : Int) (w : World) (h0 : n.tmod 21600000 = r0) (h1 : ¬ r0 < 0) (h2 : r0 = 16200000) (h3 : -21600000 < r0) :
    Calls Tryd.prog 52 #[.int .i64 n] w fun e w' => e = .returned (.tuple #[.int .i64 (-1073741824), .bool true]) ∧ Below w.heap.size w w' := by
  go_enter Tryd.func52, Tryd.ntmps52
  go_wp2_with fail
  go_ret2
  exact ⟨rfl, by first | exact below1 _ _ | exact below2 _ _ _⟩

set_option maxHeartbeats 2000000 in
theorem rEx_10_0 (n : Int) (r0 : Int) (w : World) (h0 : n.tmod 21600000 = r0) (h1 : ¬ r0 < 0) (h2 : r0 = 18000000) (h3 : -21600000 < r0) :
    Calls Tryd.prog 52 #[.int .i64 n] w fun e w' => e = .returned (.tuple #[.int .i64 0, .bool false]) ∧ Below w.heap.size w w' := by
  go_enter Tryd.func52, Tryd.ntmps52
  go_wp2_with fail
  go_ret2
  exact ⟨rfl, by first | exact below1 _ _ | exact below2 _ _ _⟩

set_option maxHeartbeats 2000000 in
theorem rEx_11_0 (n : Int) (r0 : Int) (w : World) (h0 : n.tmod 21600000 = r0) (h1 : ¬ r0 < 0) (h2 : r0 = 19800000) (h3 : -21600000 < r0) :
    Calls Tryd.prog 52 #[.int .i64 n] w fun e w' => e = .returned (.tuple #[.int .i64 (-536870912), .bool true]) ∧ Below w.heap.size w w' := by
  go_enter Tryd.func52, Tryd.ntmps52
  go_wp2_with fail
  go_ret2
  exact ⟨rfl, by first | exact below1 _ _ | exact below2 _ _ _⟩

set_option maxHeartbeats 2000000 in
theorem rEx_no1 (n : Int) (M : Nat) (r0 : Int) (w : World) (h0 : n.tmod 21600000 = r0) (h1 : r0 < 0) (h2 : r0 + 21600000 = (M : Int)) (h3 : -21600000 < r0) (hM : M < 21600000) (hx : ((M : Int) % 1800000 != 0) = true) :
    Calls Tryd.prog 52 #[.int .i64 n] w fun e w' => e = .returned (.tuple #[.int .i64 0, .bool false]) ∧ Below w.heap.size w w' := by
  go_enter Tryd.func52, Tryd.ntmps52
  go_wp2_with fail
  go_ret2
  exact ⟨rfl, Below.refl _ _⟩

set_option maxHeartbeats 2000000 in
theorem rEx_0_1 (n : Int) (r0 : Int) (w : World) (h0 : n.tmod 21600000 = r0) (h1 : r0 < 0) (h2 : r0 + 21600000 = 0) (h3 : -21600000 < r0) :
    Calls Tryd.prog 52 #[.int .i64 n] w fun e w' => e = .returned (.tuple #[.int .i64 0, .bool true]) ∧ Below w.heap.size w w' := by
  exfalso; omega

set_option maxHeartbeats 2000000 in
theorem rEx_1_1 (n : Int) (r0 : Int) (w : World) (h0 : n.tmod 21600000 = r0) (h1 : r0 < 0) (h2 : r0 + 21600000 = 1800000) (h3 : -21600000 < r0) :
    Calls Tryd.prog 52 #[.int .i64 n] w fun e w' => e = .returned (.tuple #[.int .i64 536870912, .bool true]) ∧ Below w.heap.size w w' := by
  go_enter Tryd.func52, Tryd.ntmps52
  go_wp2_with fail
  go_ret2
  exact ⟨rfl, by first | exact below1 _ _ | exact below2 _ _ _⟩

set_option maxHeartbeats 2000000 in
theorem rEx_2_1 (n : Int) (r0 : Int) (w : World) (h0 : n.tmod 21600000 = r0) (h1 : r0 < 0) (h2 : r0 + 21600000 = 3600000) (h3 : -21600000 < r0) :
    Calls Tryd.prog 52 #[.int .i64 n] w fun e w' => e = .returned (.tuple #[.int .i64 0, .bool false]) ∧ Below w.heap.size w w' := by
  go_enter Tryd.func52, Tryd.ntmps52
  go_wp2_with fail
  go_ret2
  exact ⟨rfl, by first | exact below1 _ _ | exact below2 _ _ _⟩

set_option maxHeartbeats 2000000 in
theorem rEx_3_1 (n : Int) (r0 : Int) (w : World) (h0 : n.tmod 21600000 = r0) (h1 : r0 < 0) (h2 : r0 + 21600000 = 5400000) (h3 : -21600000 < r0) :
    Calls Tryd.prog 52 #[.int .i64 n] w fun e w' => e = .returned (.tuple #[.int .i64 1073741824, .bool true]) ∧ Below w.heap.size w w' := by
  go_enter Tryd.func52, Tryd.ntmps52
  go_wp2_with fail
  go_ret2
  exact ⟨rfl, by first | exact below1 _ _ | exact below2 _ _ _⟩

set_option maxHeartbeats 2000000 in
theorem rEx_4_1 (n : Int) (r0 : Int) (w : World) (h0 : n.tmod 21600000 = r0) (h1 : r0 < 0) (h2 : r0 + 21600000 = 7200000) (h3 : -21600000 < r0) :
    Calls Tryd.prog 52 #[.int .i64 n] w fun e w' => e = .returned (.tuple #[.int .i64 0, .bool false]) ∧ Below w.heap.size w w' := by
  go_enter Tryd.func52, Tryd.ntmps52
  go_wp2_with fail
  go_ret2
  exact ⟨rfl, by first | exact below1 _ _ | exact below2 _ _ _⟩

set_option maxHeartbeats 2000000 in
theorem rEx_5_1 (n : Int) (r0 : Int) (w : World) (h0 : n.tmod 21600000 = r0) (h1 : r0 < 0) (h2 : r0 + 21600000 = 9000000) (h3 : -21600000 < r0) :
    Calls Tryd.prog 52 #[.int .i64 n] w fun e w' => e = .returned (.tuple #[.int .i64 536870912, .bool true]) ∧ Below w.heap.size w w' := by
  go_enter Tryd.func52, Tryd.ntmps52
  go_wp2_with fail
  go_ret2
  exact ⟨rfl, by first | exact below1 _ _ | exact below2 _ _ _⟩

set_option maxHeartbeats 2000000 in
theorem rEx_6_1 (n : Int) (r0 : Int) (w : World) (h0 : n.tmod 21600000 = r0) (h1 : r0 < 0) (h2 : r0 + 21600000 = 10800000) (h3 : -21600000 < r0) :
    Calls Tryd.prog 52 #[.int .i64 n] w fun e w' => e = .returned (.tuple #[.int .i64 0, .bool true]) ∧ Below w.heap.size w w' := by
  go_enter Tryd.func52, Tryd.ntmps52
  go_wp2_with fail
  go_ret2
  exact ⟨rfl, by first | exact below1 _ _ | exact below2 _ _ _⟩

set_option maxHeartbeats 2000000 in
theorem rEx_7_1 (n : Int) (r0 : Int) (w : World) (h0 : n.tmod 21600000 = r0) (h1 : r0 < 0) (h2 : r0 + 21600000 = 12600000) (h3 : -21600000 < r0) :
    Calls Tryd.prog 52 #[.int .i64 n] w fun e w' => e = .returned (.tuple #[.int .i64 (-536870912), .bool true]) ∧ Below w.heap.size w w' := by
  go_enter Tryd.func52, Tryd.ntmps52
  go_wp2_with fail
  go_ret2
  exact ⟨rfl, by first | exact below1 _ _ | exact below2 _ _ _⟩

set_option maxHeartbeats 2000000 in
theorem rEx_8_1 (n : Int) (r0 : Int) (w : World) (h0 : n.tmod 21600000 = r0) (h1 : r0 < 0) (h2 : r0 + 21600000 = 14400000) (h3 : -21600000 < r0) :
    Calls Tryd.prog 52 #[.int .i64 n] w fun e w' => e = .returned (.tuple #[.int .i64 0, .bool false]) ∧ Below w.heap.size w w' := by
  go_enter Tryd.func52, Tryd.ntmps52
  go_wp2_with fail
  go_ret2
  exact ⟨rfl, by first | exact below1 _ _ | exact below2 _ _ _⟩

set_option maxHeartbeats 2000000 in
theorem rEx_9_1 (n : Int) (r0 : Int) (w : World) (h0 : n.tmod 21600000 = r0) (h1 : r0 < 0) (h2 : r0 + 21600000 = 16200000) (h3 : -21600000 < r0) :
    Calls Tryd.prog 52 #[.int .i64 n] w fun e w' => e = .returned (.tuple #[.int .i64 (-1073741824), .bool true]) ∧ Below w.heap.size w w' := by
  go_enter Tryd.func52, Tryd.ntmps52
  go_wp2_with fail
  go_ret2
  exact ⟨rfl, by first | exact below1 _ _ | exact below2 _ _ _⟩

set_option maxHeartbeats 2000000 in
theorem rEx_10_1 (n : Int) (r0 : Int) (w : World) (h0 : n.tmod 21600000 = r0) (h1 : r0 < 0) (h2 : r0 + 21600000 = 18000000) (h3 : -21600000 < r0) :
    Calls Tryd.prog 52 #[.int .i64 n] w fun e w' => e = .returned (.tuple #[.int .i64 0, .bool false]) ∧ Below w.heap.size w w' := by
  go_enter Tryd.func52, Tryd.ntmps52
  go_wp2_with fail
  go_ret2
  exact ⟨rfl, by first | exact below1 _ _ | exact below2 _ _ _⟩

set_option maxHeartbeats 2000000 in
theorem rEx_11_1 (n : Int) (r0 : Int) (w : World) (h0 : n.tmod 21600000 = r0) (h1 : r0 < 0) (h2 : r0 + 21600000 = 19800000) (h3 : -21600000 < r0) :
    Calls Tryd.prog 52 #[.int .i64 n] w fun e w' => e = .returned (.tuple #[.int .i64 (-536870912), .bool true]) ∧ Below w.heap.size w w' := by
  go_enter Tryd.func52, Tryd.ntmps52
  go_wp2_with fail
  go_ret2
  exact ⟨rfl, by first | exact below1 _ _ | exact below2 _ _ _⟩

theorem exV_k (k : Int) (n : Int) (hm : L6.mT n = 1800000 * k) (h0 : 0 ≤ k) (h1 : k ≤ 11) (x : Bool) (hx : x = !(decide (k % 6 = 2) || decide (k % 6 = 4))) : L6.ex n = x ∧ L6.mT n / 1800000 = k := by
  have e : L6.mT n / 1800000 = k := by omega
  refine ⟨?_, e⟩
  unfold L6.ex
  rw [e, hm, hx, decide_eq_true (by omega), Bool.true_and]
theorem rExact (n : Int) (w : World) : Calls Tryd.prog 52 #[.int .i64 n] w fun e w' => e = .returned (.tuple #[.int .i64 (if L6.ex n = true then L6.exV (L6.mT n / 1800000) else 0), .bool (L6.ex n)]) ∧ Below w.heap.size w w' := by
  obtain ⟨M, hm, hM, t1, t2, t3⟩ := tmodM n
  obtain ⟨r0, hr0⟩ : ∃ r0, n.tmod 21600000 = r0 := ⟨_, rfl⟩
  rw [hr0] at t1 t2 t3
  by_cases hx : M % 1800000 = 0
  · obtain ⟨k, hk⟩ : ∃ k, M / 1800000 = k := ⟨_, rfl⟩
    have hk2 : M = 1800000 * k := by omega
    have hk3 : k ≤ 11 := by omega
    rcases (show k = 0 ∨ k = 1 ∨ k = 2 ∨ k = 3 ∨ k = 4 ∨ k = 5 ∨ k = 6 ∨ k = 7 ∨ k = 8 ∨ k = 9 ∨ k = 10 ∨ k = 11 by omega) with rfl | rfl | rfl | rfl | rfl | rfl | rfl | rfl | rfl | rfl | rfl | rfl
    · obtain ⟨a, b⟩ := exV_k 0 n (by omega) (by omega) (by omega) true (by decide)
      rw [a, b]
      by_cases h : r0 < 0
      · have := rEx_0_1 n r0 w hr0 h (by have := t1 h; omega) t3
        exact this
      · have := rEx_0_0 n r0 w hr0 h (by have := t2 h; omega) t3
        exact this
    · obtain ⟨a, b⟩ := exV_k 1 n (by omega) (by omega) (by omega) true (by decide)
      rw [a, b]
      by_cases h : r0 < 0
      · have := rEx_1_1 n r0 w hr0 h (by have := t1 h; omega) t3
        exact this
      · have := rEx_1_0 n r0 w hr0 h (by have := t2 h; omega) t3
        exact this
    · obtain ⟨a, b⟩ := exV_k 2 n (by omega) (by omega) (by omega) false (by decide)
      rw [a, b]
      by_cases h : r0 < 0
      · have := rEx_2_1 n r0 w hr0 h (by have := t1 h; omega) t3
        exact this
      · have := rEx_2_0 n r0 w hr0 h (by have := t2 h; omega) t3
        exact this
    · obtain ⟨a, b⟩ := exV_k 3 n (by omega) (by omega) (by omega) true (by decide)
      rw [a, b]
      by_cases h : r0 < 0
      · have := rEx_3_1 n r0 w hr0 h (by have := t1 h; omega) t3
        exact this
      · have := rEx_3_0 n r0 w hr0 h (by have := t2 h; omega) t3
        exact this
    · obtain ⟨a, b⟩ := exV_k 4 n (by omega) (by omega) (by omega) false (by decide)
      rw [a, b]
      by_cases h : r0 < 0
      · have := rEx_4_1 n r0 w hr0 h (by have := t1 h; omega) t3
        exact this
      · have := rEx_4_0 n r0 w hr0 h (by have := t2 h; omega) t3
        exact this
    · obtain ⟨a, b⟩ := exV_k 5 n (by omega) (by omega) (by omega) true (by decide)
      rw [a, b]
      by_cases h : r0 < 0
      · have := rEx_5_1 n r0 w hr0 h (by have := t1 h; omega) t3
        exact this
      · have := rEx_5_0 n r0 w hr0 h (by have := t2 h; omega) t3
        exact this
    · obtain ⟨a, b⟩ := exV_k 6 n (by omega) (by omega) (by omega) true (by decide)
      rw [a, b]
      by_cases h : r0 < 0
      · have := rEx_6_1 n r0 w hr0 h (by have := t1 h; omega) t3
        exact this
      · have := rEx_6_0 n r0 w hr0 h (by have := t2 h; omega) t3
        exact this
    · obtain ⟨a, b⟩ := exV_k 7 n (by omega) (by omega) (by omega) true (by decide)
      rw [a, b]
      by_cases h : r0 < 0
      · have := rEx_7_1 n r0 w hr0 h (by have := t1 h; omega) t3
        exact this
      · have := rEx_7_0 n r0 w hr0 h (by have := t2 h; omega) t3
        exact this
    · obtain ⟨a, b⟩ := exV_k 8 n (by omega) (by omega) (by omega) false (by decide)
      rw [a, b]
      by_cases h : r0 < 0
      · have := rEx_8_1 n r0 w hr0 h (by have := t1 h; omega) t3
        exact this
      · have := rEx_8_0 n r0 w hr0 h (by have := t2 h; omega) t3
        exact this
    · obtain ⟨a, b⟩ := exV_k 9 n (by omega) (by omega) (by omega) true (by decide)
      rw [a, b]
      by_cases h : r0 < 0
      · have := rEx_9_1 n r0 w hr0 h (by have := t1 h; omega) t3
        exact this
      · have := rEx_9_0 n r0 w hr0 h (by have := t2 h; omega) t3
        exact this
    · obtain ⟨a, b⟩ := exV_k 10 n (by omega) (by omega) (by omega) false (by decide)
      rw [a, b]
      by_cases h : r0 < 0
      · have := rEx_10_1 n r0 w hr0 h (by have := t1 h; omega) t3
        exact this
      · have := rEx_10_0 n r0 w hr0 h (by have := t2 h; omega) t3
        exact this
    · obtain ⟨a, b⟩ := exV_k 11 n (by omega) (by omega) (by omega) true (by decide)
      rw [a, b]
      by_cases h : r0 < 0
      · have := rEx_11_1 n r0 w hr0 h (by have := t1 h; omega) t3
        exact this
      · have := rEx_11_0 n r0 w hr0 h (by have := t2 h; omega) t3
        exact this
  · have e : L6.ex n = false := by
      unfold L6.ex
      rw [hm, decide_eq_false (by omega), Bool.false_and]
    rw [e, if_neg (by simp)]
    have hb : ((M : Int) % 1800000 != 0) = true := by rw [bne_iff_ne]; omega
    by_cases h : r0 < 0
    · exact rEx_no1 n M r0 w hr0 h (t1 h) t3 hM hb
    · exact rEx_no0 n M r0 w hr0 h (t2 h) t3 hM hb
theorem qk_in (n : Int) : -4611686018427387904 ≤ L6.qk n ∧ L6.qk n ≤ 4611686018427387904 := by
  have := vk_in n
  unfold L6.qk
  split <;> omega
set_option maxHeartbeats 2000000 in
theorem rFloor_yes (n x : Int) (w : World) (C : ∀ wx, Calls Tryd.prog 52 #[.int .i64 n] wx fun e w' => e = .returned (.tuple #[.int .i64 x, .bool true]) ∧ Below wx.heap.size wx w') :
    Calls Tryd.prog 40 #[.int .i64 n] w fun e w' => e = .returned (.tuple #[.int .i64 x, .bool true]) ∧ Below w.heap.size w w' := by
  have CC := Lib.hid C
  clear C
  go_enter Tryd.func40, Tryd.ntmps40
  go_wp2_with fail
  refine (CC.out _).mono ?_
  rintro e w1 ⟨rfl, hb⟩
  go_wp2_with fail
  go_ret2
  exact ⟨rfl, hb⟩
set_option maxHeartbeats 2000000 in
theorem rFloor_no (n v f : Int) (w : World) (C : ∀ wx, Calls Tryd.prog 52 #[.int .i64 n] wx fun e w' => e = .returned (.tuple #[.int .i64 0, .bool false]) ∧ Below wx.heap.size wx w')
    (C2 : ∀ wx, Calls Tryd.prog 53 #[.int .i64 n] wx fun e w' => e = .returned (.int .i64 v) ∧ w' = wx) (v1 : -4611686018427387904 ≤ v) (v2 : v ≤ 4611686018427387904)
    (d1 : (v - 256) / 4294967296 = f) (d2 : (v + 256) / 4294967296 = f) (d3 : v / 4294967296 = f) :
    Calls Tryd.prog 40 #[.int .i64 n] w fun e w' => e = .returned (.tuple #[.int .i64 f, .bool false]) ∧ Below w.heap.size w w' := by
  have CC := Lib.hid C
  have CC2 := Lib.hid C2
  clear C C2
  go_enter Tryd.func40, Tryd.ntmps40
  go_wp2_with fail
  refine (CC.out _).mono ?_
  rintro e w1 ⟨rfl, hb⟩
  have HB := Lib.hid hb
  clear hb
  go_wp2_with fail
  refine (CC2.out _).mono ?_
  rintro e w2 ⟨rfl, hww⟩
  replace hww := hww.symm
  subst hww
  go_wp2_with fail
  go_ret2
  exact ⟨rfl, HB.out⟩
/-- the reference's floor of a sine -/
theorem rFloor6 (n : Int) (w : World) : Calls Tryd.prog 40 #[.int .i64 n] w fun e w' => e = .returned (.tuple #[.int .i64 (L6.fl n), .bool (L6.ex n)]) ∧ Below w.heap.size w w' := by
  have C := fun wx => rExact n wx
  cases hx : L6.ex n
  · rw [hx, if_neg (by simp)] at C
    obtain ⟨d1, d2, d3⟩ := L6.qk_decides n hx
    obtain ⟨v1, v2⟩ := qk_in n
    exact rFloor_no n (L6.qk n) (L6.fl n) w C (fun wx => rQuickN n wx) v1 v2 d1 d2 d3
  · rw [hx, if_pos rfl] at C
    have e : L6.fl n = L6.exV (L6.mT n / 1800000) := by unfold L6.fl; rw [if_pos hx]
    rw [e]
    exact rFloor_yes n _ w C
end Go.Proofs.YtglmkpnnbgkndaaDoor
