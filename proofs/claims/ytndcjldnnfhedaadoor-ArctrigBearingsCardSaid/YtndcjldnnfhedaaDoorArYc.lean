/- Arctrig: the reference's Rough: between -2^31 and 2^31. -/
import Derived.Test.YtndcjldnnfhedaaDoorArd
namespace Go.Proofs.YtndcjldnnfhedaaDoor
open Go.RowKit
set_option linter.unusedVariables false
set_option maxRecDepth 100000

theorem roughd_step {y t K : Nat} (hy : y ≤ 2650000000) (ht : t ≤ 1073741824) (hk : 6 ≤ K) : y * t ≤ 2845415833600000000 ∧ y * t / 1073741824 / K ≤ 1073741824 := by
  have m := Nat.mul_le_mul hy ht
  refine ⟨by omega, ?_⟩
  have a : y * t / 1073741824 ≤ 2650000000 := by omega
  refine Nat.le_trans (Nat.div_le_div_left hk (by omega)) ?_
  omega
theorem ret_vv {a b : Int} (h : a = b) : Value.int .i64 a = Value.int .i64 b := by rw [h]
set_option maxHeartbeats 4000000 in
theorem roughd_pos (n : Nat) (h : n ≤ 5400000) : ∃ r : Nat, r ≤ 2147483648 ∧ ∀ w, Calls Tryd.prog 68 #[.int .i64 (n : Int)] w fun e w' => e = .returned (.int .i64 (r : Int)) ∧ w' = w := by
  obtain ⟨x, hx⟩ : ∃ x, n * 3373259426 / 10800000 = x := ⟨_, rfl⟩
  have x1 : x ≤ 1686629713 := by omega
  obtain ⟨X, hX⟩ : ∃ X, x * x = X := ⟨_, rfl⟩
  have X1 : X ≤ 2844719788781102369 := by have := Nat.mul_le_mul x1 x1; omega
  obtain ⟨y, hy⟩ : ∃ y, X / 1073741824 = y := ⟨_, rfl⟩
  have y1 : y ≤ 2650000000 := by omega
  have T : ∀ t : Nat, t ≤ 1073741824 → ∀ K : Nat, 6 ≤ K → y * t ≤ 2845415833600000000 ∧ y * t / 1073741824 / K ≤ 1073741824 := fun t ht K hk => roughd_step y1 ht hk
  obtain ⟨F, hF⟩ : ∃ F : Nat → Nat → Nat, F = fun K t => 1073741824 - y * t / 1073741824 / K := ⟨_, rfl⟩
  have F1 : ∀ K t, F K t ≤ 1073741824 := fun K t => by rw [hF]; exact Nat.sub_le _ _
  obtain ⟨t6, ht6⟩ : ∃ t, t = F 6 (F 20 (F 42 (F 72 (F 110 (F 156 1073741824))))) := ⟨_, rfl⟩
  have b6 : t6 ≤ 1073741824 := by rw [ht6]; exact F1 _ _
  obtain ⟨Y, hY⟩ : ∃ Y, x * t6 = Y := ⟨_, rfl⟩
  have Y1 : Y ≤ 1811004864449216512 := by have := Nat.mul_le_mul x1 b6; omega
  refine ⟨Y / 1073741824, by omega, fun w => ?_⟩
  have i0 : ¬ (n : Int) < 0 := by omega
  have i1 : (n : Int) * 3373259426 / 10800000 = (x : Int) := by omega
  have i2 : (x : Int) * (x : Int) = (X : Int) := by rw [← Int.natCast_mul, hX]
  have i3 : (X : Int) / 1073741824 = (y : Int) := by omega
  have i4 : (x : Int) * (t6 : Int) = (Y : Int) := by rw [← Int.natCast_mul, hY]
  have G : ∀ (j : Nat), j ≤ 6 → Nat := fun j _ => 0
  have HT := Lib.hid T
  have HF := Lib.hid hF
  have H6 := Lib.hid ht6
  have B1 := Lib.hid F1
  clear T hF ht6 F1 hX hY hx hy G
  go_enter Tryd.func68, Tryd.ntmps68
  go_wp2_with fail
  go_loopg [5, 6] 6 (fun m v5 v6 wr => ∃ (k t : Nat), v5 = .int .i64 (t : Int) ∧ v6 = .int .i64 (k : Int) ∧ Hid ((k = 13 ∧ t = 1073741824 ∧ m = 6) ∨ (k = 11 ∧ t = F 156 1073741824 ∧ m = 5) ∨ (k = 9 ∧ t = F 110 (F 156 1073741824) ∧ m = 4) ∨ (k = 7 ∧ t = F 72 (F 110 (F 156 1073741824)) ∧ m = 3) ∨ (k = 5 ∧ t = F 42 (F 72 (F 110 (F 156 1073741824))) ∧ m = 2) ∨ (k = 3 ∧ t = F 20 (F 42 (F 72 (F 110 (F 156 1073741824)))) ∧ m = 1) ∨ (k = 1 ∧ t = t6 ∧ m = 0)) ∧ wr = w)
  case atStart => exact ⟨13, 1073741824, rfl, rfl, .inl ⟨rfl, rfl, rfl⟩, rfl⟩
  case round =>
    obtain ⟨k, t, rfl, rfl, hr, rfl⟩ := hrel
    have step : ∀ K : Nat, 6 ≤ K → t ≤ 1073741824 → ∃ z : Nat, (y : Int) * (t : Int) = (z : Int) ∧ z ≤ 2845415833600000000 ∧ (z : Int) / 1073741824 / (K : Int) ≤ 1073741824 ∧ 0 ≤ (z : Int) / 1073741824 / (K : Int) ∧ (1073741824 - (z : Int) / 1073741824 / (K : Int)) = ((F K t : Nat) : Int) := fun K hK ht => by
      obtain ⟨s1, s2⟩ := HT.out t ht K hK
      refine ⟨y * t, by rw [Int.natCast_mul], s1, ?_⟩
      have e : ((y * t : Nat) : Int) / 1073741824 / (K : Int) = ((y * t / 1073741824 / K : Nat) : Int) := rfl
      rw [e, HF.out]
      show _ ∧ _ ∧ _ = ((1073741824 - y * t / 1073741824 / K : Nat) : Int)
      generalize y * t / 1073741824 / K = qq at *
      omega
    rcases hr.out with ⟨rfl, ht, rfl⟩ | ⟨rfl, ht, rfl⟩ | ⟨rfl, ht, rfl⟩ | ⟨rfl, ht, rfl⟩ | ⟨rfl, ht, rfl⟩ | ⟨rfl, ht, rfl⟩ | ⟨rfl, ht, rfl⟩
    · have tb : t ≤ 1073741824 := by rw [ht]; first | exact Nat.le_refl _ | exact B1.out _ _
      obtain ⟨z, z1, z2, z3, z4, z5⟩ := step 156 (by omega) tb
      have Q := Lib.hid ht
      clear step hr ht
      simp at z3 z4 z5
      obtain ⟨q, hq⟩ : ∃ q, F 156 t = q := ⟨_, rfl⟩
      rw [hq] at z5
      have Hq := Lib.hid hq
      clear hq
      go_wp2_with fail
      go_roundg 5
      case measure => omega
      case rel => exact ⟨11, q, ret_vv (by omega), rfl, .inr (.inl ⟨rfl, by rw [← Hq.out, Q.out], rfl⟩), rfl⟩
    · have tb : t ≤ 1073741824 := by rw [ht]; first | exact Nat.le_refl _ | exact B1.out _ _
      obtain ⟨z, z1, z2, z3, z4, z5⟩ := step 110 (by omega) tb
      have Q := Lib.hid ht
      clear step hr ht
      simp at z3 z4 z5
      obtain ⟨q, hq⟩ : ∃ q, F 110 t = q := ⟨_, rfl⟩
      rw [hq] at z5
      have Hq := Lib.hid hq
      clear hq
      go_wp2_with fail
      go_roundg 4
      case measure => omega
      case rel => exact ⟨9, q, ret_vv (by omega), rfl, .inr (.inr (.inl ⟨rfl, by rw [← Hq.out, Q.out], rfl⟩)), rfl⟩
    · have tb : t ≤ 1073741824 := by rw [ht]; first | exact Nat.le_refl _ | exact B1.out _ _
      obtain ⟨z, z1, z2, z3, z4, z5⟩ := step 72 (by omega) tb
      have Q := Lib.hid ht
      clear step hr ht
      simp at z3 z4 z5
      obtain ⟨q, hq⟩ : ∃ q, F 72 t = q := ⟨_, rfl⟩
      rw [hq] at z5
      have Hq := Lib.hid hq
      clear hq
      go_wp2_with fail
      go_roundg 3
      case measure => omega
      case rel => exact ⟨7, q, ret_vv (by omega), rfl, .inr (.inr (.inr (.inl ⟨rfl, by rw [← Hq.out, Q.out], rfl⟩))), rfl⟩
    · have tb : t ≤ 1073741824 := by rw [ht]; first | exact Nat.le_refl _ | exact B1.out _ _
      obtain ⟨z, z1, z2, z3, z4, z5⟩ := step 42 (by omega) tb
      have Q := Lib.hid ht
      clear step hr ht
      simp at z3 z4 z5
      obtain ⟨q, hq⟩ : ∃ q, F 42 t = q := ⟨_, rfl⟩
      rw [hq] at z5
      have Hq := Lib.hid hq
      clear hq
      go_wp2_with fail
      go_roundg 2
      case measure => omega
      case rel => exact ⟨5, q, ret_vv (by omega), rfl, .inr (.inr (.inr (.inr (.inl ⟨rfl, by rw [← Hq.out, Q.out], rfl⟩)))), rfl⟩
    · have tb : t ≤ 1073741824 := by rw [ht]; first | exact Nat.le_refl _ | exact B1.out _ _
      obtain ⟨z, z1, z2, z3, z4, z5⟩ := step 20 (by omega) tb
      have Q := Lib.hid ht
      clear step hr ht
      simp at z3 z4 z5
      obtain ⟨q, hq⟩ : ∃ q, F 20 t = q := ⟨_, rfl⟩
      rw [hq] at z5
      have Hq := Lib.hid hq
      clear hq
      go_wp2_with fail
      go_roundg 1
      case measure => omega
      case rel => exact ⟨3, q, ret_vv (by omega), rfl, .inr (.inr (.inr (.inr (.inr (.inl ⟨rfl, by rw [← Hq.out, Q.out], rfl⟩))))), rfl⟩
    · have tb : t ≤ 1073741824 := by rw [ht]; first | exact Nat.le_refl _ | exact B1.out _ _
      obtain ⟨z, z1, z2, z3, z4, z5⟩ := step 6 (by omega) tb
      have Q := Lib.hid ht
      clear step hr ht
      simp at z3 z4 z5
      obtain ⟨q, hq⟩ : ∃ q, F 6 t = q := ⟨_, rfl⟩
      rw [hq] at z5
      have Hq := Lib.hid hq
      clear hq
      go_wp2_with fail
      go_roundg 0
      case measure => omega
      case rel => exact ⟨1, q, ret_vv (by omega), rfl, .inr (.inr (.inr (.inr (.inr (.inr (⟨rfl, by rw [← Hq.out, Q.out, H6.out], rfl⟩)))))), rfl⟩
    · subst ht
      clear step hr
      go_wp2_with fail
      go_ret
      exact ⟨ret_int (by omega), rfl⟩
theorem roughd_any (n : Int) (h1 : -5400000 ≤ n) (h2 : n ≤ 5400000) : ∃ r : Int, -2147483648 ≤ r ∧ r ≤ 2147483648 ∧ ∀ w, Calls Tryd.prog 68 #[.int .i64 n] w fun e w' => e = .returned (.int .i64 r) ∧ w' = w := by
  by_cases h : n < 0
  · obtain ⟨k, rfl⟩ : ∃ k : Nat, n = -(k : Int) := ⟨(-n).toNat, by omega⟩
    obtain ⟨r, hr, C⟩ := roughd_pos k (by omega)
    have z : 0 - -(k : Int) = (k : Int) := by omega
    refine ⟨-(r : Int), by omega, by omega, fun w => ?_⟩
    have CC := Lib.hid C
    clear C
    go_enter Tryd.func68, Tryd.ntmps68
    go_wp2_with fail
    refine (CC.out _).mono ?_
    rintro e w1 ⟨rfl, rfl⟩
    go_wp2_with fail
    go_ret
    exact ⟨ret_int (by omega), rfl⟩
  · obtain ⟨r, hr, C⟩ := roughd_pos n.toNat (by omega)
    rw [show (n.toNat : Int) = n by omega] at C
    exact ⟨(r : Int), by omega, by omega, C⟩
end Go.Proofs.YtndcjldnnfhedaaDoor
