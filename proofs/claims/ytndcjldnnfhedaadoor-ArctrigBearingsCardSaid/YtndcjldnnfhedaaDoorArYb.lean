/- Arctrig: the reference's sign, quickSide. -/
import Derived.Test.YtndcjldnnfhedaaDoorArd
namespace Go.Proofs.YtndcjldnnfhedaaDoor
open Go.RowKit
set_option linter.unusedVariables false
set_option maxRecDepth 100000

theorem rSign (d : Int) (w : World) : Calls Tryd.prog 69 #[.int .i64 d] w fun e w' => e = .returned (.int .i64 d.sign) ∧ w' = w := by
  rcases Int.lt_trichotomy d 0 with h | h | h
  · rw [Int.sign_eq_neg_one_of_neg h]
    go_enter Tryd.func69, Tryd.ntmps69
    go_wp2_with fail
    go_ret
    exact ⟨rfl, rfl⟩
  · subst h
    go_enter Tryd.func69, Tryd.ntmps69
    go_wp2_with fail
    go_ret
    exact ⟨rfl, rfl⟩
  · rw [Int.sign_eq_one_of_pos h]
    have h' : ¬ d < 0 := by omega
    go_enter Tryd.func69, Tryd.ntmps69
    go_wp2_with fail
    go_ret
    exact ⟨rfl, rfl⟩
theorem mask30 (l : Int) : bits .and .i64 l 1073741823 = l % 1073741824 := by
  have h2 : (BitVec.ofInt 64 (1073741823 : Int)).toNat = 1073741823 := by decide
  have h1 : (BitVec.ofInt 64 l).toNat = (l % 18446744073709551616).toNat := by rw [BitVec.toNat_ofInt]; rfl
  show IntKind.i64.wrap ((BitVec.ofInt 64 l &&& BitVec.ofInt 64 1073741823).toNat : Int) = _
  rw [BitVec.toNat_and, h1, h2, show (1073741823 : Nat) = 2 ^ 30 - 1 by rfl, Nat.and_two_pow_sub_one_eq_mod, IntKind.wrap_i64]
  omega
theorem prod30 {a b : Int} (a1 : -2147483648 ≤ a) (a2 : a ≤ 2147483648) (b1 : -1073741824 ≤ b) (b2 : b ≤ 1073741824) : -2305843009213693952 ≤ a * b ∧ a * b ≤ 2305843009213693952 := by
  have := mul_abs (A := 2147483648) (B := 1073741824) a1 a2 b1 b2
  omega
theorem rQs (n X Y v u s c p q p' q' a1 a2 a3 a4 e W m r : Int) (w : World) (h0 : 0 ≤ n) (hn : n < 21600000)
    (Cv : ∀ wx, Calls Tryd.prog 98 #[.int .i64 n] wx fun e w' => e = .returned (.int .i64 v) ∧ w' = wx)
    (Cu : ∀ wx, Calls Tryd.prog 98 #[.int .i64 (n + 5400000)] wx fun e w' => e = .returned (.int .i64 u) ∧ w' = wx)
    (X1 : -2147483648 ≤ X) (X2 : X ≤ 2147483648) (Y1 : -2147483648 ≤ Y) (Y2 : Y ≤ 2147483648)
    (v1 : -4611686018427387904 ≤ v) (v2 : v ≤ 4611686018427387904) (u1 : -4611686018427387904 ≤ u) (u2 : u ≤ 4611686018427387904)
    (hs : v / 4 = s) (hc : u / 4 = c) (hp : s / 1073741824 = p) (hq : bits .and .i64 s 1073741823 = q) (hp' : c / 1073741824 = p') (hq' : bits .and .i64 c 1073741823 = q')
    (e1 : X * p = a1) (e2 : Y * p' = a2) (e3 : X * q = a3) (e4 : Y * q' = a4)
    (b1 : -2305843009213693952 ≤ a1 ∧ a1 ≤ 2305843009213693952) (b2 : -2305843009213693952 ≤ a2 ∧ a2 ≤ 2305843009213693952)
    (b3 : -2305843009213693952 ≤ a3 ∧ a3 ≤ 2305843009213693952) (b4 : -2305843009213693952 ≤ a4 ∧ a4 ≤ 2305843009213693952)
    (he : (a3 - a4) / 1073741824 = e) (x y : Int) (hx : max X (-X) = x) (hy : max Y (-Y) = y) (x2 : x ≤ 2147483648) (y2 : y ≤ 2147483648) (x0 : 0 ≤ x) (y0 : 0 ≤ y)
    (hm : (x + y) * 65 / 1073741824 = m)
    (hr : (m + 2 < a1 - a2 + e ∧ r = 1) ∨ (¬ m + 2 < a1 - a2 + e ∧ a1 - a2 + e < -(m + 2) ∧ r = -1) ∨ (¬ m + 2 < a1 - a2 + e ∧ ¬ a1 - a2 + e < -(m + 2) ∧ r = 0)) :
    Calls Tryd.prog 70 #[.int .i64 n, .int .i64 X, .int .i64 Y] w fun e w' => e = .returned (.int .i64 r) ∧ w' = w := by
  have CV := Lib.hid Cv
  have CU := Lib.hid Cu
  clear Cv Cu
  have s1 : -1152921504606846976 ≤ s ∧ s ≤ 1152921504606846976 := by omega
  have c1 : -1152921504606846976 ≤ c ∧ c ≤ 1152921504606846976 := by omega
  have e5 : -4294967296 ≤ e ∧ e ≤ 4294967296 := by omega
  have m1 : 0 ≤ m ∧ m ≤ 300 := by omega
  have zx : 0 - X = -X := by omega
  have zy : 0 - Y = -Y := by omega
  obtain ⟨b11, b12⟩ := b1
  obtain ⟨b21, b22⟩ := b2
  obtain ⟨b31, b32⟩ := b3
  obtain ⟨b41, b42⟩ := b4
  obtain ⟨e51, e52⟩ := e5
  obtain ⟨m11, m12⟩ := m1
  obtain ⟨s11, s12⟩ := s1
  obtain ⟨c11, c12⟩ := c1
  rcases hr with ⟨k1, rfl⟩ | ⟨k1, k2, rfl⟩ | ⟨k1, k2, rfl⟩
  · go_enter Tryd.func70, Tryd.ntmps70
    go_wp2_with fail
    refine (CV.out _).mono ?_
    rintro e w1 ⟨rfl, rfl⟩
    go_wp2_with fail
    refine (CU.out _).mono ?_
    rintro e w1 ⟨rfl, rfl⟩
    go_wp2_with fail
    go_ret
    exact ⟨rfl, rfl⟩
  · go_enter Tryd.func70, Tryd.ntmps70
    go_wp2_with fail
    refine (CV.out _).mono ?_
    rintro e w1 ⟨rfl, rfl⟩
    go_wp2_with fail
    refine (CU.out _).mono ?_
    rintro e w1 ⟨rfl, rfl⟩
    go_wp2_with fail
    go_ret
    exact ⟨rfl, rfl⟩
  · go_enter Tryd.func70, Tryd.ntmps70
    go_wp2_with fail
    refine (CV.out _).mono ?_
    rintro e w1 ⟨rfl, rfl⟩
    go_wp2_with fail
    refine (CU.out _).mono ?_
    rintro e w1 ⟨rfl, rfl⟩
    go_wp2_with fail
    go_ret
    exact ⟨rfl, rfl⟩
theorem rQuickSide (n X Y : Int) (w : World) (h0 : 0 ≤ n) (hn : n < 21600000) (X1 : -2147483648 ≤ X) (X2 : X ≤ 2147483648) (Y1 : -2147483648 ≤ Y) (Y2 : Y ≤ 2147483648) :
    ∃ r : Int, (r = 0 ∨ (r = 1 ∧ 0 < L6.tS n X Y) ∨ (r = -1 ∧ L6.tS n X Y < 0)) ∧ ∀ w, Calls Tryd.prog 70 #[.int .i64 n, .int .i64 X, .int .i64 Y] w fun e w' => e = .returned (.int .i64 r) ∧ w' = w := by
  obtain ⟨v1, v2⟩ := qk_in n
  obtain ⟨u1, u2⟩ := qk_in (n + 5400000)
  have S := L6.side_quick n X Y _ rfl
  have Cv := fun wx => rQuickN n wx
  have Cu := fun wx => rQuickN (n + 5400000) wx
  generalize L6.qk n = v at *
  generalize L6.qk (n + 5400000) = u at *
  obtain ⟨s, hs⟩ : ∃ s, v / 4 = s := ⟨_, rfl⟩
  obtain ⟨c, hc⟩ : ∃ c, u / 4 = c := ⟨_, rfl⟩
  rw [hs, hc] at S
  obtain ⟨p, hp⟩ : ∃ p, s / 1073741824 = p := ⟨_, rfl⟩
  obtain ⟨p', hp'⟩ : ∃ p, c / 1073741824 = p := ⟨_, rfl⟩
  obtain ⟨q, hq⟩ : ∃ q, bits .and .i64 s 1073741823 = q := ⟨_, rfl⟩
  obtain ⟨q', hq'⟩ : ∃ q, bits .and .i64 c 1073741823 = q := ⟨_, rfl⟩
  have gq := hq
  have gq' := hq'
  rw [mask30] at gq gq'
  obtain ⟨x, hx⟩ : ∃ x, max X (-X) = x := ⟨_, rfl⟩
  obtain ⟨y, hy⟩ : ∃ y, max Y (-Y) = y := ⟨_, rfl⟩
  have xb : 0 ≤ x ∧ x ≤ 2147483648 ∧ x = X.natAbs := by omega
  have yb : 0 ≤ y ∧ y ≤ 2147483648 ∧ y = Y.natAbs := by omega
  have b1 := prod30 X1 X2 (b := p) (by omega) (by omega)
  have b2 := prod30 Y1 Y2 (b := p') (by omega) (by omega)
  have b3 := prod30 X1 X2 (b := q) (by omega) (by omega)
  have b4 := prod30 Y1 Y2 (b := q') (by omega) (by omega)
  have es : X * s = X * p * 1073741824 + X * q := by rw [Int.mul_assoc, ← Int.mul_add]; congr 1; omega
  have ec : Y * c = Y * p' * 1073741824 + Y * q' := by rw [Int.mul_assoc, ← Int.mul_add]; congr 1; omega
  rw [es, ec, ← xb.2.2, ← yb.2.2] at S
  have Z := fun (r : Int) (w : World) => rQs n X Y v u s c p q p' q' _ _ _ _ _ 0 _ r w h0 hn Cv Cu X1 X2 Y1 Y2 v1 v2 u1 u2 hs hc hp hq hp' hq' rfl rfl rfl rfl b1 b2 b3 b4 rfl x y hx hy xb.2.1 yb.2.1 xb.1 yb.1 rfl
  generalize X * p = a1 at *
  generalize Y * p' = a2 at *
  generalize X * q = a3 at *
  generalize Y * q' = a4 at *
  obtain ⟨e, he⟩ : ∃ e, (a3 - a4) / 1073741824 = e := ⟨_, rfl⟩
  obtain ⟨m, hm⟩ : ∃ m, (x + y) * 65 / 1073741824 = m := ⟨_, rfl⟩
  rw [he, hm] at Z
  by_cases k1 : m + 2 < a1 - a2 + e
  · exact ⟨1, .inr (.inl ⟨rfl, S.1 (by omega)⟩), fun w => Z 1 w (.inl ⟨k1, rfl⟩)⟩
  · by_cases k2 : a1 - a2 + e < -(m + 2)
    · exact ⟨-1, .inr (.inr ⟨rfl, S.2 (by omega)⟩), fun w => Z (-1) w (.inr (.inl ⟨k1, k2, rfl⟩))⟩
    · exact ⟨0, .inl rfl, fun w => Z 0 w (.inr (.inr ⟨k1, k2, rfl⟩))⟩
end Go.Proofs.YtndcjldnnfhedaaDoor
