/- Arctrig: angles grow with slopes; angles of a half plane. No run of the model here. -/
import Derived.Test.YtebhflmmdfbjkaaDoorPlf
namespace Go.Proofs.YtebhflmmdfbjkaaDoor.L6
set_option linter.unusedVariables false
set_option maxRecDepth 100000

theorem SN_cos_nonneg (n : Int) (h0 : 0 < n) (h1 : n < 5400000) : 0 ≤ SN (n + 5400000) := by
  obtain ⟨d1, d2, d3, d4, d5⟩ := rd_in n
  have em : mT n = n := by unfold mT; omega
  have q0 : qd n = 0 := by omega
  obtain ⟨q1, q2, q3, q4⟩ := quarter_on n
  have e1 : SN (n + 5400000) = bs (n + 5400000) := by unfold SN sgn; rw [if_neg (by omega)]
  rw [e1]
  have hr := rr_in (n + 5400000)
  have C := (eighth (rr (n + 5400000)) hr).2
  have S : 0 ≤ sz (rr (n + 5400000)) := by
    rcases Nat.eq_zero_or_pos (rr (n + 5400000)) with c | c
    · rw [c]; show 0 ≤ sz 0; rw [sz_zero]; exact Rat.le_refl
    · have := (eighth (rr (n + 5400000)) hr).1 c
      have b0 : 0 ≤ b8 + 1 / ((2 ^ 81 : Nat) : Rat) := by decide +kernel
      grind
  unfold bs
  split
  · generalize cz (rr (n + 5400000)) = c at *
    grind
  · exact S
theorem sign_cases (a : Int) : (a < 0 ∧ a.sign = -1) ∨ (a = 0 ∧ a.sign = 0) ∨ (0 < a ∧ a.sign = 1) := by
  rcases Int.lt_trichotomy a 0 with c | c | c
  · exact .inl ⟨c, Int.sign_eq_neg_one_of_neg c⟩
  · subst c; exact .inr (.inl ⟨rfl, rfl⟩)
  · exact .inr (.inr ⟨c, Int.sign_eq_one_of_pos c⟩)
theorem sign_le {a b : Int} (h : a ≤ b) : a.sign ≤ b.sign := by
  rcases sign_cases a with ⟨p, q⟩ | ⟨p, q⟩ | ⟨p, q⟩ <;> rcases sign_cases b with ⟨p', q'⟩ | ⟨p', q'⟩ | ⟨p', q'⟩ <;> rw [q, q'] <;> omega
/-- a greater slope has a lesser side -/
theorem sd_slope {n X Y X' Y' : Int} (h0 : 0 ≤ n) (h1 : n ≤ 5400000) (x0 : 0 < X) (y0 : 0 ≤ Y) (x0' : 0 < X') (y0' : 0 ≤ Y') (h : Y * X' ≤ Y' * X) : sd n X' Y' ≤ sd n X Y := by
  by_cases c : n % 2700000 = 0
  · rcases (show n = 0 ∨ n = 2700000 ∨ n = 5400000 by omega) with e | e | e <;> subst e
    · rw [sd_zero, sd_zero]
      rcases (show Y = 0 ∨ 0 < Y by omega) with d | d
      · rw [d, Int.neg_zero]; exact sign_le (by omega)
      · have : 0 < Y' := by
          refine Classical.byContradiction fun k => ?_
          have : Y' = 0 := by omega
          subst this
          have := Int.mul_pos d x0'
          omega
        rw [Int.sign_eq_neg_one_of_neg (by omega), Int.sign_eq_neg_one_of_neg (by omega)]
        exact Int.le_refl _
    · rw [sd_mid, sd_mid]
      rcases sign_cases (X - Y) with ⟨a, b⟩ | ⟨a, b⟩ | ⟨a, b⟩ <;> rcases sign_cases (X' - Y') with ⟨a', b'⟩ | ⟨a', b'⟩ | ⟨a', b'⟩ <;> rw [b, b'] <;> try omega
      · exfalso
        have e : Y' = X' := by omega
        subst e
        have := Int.mul_lt_mul_of_pos_left (show X < Y by omega) x0'
        rw [Int.mul_comm Y'] at h
        have : Y * Y' = Y' * Y := Int.mul_comm _ _
        have : X * Y' = Y' * X := Int.mul_comm _ _
        omega
      · exfalso
        have m1 := Int.mul_lt_mul_of_pos_left (show X < Y by omega) x0'
        have m2 := Int.mul_lt_mul_of_pos_left (show Y' < X' by omega) x0
        have : Y * X' = X' * Y := Int.mul_comm _ _
        have : X' * X = X * X' := Int.mul_comm _ _
        have : Y' * X = X * Y' := Int.mul_comm _ _
        omega
      · exfalso
        have e : X = Y := by omega
        subst e
        have m2 := Int.mul_lt_mul_of_pos_left (show Y' < X' by omega) x0
        have : Y' * X = X * Y' := Int.mul_comm _ _
        omega
    · rw [sd_quarter, sd_quarter, Int.sign_eq_one_of_pos x0, Int.sign_eq_one_of_pos x0']; exact Int.le_refl _
  · rw [sd_other h0 h1 c (by omega), sd_other h0 h1 c (by omega)]
    by_cases k : 0 < tS n X' Y'
    · rw [if_pos k, if_pos]
      · exact Int.le_refl _
      · refine Classical.byContradiction fun q => ?_
        have C := SN_cos_nonneg n (by omega) (by omega)
        have X0 := one_le x0
        have X0' := one_le x0'
        have hr := (Rat.intCast_le_intCast).2 h
        rw [Rat.intCast_mul, Rat.intCast_mul] at hr
        unfold tS at k q
        generalize SN n = s at *
        generalize SN (n + 5400000) = t at *
        generalize (X : Rat) = x at *
        generalize (Y : Rat) = y at *
        generalize (X' : Rat) = x' at *
        generalize (Y' : Rat) = y' at *
        have m1 := Rat.mul_pos (show 0 < x by grind) k
        have m2 := Rat.mul_le_mul_of_nonneg_left (show x * s - y * t ≤ 0 by grind) (show 0 ≤ x' by grind)
        have m3 := Rat.mul_le_mul_of_nonneg_right hr C
        have e1 : x * (x' * s - y' * t) = x * x' * s - y' * x * t := by grind
        have e2 : x' * (x * s - y * t) = x * x' * s - y * x' * t := by grind
        rw [e1] at m1
        rw [e2] at m2
        generalize x * x' * s = u at *
        generalize y' * x * t = v at *
        generalize y * x' * t = w at *
        grind
    · rw [if_neg k]
      split <;> decide
theorem gN_slope {X Y X' Y' : Int} (x0 : 0 < X) (x1 : X ≤ 2147483648) (y0 : 0 ≤ Y) (y1 : Y ≤ 2147483648) (x0' : 0 < X') (x1' : X' ≤ 2147483648) (y0' : 0 ≤ Y') (y1' : Y' ≤ 2147483648) (h : Y * X' ≤ Y' * X) : gN X Y ≤ gN X' Y' ∧ gU X Y ≤ gU X' Y' := by
  obtain ⟨a1, a2, a3, a4⟩ := gN_is X Y x0 y0
  obtain ⟨b1, b2, b3, b4⟩ := gN_is X' Y' x0' y0'
  have s1 := sd_slope (n := gN X Y) a1 (by omega) x0 y0 x0' y0' h
  have g : gN X Y ≤ gN X' Y' := by
    refine Classical.byContradiction fun c => ?_
    have := sd_mono (gN X' Y' + 1) (gN X Y) X' Y' (by omega) (by omega) (by omega) x0' x1' y0' y1'
    omega
  refine ⟨g, ?_⟩
  unfold gU
  by_cases e : sd (gN X' Y') X' Y' = 0
  · rw [if_pos e]
    by_cases f : gN X Y = gN X' Y'
    · rw [f] at s1 a3 ⊢
      rw [if_pos (by omega)]
      exact Int.le_refl _
    · split <;> omega
  · rw [if_neg e]
    split <;> omega
/-- the angle from the other axis -/
theorem g_swap {X Y : Int} (x0 : 0 < X) (x1 : X ≤ 2147483648) (y0 : 0 < Y) (y1 : Y ≤ 2147483648) : gN Y X = 5400000 - gU X Y ∧ gU Y X = 5400000 - gN X Y := by
  rcases Int.lt_trichotomy X Y with c | c | c
  · obtain ⟨e1, e2, e3⟩ := g_mirror x0 c y1
    omega
  · subst c
    obtain ⟨e1, e2⟩ := g_mid X x0 x1
    omega
  · obtain ⟨e1, e2, e3⟩ := g_mirror y0 c x1
    omega
/-- angles of a half plane, rounded down and up -/
noncomputable def hD (X Y : Int) : Int := if 0 ≤ Y then gN X Y else -gU X (-Y)
noncomputable def hU' (X Y : Int) : Int := if 0 ≤ Y then gU X Y else -gN X (-Y)
theorem g_in' (X Y : Int) (x0 : 0 < X) (y0 : 0 ≤ Y) : 0 ≤ gN X Y ∧ gN X Y < 5400000 ∧ gN X Y ≤ gU X Y ∧ gU X Y ≤ gN X Y + 1 := by
  obtain ⟨a, b, -, -⟩ := gN_is X Y x0 y0
  unfold gU
  split <;> omega
theorem g_pos {X Y : Int} (x0 : 0 < X) (x1 : X ≤ 2147483648) (y0 : 0 < Y) (y1 : Y ≤ 2147483648) : 1 ≤ gU X Y := by
  have e := (g_swap x0 x1 y0 y1).1
  have := (g_in' Y X y0 (by omega)).2.1
  omega
theorem h_in {X Y : Int} (x0 : 0 < X) (y1 : Y.natAbs ≤ 2147483648) : -5400000 ≤ hD X Y ∧ hD X Y < 5400000 ∧ hD X Y ≤ hU' X Y ∧ hU' X Y ≤ hD X Y + 1 ∧ hU' X Y ≤ 5400000 := by
  unfold hD hU'
  by_cases c : 0 ≤ Y
  · rw [if_pos c, if_pos c]
    have := g_in' X Y x0 c
    omega
  · rw [if_neg c, if_neg c]
    have := g_in' X (-Y) x0 (by omega)
    omega
theorem h_neg {X Y : Int} (x0 : 0 < X) (x1 : X ≤ 2147483648) : hD X (-Y) = -hU' X Y ∧ hU' X (-Y) = -hD X Y := by
  unfold hD hU'
  rcases Int.lt_trichotomy Y 0 with c | c | c
  · rw [if_pos (by omega), if_neg (by omega), if_pos (by omega), if_neg (by omega)]; omega
  · subst c
    obtain ⟨e1, e2⟩ := g_axis X x0 x1
    rw [Int.neg_zero, if_pos (by omega), if_pos (by omega), e1, e2]; omega
  · rw [if_neg (by omega), if_pos (by omega), if_neg (by omega), if_pos (by omega), Int.neg_neg]; omega
/-- they grow with the slope -/
theorem h_slope {X Y X' Y' : Int} (x0 : 0 < X) (x1 : X ≤ 2147483648) (y1 : Y.natAbs ≤ 2147483648) (x0' : 0 < X') (x1' : X' ≤ 2147483648) (y1' : Y'.natAbs ≤ 2147483648) (h : Y * X' ≤ Y' * X) : hD X Y ≤ hD X' Y' ∧ hU' X Y ≤ hU' X' Y' := by
  unfold hD hU'
  by_cases c : 0 ≤ Y
  · have c' : 0 ≤ Y' := by
      refine Classical.byContradiction fun k => ?_
      have m1 := Int.mul_nonneg c (Int.le_of_lt x0')
      have m2 := Int.mul_pos (show 0 < -Y' by omega) x0
      rw [Int.neg_mul] at m2
      omega
    rw [if_pos c, if_pos c', if_pos c, if_pos c']
    exact gN_slope x0 x1 c (by omega) x0' x1' c' (by omega) h
  · rw [if_neg c, if_neg c]
    by_cases c' : 0 ≤ Y'
    · rw [if_pos c', if_pos c']
      have a := g_in' X (-Y) x0 (by omega)
      have b := g_in' X' Y' x0' c'
      omega
    · rw [if_neg c', if_neg c']
      have := gN_slope x0' x1' (show 0 ≤ -Y' by omega) (by omega) x0 x1 (show 0 ≤ -Y by omega) (by omega) (by rw [Int.neg_mul, Int.neg_mul]; omega)
      omega
theorem h_low {X Y : Int} (x0 : 0 < X) (x1 : X ≤ 2147483648) (y0 : Y < 0) (y1 : Y.natAbs ≤ 2147483648) : hD X Y ≤ -1 ∧ hU' X Y ≤ 0 := by
  unfold hD hU'
  rw [if_neg (by omega), if_neg (by omega)]
  have a := g_in' X (-Y) x0 (by omega)
  have b := g_pos x0 x1 (show 0 < -Y by omega) (by omega)
  omega
theorem h_up {X Y : Int} (x0 : 0 < X) (y0 : 0 ≤ Y) : hD X Y = gN X Y ∧ hU' X Y = gU X Y ∧ 0 ≤ hD X Y := by
  unfold hD hU'
  rw [if_pos y0, if_pos y0]
  exact ⟨rfl, rfl, (g_in' X Y x0 y0).1⟩
end Go.Proofs.YtebhflmmdfbjkaaDoor.L6
