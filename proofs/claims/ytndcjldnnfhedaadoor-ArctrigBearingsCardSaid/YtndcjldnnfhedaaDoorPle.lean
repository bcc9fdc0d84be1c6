/- Plain numbers: all rays, sums at any scale, sides. -/
import Derived.Test.YtndcjldnnfhedaaDoorTg24
import Derived.Test.YtndcjldnnfhedaaDoorTg25
import Derived.Test.YtndcjldnnfhedaaDoorTg26
import Derived.Test.YtndcjldnnfhedaaDoorTg27
import Derived.Test.YtndcjldnnfhedaaDoorPlb
/- Trig: rays of all angles but the odd and even eighths are far from small whole points. No run of the model here. -/
namespace Go.Proofs.YtndcjldnnfhedaaDoor.L6
set_option linter.unusedVariables false
set_option maxRecDepth 100000

theorem rays_first (n : Int) (h1 : 1 ≤ n) (h2 : n < 2700000) : Rt (cz n) (sz n) := by
  by_cases a : n < 720897
  · exact segsT24 n (by omega) (by omega)
  by_cases b : n < 1376257
  · exact segsT25 n (by omega) (by omega)
  by_cases c : n < 2031617
  · exact segsT26 n (by omega) (by omega)
  exact segsT27 n (by omega) (by omega)
theorem Rt.swap {c s : Rat} (h : Rt c s) : Rt s c := by
  intro X Y hn hX hY
  have := h Y X (fun k => hn ⟨k.2, k.1⟩) hY hX
  rcases this with k | k
  · right; grind
  · left; grind
theorem Rt.neg_s {c s : Rat} (h : Rt c s) : Rt c (-s) := by
  intro X Y hn hX hY
  have := h (-X) Y (fun k => hn ⟨by omega, k.2⟩) (by omega) hY
  rw [Rat.intCast_neg] at this
  rcases this with k | k
  · left; grind
  · right; grind
theorem Rt.neg_c {c s : Rat} (h : Rt c s) : Rt (-c) s := (h.swap.neg_s).swap
/-- the sine of an angle, by that of the first eighth -/
def SN (n : Int) : Rat := sgn n (bs n)
theorem quarter_on (n : Int) : rr (n + 5400000) = rr n ∧ far (n + 5400000) = far n ∧ rd (n + 5400000) = rd n ∧ qd (n + 5400000) = (qd n + 1) % 4 := by
  have e : rd (n + 5400000) = rd n := by unfold rd mT; omega
  have f : far (n + 5400000) = far n := by unfold far; rw [e]
  refine ⟨?_, f, e, ?_⟩
  · unfold rr; rw [e, f]
  · unfold qd mT; omega
theorem rr_pos (n : Int) (h : mT n % 2700000 ≠ 0) : 1 ≤ rr n ∧ rr n < 2700000 := by
  have e := rr_int n
  obtain ⟨h1, h2, h3, h4, h5⟩ := rd_in n
  have k : rd n % 2700000 ≠ 0 := by omega
  unfold far at e
  by_cases c : 2700000 < rd n
  · rw [if_pos (by simpa using c)] at e; omega
  · rw [if_neg (by simpa using c)] at e; omega
/-- a ray is far from the whole points with coordinates of at most 2^31 -/
theorem rays_all (n : Int) (h : mT n % 2700000 ≠ 0) : Rt (SN (n + 5400000)) (SN n) := by
  obtain ⟨r1, r2⟩ := rr_pos n h
  have R := rays_first (rr n) (by omega) (by omega)
  obtain ⟨q1, q2, q3, q4⟩ := quarter_on n
  obtain ⟨h1, h2, h3, h4, h5⟩ := rd_in n
  unfold SN sgn bs co
  rw [q1, q2, q4]
  generalize cz (rr n) = c at *
  generalize sz (rr n) = s at *
  rcases (show qd n = 0 ∨ qd n = 1 ∨ qd n = 2 ∨ qd n = 3 by omega) with q | q | q | q <;> rw [q] <;> cases far n
  · exact R
  · exact R.swap
  · exact R.swap.neg_c
  · exact R.neg_c
  · exact R.neg_s.neg_c
  · exact R.swap.neg_s.neg_c
  · exact R.swap.neg_s
  · exact R.neg_s
end Go.Proofs.YtndcjldnnfhedaaDoor.L6

/- Trig: Taylor's sums are nearer to the powers than said before. No run of the model here. -/
namespace Go.Proofs.YtndcjldnnfhedaaDoor.L6
set_option linter.unusedVariables false
set_option maxRecDepth 100000

def kp2 : Rat := 12 * k2 + 2 * k1
theorem k_ok2 : 12 * k2 + 2 * k1 ≤ kp2 ∧ 0 ≤ k1 ∧ 0 ≤ k2 ∧ 0 ≤ kp2 := by decide +kernel
theorem step2 {u v u' v' c s ch sh nk : Rat} (hu : -3 ≤ u ∧ u ≤ 3) (hv : -3 ≤ v ∧ v ≤ 3) (hc : -k2 ≤ ch - za ∧ ch - za ≤ k2) (hs : -k2 ≤ sh - zb ∧ sh - zb ≤ k2)
    (h1 : -k1 ≤ u' - (u * ch - v * sh) ∧ u' - (u * ch - v * sh) ≤ k1) (h2 : -k1 ≤ v' - (u * sh + v * ch) ∧ v' - (u * sh + v * ch) ≤ k1)
    (z1 : -1 ≤ c * za - s * zb ∧ c * za - s * zb ≤ 1) (z2 : -1 ≤ s * za + c * zb ∧ s * za + c * zb ≤ 1)
    (g : -nk ≤ u * c + v * s - 1 ∧ u * c + v * s - 1 ≤ nk) (k : -nk ≤ v * c - u * s ∧ v * c - u * s ≤ nk) :
    (-(nk + kp2) ≤ u' * (c * za - s * zb) + v' * (s * za + c * zb) - 1 ∧ u' * (c * za - s * zb) + v' * (s * za + c * zb) - 1 ≤ nk + kp2) ∧
    (-(nk + kp2) ≤ v' * (c * za - s * zb) - u' * (s * za + c * zb) ∧ v' * (c * za - s * zb) - u' * (s * za + c * zb) ≤ nk + kp2) := by
  obtain ⟨q1, q2, q3, q4⟩ := k_ok2
  have hz := z_one
  have a1 := mul_in hu.1 hu.2 hc.1 hc.2
  have a2 := mul_in hv.1 hv.2 hs.1 hs.2
  have a3 := mul_in hu.1 hu.2 hs.1 hs.2
  have a4 := mul_in hv.1 hv.2 hc.1 hc.2
  obtain ⟨R1, hR1⟩ : ∃ R, R = u * (ch - za) - v * (sh - zb) + (u' - (u * ch - v * sh)) := ⟨_, rfl⟩
  obtain ⟨R2, hR2⟩ : ∃ R, R = u * (sh - zb) + v * (ch - za) + (v' - (u * sh + v * ch)) := ⟨_, rfl⟩
  have b1 : -(6 * k2 + k1) ≤ R1 ∧ R1 ≤ 6 * k2 + k1 := by rw [hR1]; constructor <;> grind
  have b2 : -(6 * k2 + k1) ≤ R2 ∧ R2 ≤ 6 * k2 + k1 := by rw [hR2]; constructor <;> grind
  have f1 : u' = u * za - v * zb + R1 := by rw [hR1]; grind
  have f2 : v' = u * zb + v * za + R2 := by rw [hR2]; grind
  have m1 := mul_in b1.1 b1.2 z1.1 z1.2
  have m2 := mul_in b2.1 b2.2 z2.1 z2.2
  have m3 := mul_in b2.1 b2.2 z1.1 z1.2
  have m4 := mul_in b1.1 b1.2 z2.1 z2.2
  have E1 : u' * (c * za - s * zb) + v' * (s * za + c * zb) = u * c + v * s + (R1 * (c * za - s * zb) + R2 * (s * za + c * zb)) := by
    have : u' * (c * za - s * zb) + v' * (s * za + c * zb) = (u * c + v * s) * (za * za + zb * zb) + (R1 * (c * za - s * zb) + R2 * (s * za + c * zb)) := by rw [f1, f2]; grind
    rw [this, hz]; grind
  have E2 : v' * (c * za - s * zb) - u' * (s * za + c * zb) = v * c - u * s + (R2 * (c * za - s * zb) - R1 * (s * za + c * zb)) := by
    have : v' * (c * za - s * zb) - u' * (s * za + c * zb) = (v * c - u * s) * (za * za + zb * zb) + (R2 * (c * za - s * zb) - R1 * (s * za + c * zb)) := by rw [f1, f2]; grind
    rw [this, hz]; grind
  rw [E1, E2]
  clear E1 E2 f1 f2 hR1 hR2 a1 a2 a3 a4 h1 h2 hc hs hz
  generalize R1 * (c * za - s * zb) = x1 at *
  generalize R2 * (s * za + c * zb) = x2 at *
  generalize R2 * (c * za - s * zb) = x3 at *
  generalize R1 * (s * za + c * zb) = x4 at *
  refine ⟨⟨?_, ?_⟩, ?_, ?_⟩ <;> grind
theorem gd_step2 (x : Rat) (n : Int) (e : Rat) (x0 : 0 ≤ x) (x1 : x + hU ≤ 1) (h : Gd x n e) : Gd (x + hU) (n + 1) (e + kp2) := by
  obtain ⟨g, k⟩ := h
  have p1 := hU_in.1
  have b1 := tw_three wc wc_in 32 (by omega) x0 (by grind)
  have b2 := tw_three ws ws_in 32 (by omega) x0 (by grind)
  obtain ⟨⟨t1, t2⟩, t3, t4⟩ := taylor_add 32 x hU x0 p1 x1
  have kk := k1_ok
  obtain ⟨zu1, zu2⟩ := z_up n
  have i1 := cz_in (n + 1)
  have i2 := sz_in (n + 1)
  rw [zu1] at i1
  rw [zu2] at i2
  unfold Gd
  rw [zu1, zu2]
  have n1 : -k1 ≤ cT 32 (x + hU) - (cT 32 x * cT 32 hU - sT 32 x * sT 32 hU) := Rat.le_trans (Rat.neg_le_neg kk) t1
  have n2 := Rat.le_trans t2 kk
  have n3 : -k1 ≤ sT 32 (x + hU) - (cT 32 x * sT 32 hU + sT 32 x * cT 32 hU) := Rat.le_trans (Rat.neg_le_neg kk) t3
  have n4 := Rat.le_trans t4 kk
  exact step2 b1 b2 c_unit s_unit ⟨n1, n2⟩ ⟨n3, n4⟩ i1 i2 g k
def kq2 : Rat := 1 / ((2 ^ 92 : Nat) : Rat)
theorem kq_ok2 : 2 * (((2900000 : Nat) : Rat) * kp2) ≤ kq2 := by decide +kernel
theorem link2 (n : Nat) (hn : n ≤ 2900000) : (-kq2 ≤ cT 32 (n * hU) - cz n ∧ cT 32 (n * hU) - cz n ≤ kq2) ∧ (-kq2 ≤ sT 32 (n * hU) - sz n ∧ sT 32 (n * hU) - sz n ≤ kq2) :=
  near_of (gd_all hU kp2 1 2900000 hU_in.1 hU_all gd_step2 n hn) (Rat.mul_le_mul_of_nonneg_right ((Rat.natCast_le_natCast).2 hn) k_ok2.2.2.2) kq_ok2
end Go.Proofs.YtndcjldnnfhedaaDoor.L6

/- Trig: Taylor's sums in plain numbers of any scale, and how near they are. No run of the model here. -/
namespace Go.Proofs.YtndcjldnnfhedaaDoor.L6
set_option linter.unusedVariables false
set_option maxRecDepth 100000

def flP (P a b : Nat) : Nat := a * b / P
theorem flP_in {P : Nat} (hP : (0 : Rat) < (P : Rat)) (a b : Nat) : flP P a b * P ≤ a * b ∧ a * b ≤ flP P a b * P + 3 * P := by
  have h0 : 0 < P := Nat.pos_of_ne_zero fun c => by subst c; exact absurd hP (by decide +kernel)
  unfold flP
  have d1 := Nat.div_mul_le_self (a * b) P
  have d2 := Nat.lt_div_mul_add (a := a * b) (b := P) h0
  omega
/-- the terms -/
def tmP (P t0 sq d : Nat) : Nat → Nat
  | 0 => t0
  | k + 1 => flP P (tmP P t0 sq d k) sq / dv d k
/-- their sum, with signs -/
def alP (P t0 sq d : Nat) : Nat → Int
  | 0 => 0
  | k + 1 => alP P t0 sq d k + (if k % 2 = 0 then (tmP P t0 sq d k : Int) else -(tmP P t0 sq d k : Int))
theorem term_stepP {P : Nat} (hP : (0 : Rat) < (P : Rat)) {t sq X D t' : Nat} {T T' x : Rat} (hx0 : 0 ≤ x) (hx1 : x ≤ 1) (hX : (X : Rat) = (P : Rat) * x) (hsq : sq = flP P X X) (hD : 2 ≤ D) (ht : t' = flP P t sq / D)
    (hT : (D : Rat) * T' = T * (x * x)) (h1 : (t : Rat) ≤ T) (h2 : T ≤ (t : Rat) + 8) (h3 : T ≤ (P : Rat)) : (t' : Rat) ≤ T' ∧ T' ≤ (t' : Rat) + 8 := by
  obtain ⟨s1, s2⟩ := flP_in hP X X
  obtain ⟨u1, u2⟩ := flP_in hP t sq
  rw [← hsq] at s1 s2
  have d1 := Nat.div_mul_le_self (flP P t sq) D
  have d2 := Nat.lt_div_mul_add (a := flP P t sq) (b := D) (by omega)
  rw [← ht] at d1 d2
  have r1 := (Rat.natCast_le_natCast).2 s1
  have r2 := (Rat.natCast_le_natCast).2 s2
  have r3 := (Rat.natCast_le_natCast).2 u1
  have r4 := (Rat.natCast_le_natCast).2 u2
  have r5 := (Rat.natCast_le_natCast).2 d1
  have r6 := (Rat.natCast_le_natCast).2 (Nat.le_of_lt d2)
  have r7 := (Rat.natCast_le_natCast).2 hD
  rw [Rat.natCast_mul, Rat.natCast_mul] at r1 r3
  rw [Rat.natCast_add, Rat.natCast_mul, Rat.natCast_mul, Rat.natCast_mul] at r2 r4
  rw [Rat.natCast_mul] at r5
  rw [Rat.natCast_add, Rat.natCast_mul] at r6
  have c3 : ((3 : Nat) : Rat) = 3 := rfl
  have c2 : ((2 : Nat) : Rat) = 2 := rfl
  rw [c3] at r2 r4
  rw [c2] at r7
  rw [hX] at r1 r2
  change (sq : Rat) * (P : Rat) ≤ _ at r1
  change _ ≤ (sq : Rat) * (P : Rat) + 3 * (P : Rat) at r2
  change (flP P t sq : Rat) * (P : Rat) ≤ _ at r3
  change _ ≤ (flP P t sq : Rat) * (P : Rat) + 3 * (P : Rat) at r4
  have t0 : (0 : Rat) ≤ (t : Rat) := Rat.natCast_nonneg
  have q0 : (0 : Rat) ≤ (t' : Rat) := Rat.natCast_nonneg
  generalize (flP P t sq : Rat) = H at *
  generalize (sq : Rat) = S at *
  generalize (t : Rat) = a at *
  generalize (t' : Rat) = a' at *
  generalize (D : Rat) = d at *
  generalize (P : Rat) = p at *
  clear s1 s2 u1 u2 d1 d2 hsq ht hD hX
  -- S <= p x x, S >= p x x - 3
  have S1 : S ≤ p * (x * x) := by
    refine Rat.le_of_mul_le_mul_left (c := p) ?_ hP
    grind
  have S2 : p * (x * x) ≤ S + 3 := by
    refine Rat.le_of_mul_le_mul_left (c := p) ?_ hP
    grind
  have xx : 0 ≤ x * x := Rat.mul_nonneg hx0 hx0
  have xx1 : x * x ≤ 1 := by
    have := Rat.mul_le_mul_of_nonneg_left hx1 hx0
    grind
  have H1 : H ≤ a * (x * x) := by
    refine Rat.le_of_mul_le_mul_right (c := p) ?_ hP
    have := Rat.mul_le_mul_of_nonneg_left S1 t0
    grind
  have H2 : a * (x * x) ≤ H + 6 := by
    refine Rat.le_of_mul_le_mul_right (c := p) ?_ hP
    have m1 := Rat.mul_le_mul_of_nonneg_left S2 t0
    grind
  have dpos : 0 < d := by grind
  constructor
  · refine Rat.le_of_mul_le_mul_left (c := d) ?_ dpos
    have := Rat.mul_le_mul_of_nonneg_right h1 xx
    grind
  · refine Rat.le_of_mul_le_mul_left (c := d) ?_ dpos
    have m1 := Rat.mul_le_mul_of_nonneg_right h2 xx
    have m2 := Rat.mul_le_mul_of_nonneg_left xx1 (show (0 : Rat) ≤ 8 by decide +kernel)
    have m3 : 14 ≤ 7 * d := by grind
    grind
theorem termsP {P : Nat} (hP : (0 : Rat) < (P : Rat)) {X t0 d : Nat} {x : Rat} {T : Nat → Rat} (hd : 1 ≤ d) (hx0 : 0 ≤ x) (hx1 : x ≤ 1) (hX : (X : Rat) = (P : Rat) * x) (hT : ∀ k, (dv d k : Rat) * T (k + 1) = T k * (x * x)) (hT1 : ∀ k, T k ≤ (P : Rat))
    (h0 : (t0 : Rat) ≤ T 0 ∧ T 0 ≤ (t0 : Rat) + 8) : ∀ k, (tmP P t0 (flP P X X) d k : Rat) ≤ T k ∧ T k ≤ (tmP P t0 (flP P X X) d k : Rat) + 8 := by
  intro k
  induction k with
  | zero => exact h0
  | succ k ih => exact term_stepP hP hx0 hx1 hX rfl (dv_two d k hd) rfl (hT k) ih.1 ih.2 (hT1 k)
theorem sumsP {P : Nat} {t0 sq d : Nat} {T : Nat → Rat} (h : ∀ k, (tmP P t0 sq d k : Rat) ≤ T k ∧ T k ≤ (tmP P t0 sq d k : Rat) + 8) (k : Nat) :
    -(8 * (k : Rat)) ≤ (alP P t0 sq d k : Rat) - alT T k ∧ (alP P t0 sq d k : Rat) - alT T k ≤ 8 * (k : Rat) := by
  induction k with
  | zero => show -(8 * ((0 : Nat) : Rat)) ≤ ((0 : Int) : Rat) - 0 ∧ ((0 : Int) : Rat) - 0 ≤ 8 * ((0 : Nat) : Rat); decide +kernel
  | succ k ih =>
    obtain ⟨h1, h2⟩ := h k
    have en : ((k + 1 : Nat) : Rat) = (k : Rat) + 1 := by rw [Rat.natCast_add]; rfl
    have e1 : alT T (k + 1) = alT T k + sg k * T k := rfl
    rw [en, e1]
    unfold sg
    by_cases c : k % 2 = 0
    · have e2 : alP P t0 sq d (k + 1) = alP P t0 sq d k + (tmP P t0 sq d k : Int) := by show _ + (if _ then _ else _) = _; rw [if_pos c]
      rw [e2, if_pos c, Rat.intCast_add, Rat.intCast_natCast]
      generalize (tmP P t0 sq d k : Rat) = a at *
      generalize (alP P t0 sq d k : Rat) = b at *
      constructor <;> grind
    · have e2 : alP P t0 sq d (k + 1) = alP P t0 sq d k + -(tmP P t0 sq d k : Int) := by show _ + (if _ then _ else _) = _; rw [if_neg c]
      rw [e2, if_neg c, Rat.intCast_add, Rat.intCast_neg, Rat.intCast_natCast]
      generalize (tmP P t0 sq d k : Rat) = a at *
      generalize (alP P t0 sq d k : Rat) = b at *
      constructor <;> grind
theorem T_sinP {P : Nat} {x : Rat} (k : Nat) : (dv 2 k : Rat) * ((P : Rat) * ap' x (2 * (k + 1) + 1)) = (P : Rat) * ap' x (2 * k + 1) * (x * x) := by
  have e1 := ap_succ x (2 * k + 1)
  have e2 := ap_succ x (2 * k + 2)
  have ed : dv 2 k = (2 * k + 1 + 1) * (2 * k + 2 + 1) := by unfold dv; rw [show 2 + 2 * k = 2 * k + 1 + 1 by omega]
  rw [ed, mul_cast, show 2 * (k + 1) + 1 = 2 * k + 2 + 1 by omega]
  rw [show 2 * k + 1 + 1 = 2 * k + 2 by omega] at e1 ⊢
  generalize ((2 * k + 2 : Nat) : Rat) = u at *
  generalize ((2 * k + 2 + 1 : Nat) : Rat) = v at *
  grind
theorem T_cosP {P : Nat} {x : Rat} (k : Nat) : (dv 1 k : Rat) * ((P : Rat) * ap' x (2 * (k + 1))) = (P : Rat) * ap' x (2 * k) * (x * x) := by
  have e1 := ap_succ x (2 * k)
  have e2 := ap_succ x (2 * k + 1)
  have ed : dv 1 k = (2 * k + 1) * (2 * k + 1 + 1) := by unfold dv; rw [show 1 + 2 * k = 2 * k + 1 by omega]
  rw [ed, mul_cast, show 2 * (k + 1) = 2 * k + 1 + 1 by omega]
  generalize ((2 * k + 1 : Nat) : Rat) = u at *
  generalize ((2 * k + 1 + 1 : Nat) : Rat) = v at *
  grind
theorem P_le {P : Nat} (hP : (0 : Rat) < (P : Rat)) {a : Rat} (h : a ≤ 1) : (P : Rat) * a ≤ (P : Rat) := by
  have := Rat.mul_le_mul_of_nonneg_left h (Rat.le_of_lt hP)
  grind
def sinL (P X : Nat) : Int := alP P X (flP P X X) 2 16
def cosL (P X : Nat) : Int := alP P P (flP P X X) 1 16
theorem sinL_near {P : Nat} (hP : (0 : Rat) < (P : Rat)) {X : Nat} {x : Rat} (hx0 : 0 ≤ x) (hx1 : x ≤ 1) (hX : (X : Rat) = (P : Rat) * x) : (∀ k, (tmP P X (flP P X X) 2 k : Rat) ≤ (P : Rat) * ap' x (2 * k + 1)) ∧ -128 ≤ (sinL P X : Rat) - (P : Rat) * sT 32 x ∧ (sinL P X : Rat) - (P : Rat) * sT 32 x ≤ 128 := by
  have a1 : ap' x 1 = x := (ap8 x).2.1
  have t := termsP hP (T := fun k => (P : Rat) * ap' x (2 * k + 1)) (t0 := X) (d := 2) (by omega) hx0 hx1 hX T_sinP (fun k => P_le hP (ap_le_one hx0 hx1 _)) (by
    show (X : Rat) ≤ (P : Rat) * ap' x 1 ∧ (P : Rat) * ap' x 1 ≤ (X : Rat) + 8
    rw [a1, hX]; constructor <;> grind)
  have s := sumsP t 16
  rw [alT_mul, ← s_alt x 16] at s
  have e : (8 : Rat) * ((16 : Nat) : Rat) = 128 := by decide +kernel
  rw [e] at s
  exact ⟨fun k => (t k).1, s⟩
theorem cosL_near {P : Nat} (hP : (0 : Rat) < (P : Rat)) {X : Nat} {x : Rat} (hx0 : 0 ≤ x) (hx1 : x ≤ 1) (hX : (X : Rat) = (P : Rat) * x) : (∀ k, (tmP P P (flP P X X) 1 k : Rat) ≤ (P : Rat) * ap' x (2 * k)) ∧ -128 ≤ (cosL P X : Rat) - (P : Rat) * cT 32 x ∧ (cosL P X : Rat) - (P : Rat) * cT 32 x ≤ 128 := by
  have t := termsP hP (T := fun k => (P : Rat) * ap' x (2 * k)) (t0 := P) (d := 1) (by omega) hx0 hx1 hX T_cosP (fun k => P_le hP (ap_le_one hx0 hx1 _)) (by
    show ((P : Nat) : Rat) ≤ (P : Rat) * 1 ∧ (P : Rat) * 1 ≤ ((P : Nat) : Rat) + 8
    constructor <;> grind)
  have s := sumsP t 16
  rw [alT_mul, ← c_alt x 16] at s
  have e : (8 : Rat) * ((16 : Nat) : Rat) = 128 := by decide +kernel
  rw [e] at s
  exact ⟨fun k => (t k).1, s⟩
/-- the number whose sine is made: an angle's arc, to a scale -/
def xL (A r : Nat) : Nat := A * r / 10800000
theorem xL_near {P A : Nat} (hP : (0 : Rat) < (P : Rat)) (hA : (A : Rat) ≤ (P : Rat) * hU * 10800000 ∧ (P : Rat) * hU * 10800000 ≤ (A : Rat) + 2) (r : Nat) (h : r ≤ 2700000) : (xL A r : Rat) ≤ (P : Rat) * (r * hU) ∧ (P : Rat) * (r * hU) ≤ (xL A r : Rat) + 2 := by
  have d1 := Nat.div_mul_le_self (A * r) 10800000
  have d2 := Nat.lt_div_mul_add (a := A * r) (b := 10800000) (by omega)
  unfold xL
  generalize A * r / 10800000 = q at *
  have r1 := (Rat.natCast_le_natCast).2 d1
  have r2 := (Rat.natCast_le_natCast).2 (Nat.le_of_lt d2)
  have r3 := (Rat.natCast_le_natCast).2 h
  have r0 : (0 : Rat) ≤ (r : Rat) := Rat.natCast_nonneg
  rw [Rat.natCast_mul, Rat.natCast_mul] at r1
  rw [Rat.natCast_add, Rat.natCast_mul, Rat.natCast_mul] at r2
  change (q : Rat) * 10800000 ≤ (A : Rat) * r at r1
  change (A : Rat) * r ≤ (q : Rat) * 10800000 + 10800000 at r2
  change (r : Rat) ≤ 2700000 at r3
  have a1 := Rat.mul_le_mul_of_nonneg_left hA.1 r0
  have a2 := Rat.mul_le_mul_of_nonneg_left hA.2 r0
  have hz : (P : Rat) * ((r : Rat) * hU) * 10800000 = (r : Rat) * ((P : Rat) * hU * 10800000) := by grind
  generalize (P : Rat) * ((r : Rat) * hU) = B at *
  generalize (P : Rat) * hU * 10800000 = z at *
  have f : (0 : Rat) < 10800000 := by decide +kernel
  constructor
  · refine Rat.le_of_mul_le_mul_right (c := 10800000) ?_ f
    rw [hz]
    grind
  · refine Rat.le_of_mul_le_mul_right (c := 10800000) ?_ f
    rw [hz]
    grind
/-- the sums are near to the true sines and cosines, times the scale -/
theorem limb_near {P A : Nat} (hP : (0 : Rat) < (P : Rat)) (hA : (A : Rat) ≤ (P : Rat) * hU * 10800000 ∧ (P : Rat) * hU * 10800000 ≤ (A : Rat) + 2) (r : Nat) (h : r ≤ 2700000) : (-(140 + (P : Rat) * kq2) ≤ (sinL P (xL A r) : Rat) - (P : Rat) * sz r ∧ (sinL P (xL A r) : Rat) - (P : Rat) * sz r ≤ 140 + (P : Rat) * kq2) ∧ (-(140 + (P : Rat) * kq2) ≤ (cosL P (xL A r) : Rat) - (P : Rat) * cz r ∧ (cosL P (xL A r) : Rat) - (P : Rat) * cz r ≤ 140 + (P : Rat) * kq2) := by
  obtain ⟨n1, n2⟩ := xL_near hP hA r h
  obtain ⟨l1, l2⟩ := link2 r (by omega)
  obtain ⟨x, hx⟩ : ∃ x : Rat, x = (xL A r : Rat) / (P : Rat) := ⟨_, rfl⟩
  have hX : (xL A r : Rat) = (P : Rat) * x := by
    rw [hx, Rat.mul_comm, Rat.div_mul_cancel (by grind)]
  have x0 : 0 ≤ x := by
    refine Rat.le_of_mul_le_mul_left (c := (P : Rat)) ?_ hP
    rw [← hX]
    have : (0 : Rat) ≤ (xL A r : Rat) := Rat.natCast_nonneg
    grind
  have y1 : (r : Rat) * hU ≤ 1 := by
    have r3 := (Rat.natCast_le_natCast (a := r) (b := 3000000)).2 (by omega)
    have := Rat.mul_le_mul_of_nonneg_right r3 hU_in.1
    have h3 := hU_in.2
    have c : ((3000000 : Nat) : Rat) = 3000000 := rfl
    rw [c] at this
    grind
  have xy : x ≤ (r : Rat) * hU := by
    refine Rat.le_of_mul_le_mul_left (c := (P : Rat)) ?_ hP
    rw [← hX]; exact n1
  have dd : (P : Rat) * (3 * ((r : Rat) * hU - x)) ≤ 6 := by
    have : (P : Rat) * (3 * ((r : Rat) * hU - x)) = 3 * ((P : Rat) * ((r : Rat) * hU)) - 3 * ((P : Rat) * x) := by grind
    rw [this, ← hX]
    grind
  have s := sinL_near hP x0 (Rat.le_trans xy y1) hX
  have c := cosL_near hP x0 (Rat.le_trans xy y1) hX
  have ls := lip3 ws ws_in x0 xy y1
  have lc := lip3 wc wc_in x0 xy y1
  obtain ⟨-, s1, s2⟩ := s
  obtain ⟨-, c1, c2⟩ := c
  change _ ≤ sT 32 _ - sT 32 _ ∧ sT 32 _ - sT 32 _ ≤ _ at ls
  change _ ≤ cT 32 _ - cT 32 _ ∧ cT 32 _ - cT 32 _ ≤ _ at lc
  have k1 := Rat.mul_le_mul_of_nonneg_left ls.1 (Rat.le_of_lt hP)
  have k2 := Rat.mul_le_mul_of_nonneg_left ls.2 (Rat.le_of_lt hP)
  have k3 := Rat.mul_le_mul_of_nonneg_left lc.1 (Rat.le_of_lt hP)
  have k4 := Rat.mul_le_mul_of_nonneg_left lc.2 (Rat.le_of_lt hP)
  have m1 := Rat.mul_le_mul_of_nonneg_left l2.1 (Rat.le_of_lt hP)
  have m2 := Rat.mul_le_mul_of_nonneg_left l2.2 (Rat.le_of_lt hP)
  have m3 := Rat.mul_le_mul_of_nonneg_left l1.1 (Rat.le_of_lt hP)
  have m4 := Rat.mul_le_mul_of_nonneg_left l1.2 (Rat.le_of_lt hP)
  clear hx hX n1 n2 l1 l2 ls lc
  generalize sT 32 x = u at *
  generalize cT 32 x = v at *
  generalize sT 32 ((r : Rat) * hU) = u' at *
  generalize cT 32 ((r : Rat) * hU) = v' at *
  generalize (sinL P (xL A r) : Rat) = w at *
  generalize (cosL P (xL A r) : Rat) = w' at *
  generalize (r : Rat) * hU - x = e at *
  generalize kq2 = kk at *
  generalize (P : Rat) = p at *
  refine ⟨⟨?_, ?_⟩, ?_, ?_⟩ <;> grind
end Go.Proofs.YtndcjldnnfhedaaDoor.L6

/- Trig: on which side of a ray a whole point lies, and what decides it. No run of the model here. -/
namespace Go.Proofs.YtndcjldnnfhedaaDoor.L6
set_option linter.unusedVariables false
set_option maxRecDepth 100000

def nvL (P A : Nat) (n : Int) : Int := if co n = true then cosL P (xL A (rr n)) else sinL P (xL A (rr n))
def neL (P A : Nat) (n : Int) : Int := if 2 ≤ qd n then -nvL P A n else nvL P A n
theorem near_all {P A : Nat} (hP : (0 : Rat) < (P : Rat)) (hA : (A : Rat) ≤ (P : Rat) * hU * 10800000 ∧ (P : Rat) * hU * 10800000 ≤ (A : Rat) + 2) (n : Int) :
    -(140 + (P : Rat) * kq2) ≤ (neL P A n : Rat) - (P : Rat) * SN n ∧ (neL P A n : Rat) - (P : Rat) * SN n ≤ 140 + (P : Rat) * kq2 := by
  obtain ⟨h1, h2⟩ := limb_near hP hA (rr n) (rr_in n)
  have h : -(140 + (P : Rat) * kq2) ≤ (nvL P A n : Rat) - (P : Rat) * bs n ∧ (nvL P A n : Rat) - (P : Rat) * bs n ≤ 140 + (P : Rat) * kq2 := by
    unfold nvL bs
    by_cases c : co n = true
    · rw [if_pos c, if_pos c]; exact h2
    · rw [if_neg c, if_neg c]; exact h1
  unfold neL SN sgn
  by_cases c : 2 ≤ qd n
  · rw [if_pos c, if_pos c, Rat.intCast_neg]
    constructor <;> grind
  · rw [if_neg c, if_neg c]; exact h
/-- a whole combination is near to the true one -/
theorem comb_near {p s c e : Rat} {u v X Y : Int} (hX : X.natAbs ≤ 2147483648) (hY : Y.natAbs ≤ 2147483648) (h1 : -e ≤ (u : Rat) - p * s ∧ (u : Rat) - p * s ≤ e) (h2 : -e ≤ (v : Rat) - p * c ∧ (v : Rat) - p * c ≤ e) :
    -(4294967296 * e) ≤ ((X * u - Y * v : Int) : Rat) - p * ((X : Rat) * s - Y * c) ∧ ((X * u - Y * v : Int) : Rat) - p * ((X : Rat) * s - Y * c) ≤ 4294967296 * e := by
  obtain ⟨x1, x2⟩ := cast_in hX
  obtain ⟨y1, y2⟩ := cast_in hY
  have m1 := mul_in x1 x2 h1.1 h1.2
  have m2 := mul_in y1 y2 h2.1 h2.2
  rw [Rat.intCast_sub, Rat.intCast_mul, Rat.intCast_mul]
  constructor <;> grind
/-- the sign of a true combination -/
def tS (n X Y : Int) : Rat := (X : Rat) * SN n - Y * SN (n + 5400000)
theorem sign_of {p v E : Rat} {d : Int} (hp : 0 < p) (h : -E ≤ (d : Rat) - p * v ∧ (d : Rat) - p * v ≤ E) : (E < (d : Rat) → 0 < v) ∧ ((d : Rat) < -E → v < 0) := by
  constructor
  · intro k
    refine Classical.byContradiction fun c => ?_
    have := Rat.mul_le_mul_of_nonneg_left (show v ≤ 0 by grind) (Rat.le_of_lt hp)
    grind
  · intro k
    refine Classical.byContradiction fun c => ?_
    have := Rat.mul_le_mul_of_nonneg_left (show 0 ≤ v by grind) (Rat.le_of_lt hp)
    grind
def P3 : Nat := 19342813113834066795298816
def A3 : Nat := 60767239578181417292607896
def P4 : Nat := 5192296858534827628530496329220096
def A4 : Nat := 16312081666030376401667486162748272
def dL (P A : Nat) (n X Y : Int) : Int := X * neL P A n - Y * neL P A (n + 5400000)
theorem p3_ok : (0 : Rat) < (P3 : Rat) ∧ ((A3 : Rat) ≤ (P3 : Rat) * hU * 10800000 ∧ (P3 : Rat) * hU * 10800000 ≤ (A3 : Rat) + 2) ∧ 4294967296 * (140 + (P3 : Rat) * kq2) ≤ 4398046511104 := by decide +kernel
theorem p4_ok : (0 : Rat) < (P4 : Rat) ∧ ((A4 : Rat) ≤ (P4 : Rat) * hU * 10800000 ∧ (P4 : Rat) * hU * 10800000 ≤ (A4 : Rat) + 2) ∧ 4398046511104 + 4294967296 * (140 + (P4 : Rat) * kq2) < (P4 : Rat) * (1 / ((2 ^ 56 : Nat) : Rat)) := by decide +kernel
theorem int_lt_rat {a b : Int} (h : a < b) : (a : Rat) < (b : Rat) := (Rat.intCast_lt_intCast).2 h
/-- with three limbs: what is decided is true -/
theorem side3 (n X Y : Int) (hX : X.natAbs ≤ 2147483648) (hY : Y.natAbs ≤ 2147483648) : (4398046511104 < dL P3 A3 n X Y → 0 < tS n X Y) ∧ (dL P3 A3 n X Y < -4398046511104 → tS n X Y < 0) := by
  obtain ⟨q1, q2, q3⟩ := p3_ok
  have c := comb_near hX hY (near_all q1 q2 n) (near_all q1 q2 (n + 5400000))
  have g := sign_of (v := tS n X Y) q1 c
  constructor
  · intro k
    have k : (4398046511104 : Rat) < (dL P3 A3 n X Y : Rat) := int_lt_rat k
    exact g.1 (by
      show _ < (dL P3 A3 n X Y : Rat)
      generalize (dL P3 A3 n X Y : Rat) = d at *
      grind)
  · intro k
    have k : (dL P3 A3 n X Y : Rat) < (-4398046511104 : Rat) := int_lt_rat k
    exact g.2 (by
      show (dL P3 A3 n X Y : Rat) < _
      generalize (dL P3 A3 n X Y : Rat) = d at *
      grind)
theorem rat_int_lt {a b : Int} (h : (a : Rat) < (b : Rat)) : a < b := (Rat.intCast_lt_intCast).1 h
/-- with four limbs: it is decided, and truly so -/
theorem side4 (n X Y : Int) (hn : mT n % 2700000 ≠ 0) (h0 : ¬(X = 0 ∧ Y = 0)) (hX : X.natAbs ≤ 2147483648) (hY : Y.natAbs ≤ 2147483648) : (4398046511104 < dL P4 A4 n X Y ∧ 0 < tS n X Y) ∨ (dL P4 A4 n X Y < -4398046511104 ∧ tS n X Y < 0) := by
  obtain ⟨q1, q2, q3⟩ := p4_ok
  have c := comb_near hX hY (near_all q1 q2 n) (near_all q1 q2 (n + 5400000))
  have m := rays_all n hn X Y h0 hX hY
  change _ ≤ tS n X Y ∨ tS n X Y ≤ _ at m
  change _ ≤ (dL P4 A4 n X Y : Rat) - (P4 : Rat) * tS n X Y ∧ (dL P4 A4 n X Y : Rat) - (P4 : Rat) * tS n X Y ≤ _ at c
  have gp : (0 : Rat) < 1 / ((2 ^ 56 : Nat) : Rat) := by decide +kernel
  rcases m with m | m
  · left
    have k := Rat.mul_le_mul_of_nonneg_left m (Rat.le_of_lt q1)
    refine ⟨rat_int_lt ?_, by grind⟩
    show (4398046511104 : Rat) < _
    generalize (dL P4 A4 n X Y : Rat) = d at *
    generalize tS n X Y = v at *
    grind
  · right
    have k := Rat.mul_le_mul_of_nonneg_left m (Rat.le_of_lt q1)
    refine ⟨rat_int_lt ?_, by grind⟩
    show _ < (-4398046511104 : Rat)
    generalize (dL P4 A4 n X Y : Rat) = d at *
    generalize tS n X Y = v at *
    grind
/-- the quick sines: what is decided is true -/
theorem quarter_div (v : Int) {y : Rat} (h : -140 ≤ (v : Rat) - p62 * y ∧ (v : Rat) - p62 * y ≤ 140) : -36 ≤ ((v / 4 : Int) : Rat) - p62 / 4 * y ∧ ((v / 4 : Int) : Rat) - p62 / 4 * y ≤ 36 := by
  have a : v / 4 * 4 ≤ v := by omega
  have b : v ≤ v / 4 * 4 + 3 := by omega
  have a := (Rat.intCast_le_intCast).2 a
  have b := (Rat.intCast_le_intCast).2 b
  rw [Rat.intCast_mul] at a
  rw [Rat.intCast_add, Rat.intCast_mul] at b
  change ((v / 4 : Int) : Rat) * 4 ≤ _ at a
  change _ ≤ ((v / 4 : Int) : Rat) * 4 + 3 at b
  constructor <;> grind
theorem side_quick (n X Y : Int) (W : Int) (hW : W = X.natAbs + Y.natAbs) : (65 * W < X * (qk n / 4) - Y * (qk (n + 5400000) / 4) → 0 < tS n X Y) ∧ (X * (qk n / 4) - Y * (qk (n + 5400000) / 4) < -(65 * W) → tS n X Y < 0) := by
  have h1 := quarter_div _ (qk_near n)
  have h2 := quarter_div _ (qk_near (n + 5400000))
  change _ ≤ _ - _ * SN n ∧ _ - _ * SN n ≤ _ at h1
  change _ ≤ _ - _ * SN (n + 5400000) ∧ _ - _ * SN (n + 5400000) ≤ _ at h2
  have x1 : -((X.natAbs : Int) : Rat) ≤ (X : Rat) ∧ (X : Rat) ≤ ((X.natAbs : Int) : Rat) := by
    rw [← Rat.intCast_neg]
    exact ⟨(Rat.intCast_le_intCast).2 (by omega), (Rat.intCast_le_intCast).2 (by omega)⟩
  have y1 : -((Y.natAbs : Int) : Rat) ≤ (Y : Rat) ∧ (Y : Rat) ≤ ((Y.natAbs : Int) : Rat) := by
    rw [← Rat.intCast_neg]
    exact ⟨(Rat.intCast_le_intCast).2 (by omega), (Rat.intCast_le_intCast).2 (by omega)⟩
  have m1 := mul_in x1.1 x1.2 h1.1 h1.2
  have m2 := mul_in y1.1 y1.2 h2.1 h2.2
  have W0 : (0 : Rat) ≤ (W : Rat) := (Rat.intCast_le_intCast (a := 0)).2 (by omega)
  have eW : (W : Rat) = ((X.natAbs : Int) : Rat) + ((Y.natAbs : Int) : Rat) := by rw [hW, Rat.intCast_add]
  have hp : 0 < p62 / 4 := by decide +kernel
  have c : -(36 * (W : Rat)) ≤ ((X * (qk n / 4) - Y * (qk (n + 5400000) / 4) : Int) : Rat) - p62 / 4 * tS n X Y ∧ ((X * (qk n / 4) - Y * (qk (n + 5400000) / 4) : Int) : Rat) - p62 / 4 * tS n X Y ≤ 36 * (W : Rat) := by
    rw [Rat.intCast_sub, Rat.intCast_mul, Rat.intCast_mul, eW]
    unfold tS
    generalize ((qk n / 4 : Int) : Rat) = u at *
    generalize ((qk (n + 5400000) / 4 : Int) : Rat) = v at *
    constructor <;> grind
  have g := sign_of hp c
  generalize X * (qk n / 4) - Y * (qk (n + 5400000) / 4) = z at *
  constructor
  · intro k
    have k : ((65 * W : Int) : Rat) < (z : Rat) := int_lt_rat k
    rw [Rat.intCast_mul] at k
    change 65 * (W : Rat) < _ at k
    exact g.1 (by grind)
  · intro k
    have k : (z : Rat) < ((-(65 * W) : Int) : Rat) := int_lt_rat k
    rw [Rat.intCast_neg, Rat.intCast_mul] at k
    change _ < -(65 * (W : Rat)) at k
    exact g.2 (by grind)
end Go.Proofs.YtndcjldnnfhedaaDoor.L6
