/- Trig: Taylor's sums are near to the powers. No run of the model here. -/
import Derived.Test.YtglmkpnnbgkndaaDoorTg8
namespace Go.Proofs.YtglmkpnnbgkndaaDoor.L6
set_option linter.unusedVariables false
set_option maxRecDepth 100000

/-- the arc of a unit -/
def hN : Nat := 513954977659672382891951586091401647855113527267445359348399057908
def hU : Rat := (hN : Rat) / ((2 ^ 120 * 2 ^ 120 : Nat) : Rat)
def kp : Rat := 1 / ((2 ^ 110 : Nat) : Rat)
def k1 : Rat := 1 / ((2 ^ 116 : Nat) : Rat)
def k2 : Rat := 1 / ((2 ^ 180 : Nat) : Rat)
theorem hU_in : 0 ≤ hU ∧ hU * 3000000 ≤ 1 := by decide +kernel
def fct : Nat → Nat
  | 0 => 1
  | m + 1 => fct m * (m + 1)
theorem ap_fct (m : Nat) : ap' 1 m * (fct m : Rat) = 1 := by
  induction m with
  | zero => decide +kernel
  | succ m ih =>
    have e := ap_succ 1 m
    show ap' 1 (m + 1) * ((fct m * (m + 1) : Nat) : Rat) = 1
    rw [Rat.natCast_mul]
    generalize ((m + 1 : Nat) : Rat) = k at *
    generalize (fct m : Rat) = f at *
    grind
theorem k1_ok : 2 * ap' 1 32 ≤ k1 := by
  have h := ap_fct 32
  have p := ap_nonneg (x := 1) (by decide +kernel) 32
  have f : ((2 ^ 117 : Nat) : Rat) ≤ (fct 32 : Rat) := (Rat.natCast_le_natCast).2 (by decide +kernel)
  have a := Rat.mul_le_mul_of_nonneg_left f p
  rw [h] at a
  have q : k1 * ((2 ^ 117 : Nat) : Rat) = 2 := by decide +kernel
  have r : (0 : Rat) < ((2 ^ 117 : Nat) : Rat) := by decide +kernel
  refine Rat.le_of_mul_le_mul_right (c := ((2 ^ 117 : Nat) : Rat)) ?_ r
  generalize ((2 ^ 117 : Nat) : Rat) = d at *
  grind
theorem k_ok : 12 * k2 + 2 * k1 ≤ kp ∧ 0 ≤ k1 ∧ 0 ≤ k2 ∧ 0 ≤ kp := by decide +kernel
theorem ap8 (x : Rat) : ap' x 0 = 1 ∧ ap' x 1 = x ∧ ap' x 2 = x * x / 2 ∧ ap' x 3 = x * x * x / 6 ∧ ap' x 4 = x * x * x * x / 24 ∧ ap' x 5 = x * x * x * x * x / 120 ∧ ap' x 6 = x * x * x * x * x * x / 720 ∧ ap' x 7 = x * x * x * x * x * x * x / 5040 ∧ ap' x 8 = x * x * x * x * x * x * x * x / 40320 := by
  have e0 : ap' x 0 = 1 := rfl
  have e1 : (1 : Rat) * ap' x 1 = x * ap' x 0 := ap_succ x 0
  have e2 : (2 : Rat) * ap' x 2 = x * ap' x 1 := ap_succ x 1
  have e3 : (3 : Rat) * ap' x 3 = x * ap' x 2 := ap_succ x 2
  have e4 : (4 : Rat) * ap' x 4 = x * ap' x 3 := ap_succ x 3
  have e5 : (5 : Rat) * ap' x 5 = x * ap' x 4 := ap_succ x 4
  have e6 : (6 : Rat) * ap' x 6 = x * ap' x 5 := ap_succ x 5
  have e7 : (7 : Rat) * ap' x 7 = x * ap' x 6 := ap_succ x 6
  have e8 : (8 : Rat) * ap' x 8 = x * ap' x 7 := ap_succ x 7
  have f1 : ap' x 1 = x := by grind
  have f2 : ap' x 2 = x * x / 2 := by grind
  have f3 : ap' x 3 = x * x * x / 6 := by grind
  have f4 : ap' x 4 = x * x * x * x / 24 := by grind
  have f5 : ap' x 5 = x * x * x * x * x / 120 := by grind
  have f6 : ap' x 6 = x * x * x * x * x * x / 720 := by grind
  have f7 : ap' x 7 = x * x * x * x * x * x * x / 5040 := by grind
  have f8 : ap' x 8 = x * x * x * x * x * x * x * x / 40320 := by grind
  exact ⟨e0, f1, f2, f3, f4, f5, f6, f7, f8⟩
theorem c_8 (x : Rat) : cT 8 x = 1 - x * x / 2 + x * x * x * x / 24 - x * x * x * x * x * x / 720 := by
  obtain ⟨a0, a1, a2, a3, a4, a5, a6, a7, -⟩ := ap8 x
  have w : wc 0 = 1 ∧ wc 1 = 0 ∧ wc 2 = -1 ∧ wc 3 = 0 ∧ wc 4 = 1 ∧ wc 5 = 0 ∧ wc 6 = -1 ∧ wc 7 = 0 := by decide +kernel
  obtain ⟨w0, w1, w2, w3, w4, w5, w6, w7⟩ := w
  show 0 + wc 0 * ap' x 0 + wc 1 * ap' x 1 + wc 2 * ap' x 2 + wc 3 * ap' x 3 + wc 4 * ap' x 4 + wc 5 * ap' x 5 + wc 6 * ap' x 6 + wc 7 * ap' x 7 = _
  rw [w0, w1, w2, w3, w4, w5, w6, w7, a0, a1, a2, a3, a4, a5, a6, a7]
  grind
theorem s_8 (x : Rat) : sT 8 x = x - x * x * x / 6 + x * x * x * x * x / 120 - x * x * x * x * x * x * x / 5040 := by
  obtain ⟨a0, a1, a2, a3, a4, a5, a6, a7, -⟩ := ap8 x
  have w : ws 0 = 0 ∧ ws 1 = 1 ∧ ws 2 = 0 ∧ ws 3 = -1 ∧ ws 4 = 0 ∧ ws 5 = 1 ∧ ws 6 = 0 ∧ ws 7 = -1 := by decide +kernel
  obtain ⟨w0, w1, w2, w3, w4, w5, w6, w7⟩ := w
  show 0 + ws 0 * ap' x 0 + ws 1 * ap' x 1 + ws 2 * ap' x 2 + ws 3 * ap' x 3 + ws 4 * ap' x 4 + ws 5 * ap' x 5 + ws 6 * ap' x 6 + ws 7 * ap' x 7 = _
  rw [w0, w1, w2, w3, w4, w5, w6, w7, a0, a1, a2, a3, a4, a5, a6, a7]
  grind
theorem tail8 (w : Nat → Rat) (hw : ∀ m, -1 ≤ w m ∧ w m ≤ 1) {x : Rat} (h0 : 0 ≤ x) (h1 : x ≤ 1) : -(2 * ap' x 8) ≤ tw w 32 x - tw w 8 x ∧ tw w 32 x - tw w 8 x ≤ 2 * ap' x 8 := by
  obtain ⟨t1, t2⟩ := tail_abs w hw x h0 0 8 32 (by omega)
  have r := rest_le h0 h1 8 (by omega) 32 (by omega)
  have p := ap_nonneg h0 32
  have e2 : sm (fun j => w (0 + j) * ap' x j) 8 = tw w 8 x := by unfold tw; exact sm_congr 8 (fun i _ => by rw [Nat.zero_add])
  have e3 : sm (fun j => w (0 + j) * ap' x j) 32 = tw w 32 x := by unfold tw; exact sm_congr 32 (fun i _ => by rw [Nat.zero_add])
  rw [e2, e3] at t1 t2
  generalize tw w 32 x = a at *
  generalize tw w 8 x = b at *
  generalize tw (fun _ => 1) 32 x = c at *
  generalize tw (fun _ => 1) 8 x = d at *
  constructor <;> grind
theorem hU_8 : 2 * (hU * hU * hU * hU * hU * hU * hU * hU / 40320) ≤ k2 / 2 := by decide +kernel
theorem hU_1 : hU ≤ 1 := by decide +kernel
theorem c_near : -(k2 / 2) ≤ 1 - hU * hU / 2 + hU * hU * hU * hU / 24 - hU * hU * hU * hU * hU * hU / 720 - za ∧ 1 - hU * hU / 2 + hU * hU * hU * hU / 24 - hU * hU * hU * hU * hU * hU / 720 - za ≤ k2 / 2 := by decide +kernel
theorem s_near : -(k2 / 2) ≤ hU - hU * hU * hU / 6 + hU * hU * hU * hU * hU / 120 - hU * hU * hU * hU * hU * hU * hU / 5040 - zb ∧ hU - hU * hU * hU / 6 + hU * hU * hU * hU * hU / 120 - hU * hU * hU * hU * hU * hU * hU / 5040 - zb ≤ k2 / 2 := by decide +kernel
theorem c_unit : -k2 ≤ cT 32 hU - za ∧ cT 32 hU - za ≤ k2 := by
  have t := tail8 wc wc_in hU_in.1 hU_1
  have e := c_8 hU
  have n := c_near
  have o := hU_8
  rw [(ap8 hU).2.2.2.2.2.2.2.2] at t
  unfold cT at *
  rw [← e] at n
  generalize hU * hU * hU * hU * hU * hU * hU * hU / 40320 = q at *
  generalize tw wc 32 hU = a at *
  generalize tw wc 8 hU = b at *
  constructor <;> grind
theorem s_unit : -k2 ≤ sT 32 hU - zb ∧ sT 32 hU - zb ≤ k2 := by
  have t := tail8 ws ws_in hU_in.1 hU_1
  have e := s_8 hU
  have n := s_near
  have o := hU_8
  rw [(ap8 hU).2.2.2.2.2.2.2.2] at t
  unfold sT at *
  rw [← e] at n
  generalize hU * hU * hU * hU * hU * hU * hU * hU / 40320 = q at *
  generalize tw ws 32 hU = a at *
  generalize tw ws 8 hU = b at *
  constructor <;> grind
theorem tw_three (w : Nat → Rat) (hw : ∀ m, -1 ≤ w m ∧ w m ≤ 1) (M : Nat) (hM : 1 ≤ M) {x : Rat} (h0 : 0 ≤ x) (h1 : x ≤ 1) : -3 ≤ tw w M x ∧ tw w M x ≤ 3 := by
  obtain ⟨t1, t2⟩ := tail_abs w hw x h0 0 0 M (by omega)
  have r := rest_le h0 h1 1 (by omega) M hM
  have p := ap_nonneg h0 M
  have e0 : tw (fun _ => 1) 0 x = 0 := rfl
  have e1 : tw (fun _ => 1) 1 x = 0 + 1 * 1 := rfl
  have e2 : sm (fun j => w (0 + j) * ap' x j) 0 = 0 := rfl
  have e3 : sm (fun j => w (0 + j) * ap' x j) M = tw w M x := by unfold tw; exact sm_congr M (fun i _ => by rw [Nat.zero_add])
  have e4 := ap_succ x 0
  have e5 : ((0 + 1 : Nat) : Rat) = 1 := rfl
  have e6 : ap' x 0 = 1 := rfl
  rw [e5, e6] at e4
  rw [e0, e2, e3] at t1 t2
  rw [e1] at r
  have e7 : ap' x 1 = x := by grind
  rw [e7] at r
  generalize tw w M x = a at *
  generalize tw (fun _ => 1) M x = b at *
  constructor <;> grind
/-- one step -/
theorem step {u v u' v' c s ch sh nk : Rat} (hu : -3 ≤ u ∧ u ≤ 3) (hv : -3 ≤ v ∧ v ≤ 3) (hc : -k2 ≤ ch - za ∧ ch - za ≤ k2) (hs : -k2 ≤ sh - zb ∧ sh - zb ≤ k2)
    (h1 : -k1 ≤ u' - (u * ch - v * sh) ∧ u' - (u * ch - v * sh) ≤ k1) (h2 : -k1 ≤ v' - (u * sh + v * ch) ∧ v' - (u * sh + v * ch) ≤ k1)
    (z1 : -1 ≤ c * za - s * zb ∧ c * za - s * zb ≤ 1) (z2 : -1 ≤ s * za + c * zb ∧ s * za + c * zb ≤ 1)
    (g : -nk ≤ u * c + v * s - 1 ∧ u * c + v * s - 1 ≤ nk) (k : -nk ≤ v * c - u * s ∧ v * c - u * s ≤ nk) :
    (-(nk + kp) ≤ u' * (c * za - s * zb) + v' * (s * za + c * zb) - 1 ∧ u' * (c * za - s * zb) + v' * (s * za + c * zb) - 1 ≤ nk + kp) ∧
    (-(nk + kp) ≤ v' * (c * za - s * zb) - u' * (s * za + c * zb) ∧ v' * (c * za - s * zb) - u' * (s * za + c * zb) ≤ nk + kp) := by
  obtain ⟨q1, q2, q3, q4⟩ := k_ok
  have hz := z_one
  have a1 := mul_in hu.1 hu.2 hc.1 hc.2
  have a2 := mul_in hv.1 hv.2 hs.1 hs.2
  have a3 := mul_in hu.1 hu.2 hs.1 hs.2
  have a4 := mul_in hv.1 hv.2 hc.1 hc.2
  obtain ⟨R1, hR1⟩ : ∃ R, R = u * (ch - za) - v * (sh - zb) + (u' - (u * ch - v * sh)) := ⟨_, rfl⟩
  obtain ⟨R2, hR2⟩ : ∃ R, R = u * (sh - zb) + v * (ch - za) + (v' - (u * sh + v * ch)) := ⟨_, rfl⟩
  have b1 : -(6 * k2 + k1) ≤ R1 ∧ R1 ≤ 6 * k2 + k1 := by rw [hR1]; constructor <;> grind
  have b2 : -(6 * k2 + k1) ≤ R2 ∧ R2 ≤ 6 * k2 + k1 := by rw [hR2]; constructor <;> grind
  have f1 : u' = u * za - v * zb + R1 := by rw [hR1]; grind
  have f2 : v' = u * zb + v * za + R2 := by rw [hR2]; grind
  have m1 := mul_in b1.1 b1.2 z1.1 z1.2
  have m2 := mul_in b2.1 b2.2 z2.1 z2.2
  have m3 := mul_in b2.1 b2.2 z1.1 z1.2
  have m4 := mul_in b1.1 b1.2 z2.1 z2.2
  have E1 : u' * (c * za - s * zb) + v' * (s * za + c * zb) = u * c + v * s + (R1 * (c * za - s * zb) + R2 * (s * za + c * zb)) := by
    have : u' * (c * za - s * zb) + v' * (s * za + c * zb) = (u * c + v * s) * (za * za + zb * zb) + (R1 * (c * za - s * zb) + R2 * (s * za + c * zb)) := by rw [f1, f2]; grind
    rw [this, hz]; grind
  have E2 : v' * (c * za - s * zb) - u' * (s * za + c * zb) = v * c - u * s + (R2 * (c * za - s * zb) - R1 * (s * za + c * zb)) := by
    have : v' * (c * za - s * zb) - u' * (s * za + c * zb) = (v * c - u * s) * (za * za + zb * zb) + (R2 * (c * za - s * zb) - R1 * (s * za + c * zb)) := by rw [f1, f2]; grind
    rw [this, hz]; grind
  rw [E1, E2]
  clear E1 E2 f1 f2 hR1 hR2 a1 a2 a3 a4 h1 h2 hc hs hz
  generalize R1 * (c * za - s * zb) = x1 at *
  generalize R2 * (s * za + c * zb) = x2 at *
  generalize R2 * (c * za - s * zb) = x3 at *
  generalize R1 * (s * za + c * zb) = x4 at *
  refine ⟨⟨?_, ?_⟩, ?_, ?_⟩ <;> grind
theorem ap_zero8 : ap' 0 8 = 0 := by rw [(ap8 0).2.2.2.2.2.2.2.2]; decide +kernel
theorem eq_of_near {a b e : Rat} (h : -(2 * e) ≤ a - b ∧ a - b ≤ 2 * e) (he : e = 0) : a = b := by grind
theorem c_zero : cT 32 0 = 1 := by
  have t1 := eq_of_near (tail8 wc wc_in (x := 0) Rat.le_refl (by decide +kernel)) ap_zero8
  have c8 := c_8 0
  unfold cT at *
  rw [t1, c8]
  decide +kernel
theorem s_zero : sT 32 0 = 0 := by
  have t1 := eq_of_near (tail8 ws ws_in (x := 0) Rat.le_refl (by decide +kernel)) ap_zero8
  have c8 := s_8 0
  unfold sT at *
  rw [t1, c8]
  decide +kernel
def Gd (x : Rat) (n : Int) (e : Rat) : Prop :=
  (-e ≤ cT 32 x * cz n + sT 32 x * sz n - 1 ∧ cT 32 x * cz n + sT 32 x * sz n - 1 ≤ e) ∧ (-e ≤ sT 32 x * cz n - cT 32 x * sz n ∧ sT 32 x * cz n - cT 32 x * sz n ≤ e)
theorem gd_zero : Gd 0 0 0 := by
  unfold Gd
  rw [c_zero, s_zero, cz_zero, sz_zero]
  decide +kernel
theorem gd_step (x : Rat) (n : Int) (e : Rat) (x0 : 0 ≤ x) (x1 : x + hU ≤ 1) (h : Gd x n e) : Gd (x + hU) (n + 1) (e + kp) := by
  obtain ⟨g, k⟩ := h
  have p1 := hU_in.1
  have b1 := tw_three wc wc_in 32 (by omega) x0 (by grind)
  have b2 := tw_three ws ws_in 32 (by omega) x0 (by grind)
  obtain ⟨⟨t1, t2⟩, t3, t4⟩ := taylor_add 32 x hU x0 p1 x1
  have kk := k1_ok
  obtain ⟨zu1, zu2⟩ := z_up n
  have i1 := cz_in (n + 1)
  have i2 := sz_in (n + 1)
  rw [zu1] at i1
  rw [zu2] at i2
  unfold Gd
  rw [zu1, zu2]
  have n1 : -k1 ≤ cT 32 (x + hU) - (cT 32 x * cT 32 hU - sT 32 x * sT 32 hU) := Rat.le_trans (Rat.neg_le_neg kk) t1
  have n2 := Rat.le_trans t2 kk
  have n3 : -k1 ≤ sT 32 (x + hU) - (cT 32 x * sT 32 hU + sT 32 x * cT 32 hU) := Rat.le_trans (Rat.neg_le_neg kk) t3
  have n4 := Rat.le_trans t4 kk
  exact step b1 b2 c_unit s_unit ⟨n1, n2⟩ ⟨n3, n4⟩ i1 i2 g k
theorem gd_all (h K B : Rat) (N : Nat) (h0 : 0 ≤ h) (hB : (N : Rat) * h ≤ B) (st : ∀ (x : Rat) (n : Int) (e : Rat), 0 ≤ x → x + h ≤ B → Gd x n e → Gd (x + h) (n + 1) (e + K)) : ∀ n : Nat, n ≤ N → Gd ((n : Rat) * h) n ((n : Rat) * K) := by
  intro n
  induction n with
  | zero =>
    intro _
    have e3 : ((0 : Nat) : Rat) = 0 := rfl
    have e4 : ((0 : Nat) : Int) = 0 := rfl
    have e5 : (0 : Rat) * h = 0 := by grind
    have e6 : (0 : Rat) * K = 0 := by grind
    rw [e3, e4, e5, e6]
    exact gd_zero
  | succ n ih =>
    intro hn
    have i := ih (by omega)
    have en : ((n + 1 : Nat) : Rat) = (n : Rat) + 1 := by rw [Rat.natCast_add]; rfl
    have n0 : (0 : Rat) ≤ (n : Rat) := Rat.natCast_nonneg
    have n1 : (n : Rat) + 1 ≤ (N : Rat) := by
      have := (Rat.natCast_le_natCast (a := n + 1) (b := N)).2 hn
      rw [en] at this
      exact this
    have x0 : 0 ≤ (n : Rat) * h := Rat.mul_nonneg n0 h0
    have x1 : (n : Rat) * h + h ≤ B := by
      have := Rat.mul_le_mul_of_nonneg_right n1 h0
      grind
    have := st _ _ _ x0 x1 i
    have en2 : ((n + 1 : Nat) : Int) = (n : Int) + 1 := by omega
    have f1 : ((n : Rat) + 1) * h = (n : Rat) * h + h := by grind
    have f2 : ((n : Rat) + 1) * K = (n : Rat) * K + K := by grind
    rw [en, en2, f1, f2]
    exact this
theorem near_of {x K Q : Rat} {n : Int} {e : Rat} (h : Gd x n e) (b : e ≤ K) (b2 : 2 * K ≤ Q) : (-Q ≤ cT 32 x - cz n ∧ cT 32 x - cz n ≤ Q) ∧ (-Q ≤ sT 32 x - sz n ∧ sT 32 x - sz n ≤ Q) := by
  obtain ⟨⟨g1, g2⟩, h1, h2⟩ := h
  have hc := cz_in n
  have hs := sz_in n
  have o := cs_one n
  generalize cT 32 x = u at *
  generalize sT 32 x = v at *
  generalize cz n = c at *
  generalize sz n = s at *
  have m1 := mul_in g1 g2 hc.1 hc.2
  have m2 := mul_in h1 h2 hs.1 hs.2
  have m3 := mul_in g1 g2 hs.1 hs.2
  have m4 := mul_in h1 h2 hc.1 hc.2
  have e1 : u - c = (u * c + v * s - 1) * c - (v * c - u * s) * s := by grind
  have e2 : v - s = (u * c + v * s - 1) * s + (v * c - u * s) * c := by grind
  rw [e1, e2]
  generalize (u * c + v * s - 1) * c = x1 at *
  generalize (v * c - u * s) * s = x2 at *
  generalize (u * c + v * s - 1) * s = x3 at *
  generalize (v * c - u * s) * c = x4 at *
  refine ⟨⟨?_, ?_⟩, ?_, ?_⟩ <;> grind
/-- Taylor's sums at the multiples of a unit -/
def kq : Rat := 1 / ((2 ^ 87 : Nat) : Rat)
theorem hU_all : ((2900000 : Nat) : Rat) * hU ≤ 1 := by decide +kernel
theorem kq_ok : 2 * (((2900000 : Nat) : Rat) * kp) ≤ kq := by decide +kernel
theorem link (n : Nat) (hn : n ≤ 2900000) : (-kq ≤ cT 32 (n * hU) - cz n ∧ cT 32 (n * hU) - cz n ≤ kq) ∧ (-kq ≤ sT 32 (n * hU) - sz n ∧ sT 32 (n * hU) - sz n ≤ kq) :=
  near_of (gd_all hU kp 1 2900000 hU_in.1 hU_all gd_step n hn) (Rat.mul_le_mul_of_nonneg_right ((Rat.natCast_le_natCast).2 hn) k_ok.2.2.2) kq_ok
end Go.Proofs.YtglmkpnnbgkndaaDoor.L6
