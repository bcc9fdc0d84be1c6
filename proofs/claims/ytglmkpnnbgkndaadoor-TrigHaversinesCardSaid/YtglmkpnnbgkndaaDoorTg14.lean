/- Trig: the sine is positive in the first half of a turn, the cosine falls. No run of the model here. -/
import Derived.Test.YtglmkpnnbgkndaaDoorTg13
namespace Go.Proofs.YtglmkpnnbgkndaaDoor.L6
set_option linter.unusedVariables false
set_option maxRecDepth 100000

theorem tail2 (w : Nat → Rat) (hw : ∀ m, -1 ≤ w m ∧ w m ≤ 1) {x : Rat} (h0 : 0 ≤ x) (h1 : x ≤ 1) : -(2 * ap' x 2) ≤ tw w 32 x - tw w 2 x ∧ tw w 32 x - tw w 2 x ≤ 2 * ap' x 2 := by
  obtain ⟨t1, t2⟩ := tail_abs w hw x h0 0 2 32 (by omega)
  have r := rest_le h0 h1 2 (by omega) 32 (by omega)
  have p := ap_nonneg h0 32
  have e2 : sm (fun j => w (0 + j) * ap' x j) 2 = tw w 2 x := by unfold tw; exact sm_congr 2 (fun i _ => by rw [Nat.zero_add])
  have e3 : sm (fun j => w (0 + j) * ap' x j) 32 = tw w 32 x := by unfold tw; exact sm_congr 32 (fun i _ => by rw [Nat.zero_add])
  rw [e2, e3] at t1 t2
  generalize tw w 32 x = a at *
  generalize tw w 2 x = b at *
  generalize tw (fun _ => 1) 32 x = c at *
  generalize tw (fun _ => 1) 2 x = d at *
  constructor <;> grind
theorem low_bounds {x : Rat} (h0 : 0 ≤ x) (h1 : x ≤ 1) : x - x * x ≤ sT 32 x ∧ 1 - x * x ≤ cT 32 x := by
  have s := tail2 ws ws_in h0 h1
  have c := tail2 wc wc_in h0 h1
  have a2 := (ap8 x).2.2.1
  have a1 := (ap8 x).2.1
  have e1 : tw ws 2 x = 0 + ws 0 * ap' x 0 + ws 1 * ap' x 1 := rfl
  have e2 : tw wc 2 x = 0 + wc 0 * ap' x 0 + wc 1 * ap' x 1 := rfl
  have w0 : ws 0 = 0 := rfl
  have w1 : ws 1 = 1 := rfl
  have w2 : wc 0 = 1 := rfl
  have w3 : wc 1 = -0 := rfl
  have a0 : ap' x 0 = 1 := rfl
  rw [e1, w0, w1, a0, a1, a2] at s
  rw [e2, w2, w3, a0, a1, a2] at c
  unfold sT cT
  generalize tw ws 32 x = u at *
  generalize tw wc 32 x = v at *
  constructor <;> grind
def b8 : Rat := 8 / 10 * hU
theorem small_facts : b8 + 1 / ((2 ^ 80 : Nat) : Rat) ≤ 9 / 10 * hU ∧ 1 - za ≤ b8 * zb ∧ kq ≤ 1 / ((2 ^ 82 : Nat) : Rat) ∧ (8 : Rat) * et ≤ 1 / ((2 ^ 82 : Nat) : Rat) ∧ b8 ≤ 1 / 10 ∧ 0 ≤ b8 := by decide +kernel
theorem hU_small : hU ≤ 1 / 1000 ∧ 0 ≤ hU ∧ 2700000 * hU ≤ 7854 / 10000 := by decide +kernel
/-- in the first eighth -/
theorem eighth (r : Nat) (h : r ≤ 2700000) : (1 ≤ r → b8 + 1 / ((2 ^ 81 : Nat) : Rat) ≤ sz r) ∧ 3 / 10 ≤ cz r := by
  obtain ⟨u1, u0, u2⟩ := hU_small
  obtain ⟨f1, -, f3, -, f5, -⟩ := small_facts
  have g : 1 / ((2 ^ 82 : Nat) : Rat) ≤ 1 / 10 ∧ 1 / ((2 ^ 82 : Nat) : Rat) + 1 / ((2 ^ 81 : Nat) : Rat) ≤ 1 / ((2 ^ 80 : Nat) : Rat) := by decide +kernel
  obtain ⟨⟨l1, l2⟩, l3, l4⟩ := link r (by omega)
  have r0 : (0 : Rat) ≤ (r : Rat) := Rat.natCast_nonneg
  have r1 := (Rat.natCast_le_natCast (a := r) (b := 2700000)).2 h
  have c27 : ((2700000 : Nat) : Rat) = 2700000 := rfl
  rw [c27] at r1
  have x0 : 0 ≤ (r : Rat) * hU := Rat.mul_nonneg r0 u0
  have x1 : (r : Rat) * hU ≤ 7854 / 10000 := by
    have := Rat.mul_le_mul_of_nonneg_right r1 u0
    exact Rat.le_trans this u2
  obtain ⟨b1, b2⟩ := low_bounds x0 (by grind)
  constructor
  · intro hr
    have r2 := (Rat.natCast_le_natCast (a := 1) (b := r)).2 hr
    have c1 : ((1 : Nat) : Rat) = 1 := rfl
    rw [c1] at r2
    have xu : hU ≤ (r : Rat) * hU := by
      have := Rat.mul_le_mul_of_nonneg_right r2 u0
      grind
    generalize (r : Rat) * hU = x at *
    -- x - x x >= 9/10 hU for hU <= x <= 0.7854
    have q : 9 / 10 * hU ≤ x - x * x := by
      have p := Rat.mul_nonneg (show 0 ≤ x - hU by grind) (show 0 ≤ 7854 / 10000 - x by grind)
      have p2 := Rat.mul_nonneg (show 0 ≤ x - hU by grind) (show 0 ≤ 1 - 7854 / 10000 - hU by grind)
      have p3 := Rat.mul_nonneg u0 (show 0 ≤ 1 / 1000 - hU by grind)
      grind
    generalize sT 32 x = a at *
    generalize cT 32 x = b at *
    grind
  · generalize (r : Rat) * hU = x at *
    have q : x * x ≤ 617 / 1000 := by
      have p := Rat.mul_le_mul_of_nonneg_left x1 x0
      grind
    generalize sT 32 x = a at *
    generalize cT 32 x = b at *
    grind
/-- what is near by a few tiny errors -/
theorem nr8 {k : Nat} {x y : Rat} (h : Nr k x y) (hk : k ≤ 8) : y - 1 / ((2 ^ 82 : Nat) : Rat) ≤ x ∧ x ≤ y + 1 / ((2 ^ 82 : Nat) : Rat) := by
  obtain ⟨-, -, -, f4, -⟩ := small_facts
  have m := h.mono hk
  unfold Nr at m
  have e : ((8 : Nat) : Rat) = 8 := rfl
  rw [e] at m
  constructor <;> grind
theorem pos_half (n : Int) (h1 : 1 ≤ n) (h2 : n ≤ 10799999) : b8 ≤ sz n := by
  obtain ⟨-, -, -, -, f5, f6⟩ := small_facts
  have g : 1 / ((2 ^ 82 : Nat) : Rat) ≤ 1 / 10 ∧ 1 / ((2 ^ 82 : Nat) : Rat) ≤ 1 / ((2 ^ 81 : Nat) : Rat) ∧ 0 ≤ 1 / ((2 ^ 81 : Nat) : Rat) := by decide +kernel
  rcases (show n ≤ 2700000 ∨ (2700000 < n ∧ n ≤ 5400000) ∨ (5400000 < n ∧ n ≤ 8100000) ∨ 8100000 < n by omega) with c | ⟨c, d⟩ | ⟨c, d⟩ | c
  · have e := (eighth n.toNat (by omega)).1 (by omega)
    rw [show ((n.toNat : Nat) : Int) = n by omega] at e
    generalize sz n = a at *
    grind
  · have e := (eighth (5400000 - n).toNat (by omega)).2
    rw [show (((5400000 - n).toNat : Nat) : Int) = 5400000 - n by omega] at e
    have q := nr8 (quarter_sub (5400000 - n)).1 (by omega)
    rw [show 5400000 - (5400000 - n) = n by omega] at q
    generalize sz n = a at *
    generalize cz (5400000 - n) = b at *
    grind
  · have e := (eighth (n - 5400000).toNat (by omega)).2
    rw [show (((n - 5400000).toNat : Nat) : Int) = n - 5400000 by omega] at e
    have q := nr8 (quarter_add (n - 5400000)).1 (by omega)
    rw [show n - 5400000 + 5400000 = n by omega] at q
    generalize sz n = a at *
    generalize cz (n - 5400000) = b at *
    grind
  · have e := (eighth (10800000 - n).toNat (by omega)).1 (by omega)
    rw [show (((10800000 - n).toNat : Nat) : Int) = 10800000 - n by omega] at e
    have q := nr8 (half_add (-(10800000 - n))).1 (by omega)
    rw [show -(10800000 - n) + 10800000 = n by omega, sz_neg] at q
    generalize sz n = a at *
    generalize sz (10800000 - n) = b at *
    grind
/-- the cosine falls in the first half of a turn -/
theorem cz_step (n : Int) (h1 : 0 ≤ n) (h2 : n ≤ 10799999) : cz (n + 1) ≤ cz n := by
  obtain ⟨-, f2, -, -, -, f6⟩ := small_facts
  have zb0 := zb_pos
  have za1 := za_pos
  obtain ⟨z1, -⟩ := z_up n
  rw [z1]
  by_cases c : n = 0
  · subst c
    rw [cz_zero, sz_zero]
    grind
  · have p := pos_half n (by omega) h2
    obtain ⟨c1, c2⟩ := cz_in n
    have m1 := Rat.mul_le_mul_of_nonneg_right p zb0.1
    have m2 := Rat.mul_nonneg (show 0 ≤ 1 + cz n by grind) (show 0 ≤ 1 - za by grind)
    generalize sz n = s at *
    generalize cz n = x at *
    grind
theorem cz_fall (i : Int) (h1 : 0 ≤ i) (d : Nat) (h2 : i + d ≤ 10800000) : cz (i + d) ≤ cz i := by
  induction d with
  | zero => rw [show i + ((0 : Nat) : Int) = i by omega]; exact Rat.le_refl
  | succ d ih =>
    have := ih (by omega)
    have s := cz_step (i + d) (by omega) (by omega)
    rw [show i + (d : Int) + 1 = i + ((d + 1 : Nat) : Int) by omega] at s
    exact Rat.le_trans s this
theorem cz_le (i j : Int) (h1 : 0 ≤ i) (h : i ≤ j) (h2 : j ≤ 10800000) : cz j ≤ cz i := by
  have := cz_fall i h1 (j - i).toNat (by omega)
  rwa [show i + (((j - i).toNat : Nat) : Int) = j by omega] at this
end Go.Proofs.YtglmkpnnbgkndaaDoor.L6
