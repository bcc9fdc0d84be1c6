/- Trig: the quick sine of the reference is near to the sine. No run of the model here. -/
import Derived.Test.YtglmkpnnbgkndaaDoorTg10
namespace Go.Proofs.YtglmkpnnbgkndaaDoor.L6
set_option linter.unusedVariables false
set_option maxRecDepth 100000

theorem ap_le_one {x : Rat} (h0 : 0 ≤ x) (h1 : x ≤ 1) (m : Nat) : ap' x m ≤ 1 := by
  induction m with
  | zero => exact Rat.le_refl
  | succ m ih =>
    have p := succ_pos m
    have e := ap_succ x m
    have q := ap_nonneg h0 m
    have one : (1 : Rat) ≤ ((m + 1 : Nat) : Rat) := (Rat.natCast_le_natCast (a := 1) (b := m + 1)).2 (by omega)
    have a := Rat.mul_le_mul_of_nonneg_right h1 q
    refine Rat.le_of_mul_le_mul_left (c := ((m + 1 : Nat) : Rat)) ?_ p
    rw [e]
    generalize ((m + 1 : Nat) : Rat) = k at *
    grind
def sg (k : Nat) : Rat := if k % 2 = 0 then 1 else -1
theorem sg_succ (k : Nat) : sg (k + 1) = -sg k := by
  unfold sg
  by_cases h : k % 2 = 0
  · rw [if_pos h, if_neg (by omega)]
  · rw [if_neg h, if_pos (by omega)]; grind
/-- the sum of exact terms -/
def alT (T : Nat → Rat) : Nat → Rat
  | 0 => 0
  | k + 1 => alT T k + sg k * T k
theorem w_even (k : Nat) : wc (2 * k) = sg k ∧ ws (2 * k) = 0 := by
  induction k with
  | zero => decide +kernel
  | succ k ih =>
    obtain ⟨h1, h2⟩ := ih
    obtain ⟨s1, s2⟩ := w_succ (2 * k)
    obtain ⟨t1, t2⟩ := w_succ (2 * k + 1)
    rw [show 2 * (k + 1) = 2 * k + 1 + 1 by omega, t1, t2, s1, s2, h1, h2, sg_succ]
    constructor <;> grind
theorem c_alt (x : Rat) (k : Nat) : cT (2 * k) x = alT (fun k => ap' x (2 * k)) k := by
  induction k with
  | zero => rfl
  | succ k ih =>
    obtain ⟨h1, h2⟩ := w_even k
    obtain ⟨s1, s2⟩ := w_succ (2 * k)
    show tw wc (2 * k) x + wc (2 * k) * ap' x (2 * k) + wc (2 * k + 1) * ap' x (2 * k + 1) = alT _ k + sg k * ap' x (2 * k)
    have ih : tw wc (2 * k) x = _ := ih
    rw [ih, s1, h1, h2]; grind
theorem s_alt (x : Rat) (k : Nat) : sT (2 * k) x = alT (fun k => ap' x (2 * k + 1)) k := by
  induction k with
  | zero => rfl
  | succ k ih =>
    obtain ⟨h1, h2⟩ := w_even k
    obtain ⟨s1, s2⟩ := w_succ (2 * k)
    show tw ws (2 * k) x + ws (2 * k) * ap' x (2 * k) + ws (2 * k + 1) * ap' x (2 * k + 1) = alT _ k + sg k * ap' x (2 * k + 1)
    have ih : tw ws (2 * k) x = _ := ih
    rw [ih, s2, h1, h2]; grind
theorem alT_mul (c : Rat) (T : Nat → Rat) (k : Nat) : alT (fun k => c * T k) k = c * alT T k := by
  induction k with
  | zero => show (0 : Rat) = c * 0; grind
  | succ k ih => show alT _ k + sg k * (c * T k) = c * (alT T k + sg k * T k); rw [ih]; grind
theorem dv_two (d k : Nat) (h : 1 ≤ d) : 2 ≤ dv d k := by
  unfold dv
  have := Nat.mul_le_mul (show 1 ≤ d + 2 * k by omega) (show 2 ≤ d + 2 * k + 1 by omega)
  omega
theorem terms {X t0 d : Nat} {x : Rat} {T : Nat → Rat} (hd : 1 ≤ d) (hx0 : 0 ≤ x) (hx1 : x ≤ 1) (hX : (X : Rat) = p62 * x) (hT : ∀ k, (dv d k : Rat) * T (k + 1) = T k * (x * x)) (hT1 : ∀ k, T k ≤ p62)
    (h0 : (t0 : Rat) ≤ T 0 ∧ T 0 ≤ (t0 : Rat) + 8) : ∀ k, (tmN t0 (hiN X X) d k : Rat) ≤ T k ∧ T k ≤ (tmN t0 (hiN X X) d k : Rat) + 8 := by
  intro k
  induction k with
  | zero => exact h0
  | succ k ih => exact term_step hx0 hx1 hX rfl (dv_two d k hd) rfl (hT k) ih.1 ih.2 (hT1 k)
theorem sums {t0 sq d : Nat} {T : Nat → Rat} (h : ∀ k, (tmN t0 sq d k : Rat) ≤ T k ∧ T k ≤ (tmN t0 sq d k : Rat) + 8) (k : Nat) :
    -(8 * (k : Rat)) ≤ (alN t0 sq d k : Rat) - alT T k ∧ (alN t0 sq d k : Rat) - alT T k ≤ 8 * (k : Rat) := by
  induction k with
  | zero => show -(8 * ((0 : Nat) : Rat)) ≤ ((0 : Int) : Rat) - 0 ∧ ((0 : Int) : Rat) - 0 ≤ 8 * ((0 : Nat) : Rat); decide +kernel
  | succ k ih =>
    obtain ⟨h1, h2⟩ := h k
    have en : ((k + 1 : Nat) : Rat) = (k : Rat) + 1 := by rw [Rat.natCast_add]; rfl
    have e1 : alT T (k + 1) = alT T k + sg k * T k := rfl
    rw [en, e1]
    unfold sg
    by_cases c : k % 2 = 0
    · have e2 : alN t0 sq d (k + 1) = alN t0 sq d k + (tmN t0 sq d k : Int) := by show _ + (if _ then _ else _) = _; rw [if_pos c]
      rw [e2, if_pos c, Rat.intCast_add, Rat.intCast_natCast]
      generalize (tmN t0 sq d k : Rat) = a at *
      generalize (alN t0 sq d k : Rat) = b at *
      constructor <;> grind
    · have e2 : alN t0 sq d (k + 1) = alN t0 sq d k + -(tmN t0 sq d k : Int) := by show _ + (if _ then _ else _) = _; rw [if_neg c]
      rw [e2, if_neg c, Rat.intCast_add, Rat.intCast_neg, Rat.intCast_natCast]
      generalize (tmN t0 sq d k : Rat) = a at *
      generalize (alN t0 sq d k : Rat) = b at *
      constructor <;> grind
theorem mul_cast (a b : Nat) : ((a * b : Nat) : Rat) = (a : Rat) * (b : Rat) := Rat.natCast_mul a b
theorem T_sin {x : Rat} (k : Nat) : (dv 2 k : Rat) * (p62 * ap' x (2 * (k + 1) + 1)) = p62 * ap' x (2 * k + 1) * (x * x) := by
  have e1 := ap_succ x (2 * k + 1)
  have e2 := ap_succ x (2 * k + 2)
  have ed : dv 2 k = (2 * k + 1 + 1) * (2 * k + 2 + 1) := by unfold dv; rw [show 2 + 2 * k = 2 * k + 1 + 1 by omega]
  rw [ed, mul_cast, show 2 * (k + 1) + 1 = 2 * k + 2 + 1 by omega]
  rw [show 2 * k + 1 + 1 = 2 * k + 2 by omega] at e1 ⊢
  generalize ((2 * k + 2 : Nat) : Rat) = u at *
  generalize ((2 * k + 2 + 1 : Nat) : Rat) = v at *
  grind
theorem T_cos {x : Rat} (k : Nat) : (dv 1 k : Rat) * (p62 * ap' x (2 * (k + 1))) = p62 * ap' x (2 * k) * (x * x) := by
  have e1 := ap_succ x (2 * k)
  have e2 := ap_succ x (2 * k + 1)
  have ed : dv 1 k = (2 * k + 1) * (2 * k + 1 + 1) := by unfold dv; rw [show 1 + 2 * k = 2 * k + 1 by omega]
  rw [ed, mul_cast, show 2 * (k + 1) = 2 * k + 1 + 1 by omega]
  generalize ((2 * k + 1 : Nat) : Rat) = u at *
  generalize ((2 * k + 1 + 1 : Nat) : Rat) = v at *
  grind
theorem p62_le {a : Rat} (h : a ≤ 1) : p62 * a ≤ p62 := by
  have := Rat.mul_le_mul_of_nonneg_left h (Rat.le_of_lt p62_pos)
  grind
/-- the sine and the cosine of X / 2^62, in plain numbers -/
def sinN (X : Nat) : Int := alN X (hiN X X) 2 16
def cosN (X : Nat) : Int := alN 4611686018427387904 (hiN X X) 1 16
theorem sinN_near {X : Nat} {x : Rat} (hx0 : 0 ≤ x) (hx1 : x ≤ 1) (hX : (X : Rat) = p62 * x) : (∀ k, (tmN X (hiN X X) 2 k : Rat) ≤ p62 * ap' x (2 * k + 1)) ∧ -128 ≤ (sinN X : Rat) - p62 * sT 32 x ∧ (sinN X : Rat) - p62 * sT 32 x ≤ 128 := by
  have a1 : ap' x 1 = x := (ap8 x).2.1
  have t := terms (T := fun k => p62 * ap' x (2 * k + 1)) (t0 := X) (d := 2) (by omega) hx0 hx1 hX T_sin (fun k => p62_le (ap_le_one hx0 hx1 _)) (by
    show (X : Rat) ≤ p62 * ap' x 1 ∧ p62 * ap' x 1 ≤ (X : Rat) + 8
    rw [a1, hX]; constructor <;> grind)
  have s := sums t 16
  rw [alT_mul, ← s_alt x 16] at s
  have e : (8 : Rat) * ((16 : Nat) : Rat) = 128 := by decide +kernel
  rw [e] at s
  exact ⟨fun k => (t k).1, s⟩
theorem cosN_near {X : Nat} {x : Rat} (hx0 : 0 ≤ x) (hx1 : x ≤ 1) (hX : (X : Rat) = p62 * x) : (∀ k, (tmN 4611686018427387904 (hiN X X) 1 k : Rat) ≤ p62 * ap' x (2 * k)) ∧ -128 ≤ (cosN X : Rat) - p62 * cT 32 x ∧ (cosN X : Rat) - p62 * cT 32 x ≤ 128 := by
  have t := terms (T := fun k => p62 * ap' x (2 * k)) (t0 := 4611686018427387904) (d := 1) (by omega) hx0 hx1 hX T_cos (fun k => p62_le (ap_le_one hx0 hx1 _)) (by
    show ((4611686018427387904 : Nat) : Rat) ≤ p62 * 1 ∧ p62 * 1 ≤ ((4611686018427387904 : Nat) : Rat) + 8
    unfold p62; constructor <;> grind)
  have s := sums t 16
  rw [alT_mul, ← c_alt x 16] at s
  have e : (8 : Rat) * ((16 : Nat) : Rat) = 128 := by decide +kernel
  rw [e] at s
  exact ⟨fun k => (t k).1, s⟩
/-- sums of near numbers are near -/
theorem ap_lip {x y : Rat} (hy : 0 ≤ y) (h : y ≤ x) (m : Nat) : ap' x (m + 1) - ap' y (m + 1) ≤ (x - y) * ap' x m := by
  induction m with
  | zero =>
    have e1 : ap' x 1 = x := (ap8 x).2.1
    have e2 : ap' y 1 = y := (ap8 y).2.1
    have e3 : ap' x 0 = 1 := rfl
    rw [e1, e2, e3]; grind
  | succ m ih =>
    have p := succ_pos (m + 1)
    have e1 := ap_succ x (m + 1)
    have e2 := ap_succ y (m + 1)
    have e3 := ap_succ x m
    have en : ((m + 1 + 1 : Nat) : Rat) = ((m + 1 : Nat) : Rat) + 1 := by rw [Rat.natCast_add]; rfl
    have q := ap_nonneg (Rat.le_trans hy h) m
    have a := Rat.mul_le_mul_of_nonneg_left ih hy
    have b := Rat.mul_le_mul_of_nonneg_right h (Rat.mul_nonneg (show 0 ≤ x - y by grind) q)
    refine Rat.le_of_mul_le_mul_left (c := ((m + 1 + 1 : Nat) : Rat)) ?_ p
    have g : ((m + 1 + 1 : Nat) : Rat) * (ap' x (m + 1 + 1) - ap' y (m + 1 + 1)) = x * ap' x (m + 1) - y * ap' y (m + 1) := by
      have : ((m + 1 + 1 : Nat) : Rat) * (ap' x (m + 1 + 1) - ap' y (m + 1 + 1)) = ((m + 1 + 1 : Nat) : Rat) * ap' x (m + 1 + 1) - ((m + 1 + 1 : Nat) : Rat) * ap' y (m + 1 + 1) := by grind
      rw [this, e1, e2]
    rw [g, en]
    clear g e1 e2 en p ih
    generalize ((m + 1 : Nat) : Rat) = k at *
    generalize ap' x (m + 1) = u at *
    generalize ap' y (m + 1) = v at *
    generalize ap' x m = w at *
    have f : x * ((x - y) * w) = (x - y) * (k * u) := by rw [e3]; grind
    have f2 : x * u - y * v = (x - y) * u + y * (u - v) := by grind
    have f3 : (k + 1) * ((x - y) * u) = (x - y) * (k * u) + (x - y) * u := by grind
    rw [f2, f3]
    rw [f] at b
    grind
theorem tw_lip (w : Nat → Rat) (hw : ∀ m, -1 ≤ w m ∧ w m ≤ 1) {x y : Rat} (hy : 0 ≤ y) (h : y ≤ x) (M : Nat) : -((x - y) * tw (fun _ => 1) M x) ≤ tw w (M + 1) x - tw w (M + 1) y ∧ tw w (M + 1) x - tw w (M + 1) y ≤ (x - y) * tw (fun _ => 1) M x := by
  induction M with
  | zero =>
    show -((x - y) * 0) ≤ 0 + w 0 * 1 - (0 + w 0 * 1) ∧ 0 + w 0 * 1 - (0 + w 0 * 1) ≤ (x - y) * 0
    constructor <;> grind
  | succ M ih =>
    obtain ⟨i1, i2⟩ := ih
    obtain ⟨w1, w2⟩ := hw (M + 1)
    have l := ap_lip hy h M
    have m := ap_mono hy h (M + 1)
    have a1 := Rat.mul_nonneg (show 0 ≤ 1 - w (M + 1) by grind) (show 0 ≤ ap' x (M + 1) - ap' y (M + 1) by grind)
    have a2 := Rat.mul_nonneg (show 0 ≤ 1 + w (M + 1) by grind) (show 0 ≤ ap' x (M + 1) - ap' y (M + 1) by grind)
    show -((x - y) * (tw (fun _ => 1) M x + 1 * ap' x M)) ≤ tw w (M + 1) x + w (M + 1) * ap' x (M + 1) - (tw w (M + 1) y + w (M + 1) * ap' y (M + 1)) ∧ tw w (M + 1) x + w (M + 1) * ap' x (M + 1) - (tw w (M + 1) y + w (M + 1) * ap' y (M + 1)) ≤ (x - y) * (tw (fun _ => 1) M x + 1 * ap' x M)
    generalize tw w (M + 1) x = t1 at *
    generalize tw w (M + 1) y = t2 at *
    generalize tw (fun _ => 1) M x = t3 at *
    generalize ap' x (M + 1) = u at *
    generalize ap' y (M + 1) = v at *
    generalize ap' x M = z at *
    generalize w (M + 1) = ww at *
    constructor <;> grind
theorem lip3 (w : Nat → Rat) (hw : ∀ m, -1 ≤ w m ∧ w m ≤ 1) {x y : Rat} (hy : 0 ≤ y) (h : y ≤ x) (hx : x ≤ 1) : -(3 * (x - y)) ≤ tw w 32 x - tw w 32 y ∧ tw w 32 x - tw w 32 y ≤ 3 * (x - y) := by
  have l := tw_lip w hw hy h 31
  have b := (tw_three (fun _ => 1) (fun _ => by decide +kernel) 31 (by omega) (Rat.le_trans hy h) hx).2
  have m := Rat.mul_le_mul_of_nonneg_left b (show 0 ≤ x - y by grind)
  constructor <;> grind
/-- the number whose sine is made: an angle's arc, times 2^62 -/
def xN (r : Nat) : Nat := r * 2620088056 * 512 + r * 658911831 / 4194304
theorem xN_near (r : Nat) (h : r ≤ 2700000) : (xN r : Rat) ≤ p62 * (r * hU) ∧ p62 * (r * hU) ≤ (xN r : Rat) + 2 := by
  have d1 := Nat.div_mul_le_self (r * 658911831) 4194304
  have d2 := Nat.lt_div_mul_add (a := r * 658911831) (b := 4194304) (by omega)
  unfold xN
  generalize r * 658911831 / 4194304 = q at *
  have c1 : (658911831 : Rat) + 2620088056 * 2147483648 ≤ p62 * hU * 4194304 := by decide +kernel
  have c2 : p62 * hU * 4194304 ≤ (658911832 : Rat) + 2620088056 * 2147483648 := by decide +kernel
  have r1 := (Rat.natCast_le_natCast).2 d1
  have r2 := (Rat.natCast_le_natCast).2 (Nat.le_of_lt d2)
  have r3 := (Rat.natCast_le_natCast).2 h
  have r0 : (0 : Rat) ≤ (r : Rat) := Rat.natCast_nonneg
  rw [Rat.natCast_mul, Rat.natCast_mul] at r1
  rw [Rat.natCast_add, Rat.natCast_mul, Rat.natCast_mul] at r2
  rw [Rat.natCast_add, Rat.natCast_mul, Rat.natCast_mul]
  change (q : Rat) * 4194304 ≤ (r : Rat) * 658911831 at r1
  change (r : Rat) * 658911831 ≤ (q : Rat) * 4194304 + 4194304 at r2
  change (r : Rat) ≤ 2700000 at r3
  show (r : Rat) * 2620088056 * 512 + (q : Rat) ≤ _ ∧ _ ≤ (r : Rat) * 2620088056 * 512 + (q : Rat) + 2
  have a1 := Rat.mul_le_mul_of_nonneg_left c1 r0
  have a2 := Rat.mul_le_mul_of_nonneg_left c2 r0
  have hz : p62 * ((r : Rat) * hU) * 4194304 = (r : Rat) * (p62 * hU * 4194304) := by grind
  generalize p62 * ((r : Rat) * hU) = P at *
  generalize p62 * hU * 4194304 = z at *
  clear c1 c2
  have f : (0 : Rat) < 4194304 := by decide +kernel
  constructor
  · refine Rat.le_of_mul_le_mul_right (c := 4194304) ?_ f
    rw [hz]
    grind
  · refine Rat.le_of_mul_le_mul_right (c := 4194304) ?_ f
    rw [hz]
    grind
/-- the quick sine and cosine of the reference are near to the true ones, times 2^62 -/
theorem quick_near (r : Nat) (h : r ≤ 2700000) : (-140 ≤ (sinN (xN r) : Rat) - p62 * sz r ∧ (sinN (xN r) : Rat) - p62 * sz r ≤ 140) ∧ (-140 ≤ (cosN (xN r) : Rat) - p62 * cz r ∧ (cosN (xN r) : Rat) - p62 * cz r ≤ 140) := by
  obtain ⟨n1, n2⟩ := xN_near r h
  obtain ⟨l1, l2⟩ := link r (by omega)
  have P := p62_pos
  obtain ⟨x, hx⟩ : ∃ x : Rat, x = (xN r : Rat) / p62 := ⟨_, rfl⟩
  have hX : (xN r : Rat) = p62 * x := by
    rw [hx, Rat.mul_comm, Rat.div_mul_cancel (by grind)]
  have x0 : 0 ≤ x := by
    refine Rat.le_of_mul_le_mul_left (c := p62) ?_ P
    rw [← hX]
    have : (0 : Rat) ≤ (xN r : Rat) := Rat.natCast_nonneg
    grind
  have y1 : (r : Rat) * hU ≤ 1 := by
    have r3 := (Rat.natCast_le_natCast (a := r) (b := 3000000)).2 (by omega)
    have := Rat.mul_le_mul_of_nonneg_right r3 hU_in.1
    have h3 := hU_in.2
    have c : ((3000000 : Nat) : Rat) = 3000000 := rfl
    rw [c] at this
    grind
  have xy : x ≤ (r : Rat) * hU := by
    refine Rat.le_of_mul_le_mul_left (c := p62) ?_ P
    rw [← hX]; exact n1
  have dd : p62 * (3 * ((r : Rat) * hU - x)) ≤ 6 := by
    have : p62 * (3 * ((r : Rat) * hU - x)) = 3 * (p62 * ((r : Rat) * hU)) - 3 * (p62 * x) := by grind
    rw [this, ← hX]
    grind
  have s := sinN_near x0 (Rat.le_trans xy y1) hX
  have c := cosN_near x0 (Rat.le_trans xy y1) hX
  have ls := lip3 ws ws_in x0 xy y1
  have lc := lip3 wc wc_in x0 xy y1
  have q : p62 * kq ≤ 1 := by decide +kernel
  obtain ⟨-, s1, s2⟩ := s
  obtain ⟨-, c1, c2⟩ := c
  change _ ≤ sT 32 _ - sT 32 _ ∧ sT 32 _ - sT 32 _ ≤ _ at ls
  change _ ≤ cT 32 _ - cT 32 _ ∧ cT 32 _ - cT 32 _ ≤ _ at lc
  have k1 := Rat.mul_le_mul_of_nonneg_left ls.1 (Rat.le_of_lt P)
  have k2 := Rat.mul_le_mul_of_nonneg_left ls.2 (Rat.le_of_lt P)
  have k3 := Rat.mul_le_mul_of_nonneg_left lc.1 (Rat.le_of_lt P)
  have k4 := Rat.mul_le_mul_of_nonneg_left lc.2 (Rat.le_of_lt P)
  have m1 := Rat.mul_le_mul_of_nonneg_left l2.1 (Rat.le_of_lt P)
  have m2 := Rat.mul_le_mul_of_nonneg_left l2.2 (Rat.le_of_lt P)
  have m3 := Rat.mul_le_mul_of_nonneg_left l1.1 (Rat.le_of_lt P)
  have m4 := Rat.mul_le_mul_of_nonneg_left l1.2 (Rat.le_of_lt P)
  clear hx hX n1 n2 l1 l2 ls lc
  generalize sT 32 x = u at *
  generalize cT 32 x = v at *
  generalize sT 32 ((r : Rat) * hU) = u' at *
  generalize cT 32 ((r : Rat) * hU) = v' at *
  generalize (sinN (xN r) : Rat) = w at *
  generalize (cosN (xN r) : Rat) = w' at *
  generalize (r : Rat) * hU - x = e at *
  generalize kq = kk at *
  generalize p62 = p at *
  refine ⟨⟨?_, ?_⟩, ?_, ?_⟩ <;> grind
end Go.Proofs.YtglmkpnnbgkndaaDoor.L6
