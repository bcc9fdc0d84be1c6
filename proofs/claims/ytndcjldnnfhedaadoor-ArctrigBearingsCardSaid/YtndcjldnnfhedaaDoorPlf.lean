/- Plain numbers: the angle of a point. -/
import Derived.Test.YtndcjldnnfhedaaDoorPle
import Derived.Test.YtndcjldnnfhedaaDoorPlb
import Derived.Test.YtndcjldnnfhedaaDoorPld
/- Trig: on which side of a ray a whole point lies, as one number; it grows over a quarter. No run of the model here. -/
namespace Go.Proofs.YtndcjldnnfhedaaDoor.L6
set_option linter.unusedVariables false
set_option maxRecDepth 100000

def tb (e : Int) : Int := if e % 4 = 0 then 0 else if e < 4 then 1 else -1
/-- the side -/
def sd (n X Y : Int) : Int :=
  if mT n % 2700000 = 0 then (X * tb (mT n / 2700000) - Y * tb ((mT n / 2700000 + 2) % 8)).sign
  else if X = 0 ∧ Y = 0 then 0 else if 0 < tS n X Y then 1 else -1
def val (n X Y : Int) : Rat := (X : Rat) * sz n - Y * cz n
def g57 : Rat := 1 / ((2 ^ 57 : Nat) : Rat)
theorem g_ok : 0 < g57 ∧ g57 + 4294967296 * (10 * et) ≤ 1 / ((2 ^ 56 : Nat) : Rat) ∧ g57 + 4294967296 * (4 * et) ≤ 1 / 10 ∧ 4294967296 * (10 * et) ≤ g57 / 8 := by decide +kernel
theorem nr_bound {k : Nat} {x y : Rat} (h : Nr k x y) (hk : k ≤ 10) : -(10 * et) ≤ x - y ∧ x - y ≤ 10 * et := by
  have := h.mono hk
  unfold Nr at this
  have e : ((10 : Nat) : Rat) = 10 := rfl
  rw [e] at this
  exact this
theorem nr_two {x y : Rat} (h : Nr 2 x y) : -(2 * et) ≤ x - y ∧ x - y ≤ 2 * et := by
  unfold Nr at h
  have e : ((2 : Nat) : Rat) = 2 := rfl
  rw [e] at h
  exact h
theorem near_sn (n : Int) (h0 : 0 ≤ n) (h1 : n ≤ 5400000) : (-(10 * et) ≤ sz n - SN n ∧ sz n - SN n ≤ 10 * et) ∧ (-(10 * et) ≤ cz n - SN (n + 5400000) ∧ cz n - SN (n + 5400000) ≤ 10 * et) := by
  have a := sz_mod n
  have b := sz_mod (n + 5400000)
  rw [show mT n = n by unfold mT; omega] at a
  rw [show mT (n + 5400000) = n + 5400000 by unfold mT; omega] at b
  exact ⟨nr_bound a (by omega), nr_bound ((quarter_add n).1.symm.trans b) (by omega)⟩
theorem val_near (n X Y : Int) (h0 : 0 ≤ n) (h1 : n ≤ 5400000) (hX : X.natAbs ≤ 2147483648) (hY : Y.natAbs ≤ 2147483648) : -(4294967296 * (10 * et)) ≤ val n X Y - tS n X Y ∧ val n X Y - tS n X Y ≤ 4294967296 * (10 * et) := by
  obtain ⟨a, b⟩ := near_sn n h0 h1
  obtain ⟨x1, x2⟩ := cast_in hX
  obtain ⟨y1, y2⟩ := cast_in hY
  have m1 := mul_in x1 x2 a.1 a.2
  have m2 := mul_in y1 y2 b.1 b.2
  unfold val tS
  constructor <;> grind
theorem one_le {X : Int} (h : 0 < X) : (1 : Rat) ≤ (X : Rat) := (Rat.intCast_le_intCast (a := 1)).2 (by omega)
theorem zero_le_cast {X : Int} (h : 0 ≤ X) : (0 : Rat) ≤ (X : Rat) := (Rat.intCast_le_intCast (a := 0)).2 (by omega)
theorem sd_val (n X Y : Int) (h0 : 0 ≤ n) (h1 : n ≤ 5400000) (x0 : 0 < X) (x1 : X ≤ 2147483648) (y0 : 0 ≤ Y) (y1 : Y ≤ 2147483648) :
    (sd n X Y = 1 ∧ g57 ≤ val n X Y) ∨ (sd n X Y = 0 ∧ -(g57 / 8) ≤ val n X Y ∧ val n X Y ≤ g57 / 8) ∨ (sd n X Y = -1 ∧ val n X Y ≤ -g57) := by
  obtain ⟨g0, g1, g2, g3⟩ := g_ok
  have em : mT n = n := by unfold mT; omega
  have X0 := one_le x0
  have Y0 := zero_le_cast y0
  have hX : X.natAbs ≤ 2147483648 := by omega
  have hY : Y.natAbs ≤ 2147483648 := by omega
  obtain ⟨xa, xb⟩ := cast_in hX
  obtain ⟨ya, yb⟩ := cast_in hY
  by_cases hn : mT n % 2700000 = 0
  · rcases (show n = 0 ∨ n = 2700000 ∨ n = 5400000 by omega) with h | h | h
    · subst h
      have es : sd 0 X Y = (-Y).sign := by
        unfold sd; rw [if_pos hn, em]
        rw [show tb ((0 : Int) / 2700000) = 0 by decide, show tb (((0 : Int) / 2700000 + 2) % 8) = 1 by decide]
        congr 1; omega
      have ev : val 0 X Y = -(Y : Rat) := by unfold val; rw [cz_zero, sz_zero]; grind
      rw [es, ev]
      by_cases c : Y = 0
      · right; left
        subst c
        refine ⟨rfl, ?_, ?_⟩
        · show -(g57 / 8) ≤ -((0 : Int) : Rat)
          have : ((0 : Int) : Rat) = 0 := rfl
          rw [this]; grind
        · show -((0 : Int) : Rat) ≤ g57 / 8
          have : ((0 : Int) : Rat) = 0 := rfl
          rw [this]; grind
      · right; right
        have := one_le (X := Y) (by omega)
        refine ⟨Int.sign_eq_neg_one_of_neg (by omega), ?_⟩
        have : g57 ≤ 1 := by decide +kernel
        grind
    · subst h
      have es : sd 2700000 X Y = (X - Y).sign := by
        unfold sd; rw [if_pos hn, em]
        rw [show tb ((2700000 : Int) / 2700000) = 1 by decide, show tb (((2700000 : Int) / 2700000 + 2) % 8) = 1 by decide]
        congr 1; omega
      have q := (quarter_sub 2700000).1
      rw [show (5400000 : Int) - 2700000 = 2700000 by omega] at q
      have q : -(2 * et) ≤ sz 2700000 - cz 2700000 ∧ sz 2700000 - cz 2700000 ≤ 2 * et := nr_two q
      have c3 := (eighth 2700000 (by omega)).2
      have ec : ((2700000 : Nat) : Int) = 2700000 := rfl
      rw [ec] at c3
      have m := mul_in xa xb q.1 q.2
      have ev : val 2700000 X Y = ((X - Y : Int) : Rat) * cz 2700000 + (X : Rat) * (sz 2700000 - cz 2700000) := by
        unfold val; rw [Rat.intCast_sub]
        generalize cz 2700000 = c
        generalize sz 2700000 = t
        grind
      have ep := et_pos
      rw [es, ev]
      clear ev es
      generalize (X : Rat) * (sz 2700000 - cz 2700000) = w at *
      generalize cz 2700000 = c at *
      generalize sz 2700000 = t at *
      rcases (show X - Y < 0 ∨ X - Y = 0 ∨ 0 < X - Y by omega) with d | d | d
      · right; right
        refine ⟨Int.sign_eq_neg_one_of_neg d, ?_⟩
        have k := one_le (X := -(X - Y)) (by omega)
        rw [Rat.intCast_neg] at k
        have := Rat.mul_le_mul_of_nonneg_right k (show 0 ≤ c by grind)
        generalize ((X - Y : Int) : Rat) = D at *
        grind
      · right; left
        rw [d]
        refine ⟨rfl, ?_, ?_⟩
        · have : ((0 : Int) : Rat) = 0 := rfl
          rw [this]; grind
        · have : ((0 : Int) : Rat) = 0 := rfl
          rw [this]; grind
      · left
        refine ⟨Int.sign_eq_one_of_pos d, ?_⟩
        have k := one_le (X := X - Y) d
        have := Rat.mul_le_mul_of_nonneg_right k (show 0 ≤ c by grind)
        generalize ((X - Y : Int) : Rat) = D at *
        grind
    · subst h
      left
      have es : sd 5400000 X Y = X.sign := by
        unfold sd; rw [if_pos hn, em]
        rw [show tb ((5400000 : Int) / 2700000) = 1 by decide, show tb (((5400000 : Int) / 2700000 + 2) % 8) = 0 by decide]
        congr 1; omega
      rw [es]
      refine ⟨Int.sign_eq_one_of_pos x0, ?_⟩
      obtain ⟨⟨a1, a2⟩, b1, b2⟩ := quarter
      unfold val
      generalize cz 5400000 = c at *
      generalize sz 5400000 = t at *
      have m1 := Rat.mul_le_mul_of_nonneg_left (show 1 - et ≤ t by grind) (show 0 ≤ (X : Rat) by grind)
      have m2 := Rat.mul_le_mul_of_nonneg_left (show c ≤ et by grind) Y0
      have ep := et_pos
      have m3 := Rat.mul_le_mul_of_nonneg_right xb ep
      have m4 := Rat.mul_le_mul_of_nonneg_right yb ep
      generalize (X : Rat) * t = p at *
      generalize (Y : Rat) * c = q at *
      grind
  · have R := rays_all n hn X Y (by omega) hX hY
    change _ ≤ tS n X Y ∨ tS n X Y ≤ _ at R
    obtain ⟨v1, v2⟩ := val_near n X Y h0 h1 hX hY
    have es : sd n X Y = if 0 < tS n X Y then 1 else -1 := by unfold sd; rw [if_neg hn, if_neg (by omega)]
    rw [es]
    rcases R with R | R
    · left
      rw [if_pos (by grind)]
      exact ⟨rfl, by grind⟩
    · right; right
      rw [if_neg (by grind)]
      exact ⟨rfl, by grind⟩
theorem val_grow (m n X Y : Int) (h0 : 0 ≤ m) (h : m ≤ n) (h1 : n ≤ 5400000) (x0 : 0 < X) (x1 : X ≤ 2147483648) (y0 : 0 ≤ Y) : val m X Y ≤ val n X Y + 4294967296 * (4 * et) := by
  have a := (quarter_sub (5400000 - m)).1
  have b := (quarter_sub (5400000 - n)).1
  rw [show 5400000 - (5400000 - m) = m by omega] at a
  rw [show 5400000 - (5400000 - n) = n by omega] at b
  have c := cz_le (5400000 - n) (5400000 - m) (by omega) (by omega) (by omega)
  have d := cz_le m n h0 h (by omega)
  have a : -(2 * et) ≤ sz m - cz (5400000 - m) ∧ sz m - cz (5400000 - m) ≤ 2 * et := nr_two a
  have b : -(2 * et) ≤ sz n - cz (5400000 - n) ∧ sz n - cz (5400000 - n) ≤ 2 * et := nr_two b
  have X0 := one_le x0
  have Y0 := zero_le_cast y0
  have xb := (cast_in (X := X) (by omega)).2
  have s : sz m ≤ sz n + 4 * et := by grind
  have m1 := Rat.mul_le_mul_of_nonneg_left s (show 0 ≤ (X : Rat) by grind)
  have m2 := Rat.mul_le_mul_of_nonneg_left d Y0
  have m3 := Rat.mul_le_mul_of_nonneg_right xb (show 0 ≤ 4 * et by have := et_pos; grind)
  have ep := et_pos
  unfold val
  grind
theorem sd_mono (m n X Y : Int) (h0 : 0 ≤ m) (h : m ≤ n) (h1 : n ≤ 5400000) (x0 : 0 < X) (x1 : X ≤ 2147483648) (y0 : 0 ≤ Y) (y1 : Y ≤ 2147483648) : sd m X Y ≤ sd n X Y := by
  obtain ⟨g0, g1, g2, g3⟩ := g_ok
  have ep := et_pos
  have v := val_grow m n X Y h0 h h1 x0 x1 y0
  rcases sd_val m X Y h0 (by omega) x0 x1 y0 y1 with ⟨a, a1⟩ | ⟨a, a1, a2⟩ | ⟨a, a1⟩ <;> rcases sd_val n X Y (by omega) h1 x0 x1 y0 y1 with ⟨b, b1⟩ | ⟨b, b1, b2⟩ | ⟨b, b1⟩ <;> rw [a, b] <;> first | omega | (exfalso; grind)
/-- the greatest angle of the first quarter that is not greater than that of a point -/
def IsG (n X Y : Int) : Prop := 0 ≤ n ∧ n < 5400000 ∧ sd n X Y ≤ 0 ∧ 0 < sd (n + 1) X Y
theorem IsG.uniq {m n X Y : Int} (x0 : 0 < X) (x1 : X ≤ 2147483648) (y0 : 0 ≤ Y) (y1 : Y ≤ 2147483648) (h : IsG m X Y) (k : IsG n X Y) : m = n := by
  obtain ⟨a1, a2, a3, a4⟩ := h
  obtain ⟨b1, b2, b3, b4⟩ := k
  rcases (show m < n ∨ m = n ∨ n < m by omega) with c | c | c
  · have := sd_mono (m + 1) n X Y (by omega) (by omega) (by omega) x0 x1 y0 y1; omega
  · exact c
  · have := sd_mono (n + 1) m X Y (by omega) (by omega) (by omega) x0 x1 y0 y1; omega
end Go.Proofs.YtndcjldnnfhedaaDoor.L6

/- Trig: the sums of the reference are not negative, and end. No run of the model here. -/
namespace Go.Proofs.YtndcjldnnfhedaaDoor.L6
set_option linter.unusedVariables false
set_option maxRecDepth 100000

theorem flP_le {P t sq : Nat} (h : sq ≤ P) : flP P t sq ≤ t := by
  unfold flP
  rcases Nat.eq_zero_or_pos P with c | c
  · subst c; rw [Nat.div_zero]; omega
  · have := Nat.mul_le_mul_left t h
    exact Nat.div_le_of_le_mul (by rw [Nat.mul_comm P t]; exact this)
theorem tm_down {P t0 sq d : Nat} (h : sq ≤ P) (k : Nat) : tmP P t0 sq d (k + 1) ≤ tmP P t0 sq d k := by
  show flP P (tmP P t0 sq d k) sq / dv d k ≤ _
  exact Nat.le_trans (Nat.div_le_self _ _) (flP_le h)
theorem al_pos {P t0 sq d : Nat} (h : sq ≤ P) (j : Nat) : 0 ≤ alP P t0 sq d (2 * j) ∧ (tmP P t0 sq d (2 * j) : Int) ≤ alP P t0 sq d (2 * j + 1) := by
  have odd : ∀ j : Nat, 0 ≤ alP P t0 sq d (2 * j) → (tmP P t0 sq d (2 * j) : Int) ≤ alP P t0 sq d (2 * j + 1) := by
    intro j hj
    show _ ≤ alP P t0 sq d (2 * j) + (if (2 * j) % 2 = 0 then (tmP P t0 sq d (2 * j) : Int) else _)
    rw [if_pos (by omega)]
    omega
  induction j with
  | zero => exact ⟨Int.le_refl 0, odd 0 (Int.le_refl 0)⟩
  | succ j ih =>
    have e : 0 ≤ alP P t0 sq d (2 * (j + 1)) := by
      rw [show 2 * (j + 1) = 2 * j + 1 + 1 by omega]
      show 0 ≤ alP P t0 sq d (2 * j + 1) + (if (2 * j + 1) % 2 = 0 then _ else -(tmP P t0 sq d (2 * j + 1) : Int))
      rw [if_neg (by omega)]
      have := tm_down (t0 := t0) (d := d) h (2 * j)
      have := ih.2
      omega
    exact ⟨e, odd _ e⟩
theorem al_nonneg {P t0 sq d : Nat} (h : sq ≤ P) (k : Nat) : 0 ≤ alP P t0 sq d k := by
  obtain ⟨a, b⟩ := al_pos (t0 := t0) (d := d) h (k / 2)
  rcases (show k = 2 * (k / 2) ∨ k = 2 * (k / 2) + 1 by omega) with c | c
  · rw [c]; exact a
  · rw [c]; omega
/-- the positive and the negative terms by themselves -/
def plP (P t0 sq d : Nat) : Nat → Nat
  | 0 => 0
  | k + 1 => plP P t0 sq d k + (if k % 2 = 0 then tmP P t0 sq d k else 0)
def miP (P t0 sq d : Nat) : Nat → Nat
  | 0 => 0
  | k + 1 => miP P t0 sq d k + (if k % 2 = 0 then 0 else tmP P t0 sq d k)
theorem al_split (P t0 sq d k : Nat) : alP P t0 sq d k = (plP P t0 sq d k : Int) - (miP P t0 sq d k : Int) := by
  induction k with
  | zero => rfl
  | succ k ih =>
    show alP P t0 sq d k + (if k % 2 = 0 then _ else _) = ((plP P t0 sq d k + (if k % 2 = 0 then _ else _) : Nat) : Int) - ((miP P t0 sq d k + (if k % 2 = 0 then _ else _) : Nat) : Int)
    rw [ih]
    split <;> omega
theorem mi_le {P t0 sq d : Nat} (h : sq ≤ P) (k : Nat) : miP P t0 sq d k ≤ plP P t0 sq d k := by
  have a := al_nonneg (t0 := t0) (d := d) h k
  rw [al_split] at a
  omega
theorem dvd_zero {P t0 sq d : Nat} (k : Nat) (h : tmP P t0 sq d k = 0) : tmP P t0 sq d (k + 1) = 0 := by
  show flP P (tmP P t0 sq d k) sq / dv d k = 0
  rw [h]
  unfold flP
  rw [Nat.zero_mul, Nat.zero_div, Nat.zero_div]
/-- behind the first term that is nothing there is nothing -/
theorem tm_rest {P t0 sq d k : Nat} (h : tmP P t0 sq d k = 0) : ∀ j, k ≤ j → tmP P t0 sq d j = 0 := by
  intro j
  induction j with
  | zero =>
    intro c
    have : k = 0 := by omega
    subst this
    exact h
  | succ j ih =>
    intro c
    by_cases e : k = j + 1
    · rw [← e]; exact h
    · exact dvd_zero j (ih (by omega))
theorem al_rest {P t0 sq d k : Nat} (h : tmP P t0 sq d k = 0) : ∀ j, k ≤ j → plP P t0 sq d j = plP P t0 sq d k ∧ miP P t0 sq d j = miP P t0 sq d k := by
  intro j
  induction j with
  | zero => intro c; rw [show k = 0 by omega]; exact ⟨rfl, rfl⟩
  | succ j ih =>
    intro c
    by_cases e : k = j + 1
    · rw [e]; exact ⟨rfl, rfl⟩
    · obtain ⟨i1, i2⟩ := ih (by omega)
      have z := tm_rest h j (by omega)
      show plP P t0 sq d j + (if j % 2 = 0 then tmP P t0 sq d j else 0) = _ ∧ miP P t0 sq d j + (if j % 2 = 0 then 0 else tmP P t0 sq d j) = _
      rw [z, i1, i2]
      constructor <;> split <;> rfl
theorem cast_small {t : Nat} (h : (t : Rat) < 1) : t = 0 := by
  refine Classical.byContradiction fun c => ?_
  have := (Rat.natCast_le_natCast (a := 1) (b := t)).2 (by omega)
  have e : ((1 : Nat) : Rat) = 1 := rfl
  rw [e] at this
  grind
theorem ap_small {x : Rat} (h0 : 0 ≤ x) (h1 : x ≤ 1) (m : Nat) {P : Nat} (hf : P < fct m) : (P : Rat) * ap' x m < 1 := by
  have f := ap_fct m
  have a := ap_mono h0 h1 m
  have p := ap_nonneg (x := 1) (by decide +kernel) m
  have q := ap_nonneg h0 m
  have k := (Rat.natCast_lt_natCast).2 hf
  have P0 : (0 : Rat) ≤ (P : Rat) := Rat.natCast_nonneg
  have b := Rat.mul_le_mul_of_nonneg_left a P0
  have pos : 0 < ap' 1 m := by
    refine Classical.byContradiction fun c => ?_
    have z : ap' 1 m = 0 := by grind
    rw [z, Rat.zero_mul] at f
    exact absurd f (by decide +kernel)
  have := Rat.mul_lt_mul_of_pos_right k pos
  generalize ap' 1 m = u at *
  generalize ap' x m = v at *
  generalize (fct m : Rat) = w at *
  grind
/-- the sixteenth term is nothing -/
theorem end_sin {P X : Nat} {x : Rat} (hP : (0 : Rat) < (P : Rat)) (hx0 : 0 ≤ x) (hx1 : x ≤ 1) (hX : (X : Rat) = (P : Rat) * x) (hf : P < fct 33) : tmP P X (flP P X X) 2 16 = 0 := by
  have t := (sinL_near hP hx0 hx1 hX).1 16
  have a := ap_small hx0 hx1 33 hf
  exact cast_small (by show _ < _; rw [show 2 * 16 + 1 = 33 by omega] at t; generalize ap' x 33 = v at *; grind)
theorem end_cos {P X : Nat} {x : Rat} (hP : (0 : Rat) < (P : Rat)) (hx0 : 0 ≤ x) (hx1 : x ≤ 1) (hX : (X : Rat) = (P : Rat) * x) (hf : P < fct 32) : tmP P P (flP P X X) 1 16 = 0 := by
  have t := (cosL_near hP hx0 hx1 hX).1 16
  have a := ap_small hx0 hx1 32 hf
  exact cast_small (by show _ < _; rw [show 2 * 16 = 32 by omega] at t; generalize ap' x 32 = v at *; grind)
theorem fct_big : 5192296858534827628530496329220096 < fct 32 ∧ 5192296858534827628530496329220096 < fct 33 := by decide +kernel
end Go.Proofs.YtndcjldnnfhedaaDoor.L6

/- Trig: the program's longer series (degree 26), in plain numbers, and the sign that it decides. No run of the model here. -/
namespace Go.Proofs.YtndcjldnnfhedaaDoor.L6
set_option linter.unusedVariables false
set_option maxRecDepth 100000

/-- the series -/
def serF (f S : Nat) : Nat → Nat
  | 0 => cf (f + 26)
  | j + 1 => cf (f + 24 - 2 * j) - pm S (serF f S j)
theorem serF_le (f S : Nat) (j : Nat) : serF f S j ≤ cf (f + 26 - 2 * j) := by
  cases j with
  | zero => exact Nat.le_refl _
  | succ j => rw [show f + 26 - 2 * (j + 1) = f + 24 - 2 * j by omega]; exact Nat.sub_le _ _
theorem serF_fit (f S : Nat) (hS : S ≤ 340282366920938463463374607431768211456) (j : Nat) (hj : j ≤ 12) : pm S (serF f S j) ≤ cf (f + 24 - 2 * j) := by
  have a := pm_le S (serF f S j) hS
  have b := serF_le f S j
  have c := cf_fall2 (f + 24 - 2 * j)
  rw [show f + 24 - 2 * j + 2 = f + 26 - 2 * j by omega] at c
  omega
/-- Horner's sums, exact -/
def hpF (f : Nat) (s : Rat) : Nat → Rat
  | 0 => 1 / (fct (f + 28) : Rat)
  | j + 1 => 1 / (fct (f + 26 - 2 * j) : Rat) - s * hpF f s j
theorem serF_near (f S : Nat) (s : Rat) (hS : S ≤ 340282366920938463463374607431768211456) (s0 : 0 ≤ s) (s1 : s ≤ 1) (h1 : (S : Rat) ≤ pq * s) (h2 : pq * s ≤ (S : Rat) + 3) :
    ∀ j : Nat, j ≤ 13 → -(7 * (j : Rat) + 1) ≤ (serF f S j : Rat) - pq * hpF f s j ∧ (serF f S j : Rat) - pq * hpF f s j ≤ 7 * (j : Rat) + 1 := by
  intro j
  induction j with
  | zero =>
    intro _
    have c := cf_near (f + 26)
    have z : ((0 : Nat) : Rat) = 0 := rfl
    have e1 : serF f S 0 = cf (f + 26) := rfl
    have e2 : hpF f s 0 = 1 / (fct (f + 26 + 2) : Rat) := rfl
    rw [e1, e2, z]
    generalize pq * (1 / (fct (f + 26 + 2) : Rat)) = u at *
    constructor <;> grind
  | succ j ih =>
    intro hj
    have i := ih (by omega)
    have fit := serF_fit f S hS j (by omega)
    have ql : serF f S j ≤ 340282366920938463463374607431768211456 := Nat.le_trans (serF_le f S j) (cf_le _)
    have n := pm_near (a := S) (b := serF f S j) (x := s) (y := hpF f s j) (d := 3) (e := 7 * (j : Rat) + 1) s0 s1 ql ⟨by grind, by grind⟩ i
    have c := cf_near (f + 24 - 2 * j)
    rw [show f + 24 - 2 * j + 2 = f + 26 - 2 * j by omega] at c
    have e1 : serF f S (j + 1) = cf (f + 24 - 2 * j) - pm S (serF f S j) := rfl
    have e2 : hpF f s (j + 1) = 1 / (fct (f + 26 - 2 * j) : Rat) - s * hpF f s j := rfl
    have e3 : ((j + 1 : Nat) : Rat) = (j : Rat) + 1 := by rw [Rat.natCast_add]; rfl
    have e4 : ((cf (f + 24 - 2 * j) - pm S (serF f S j) : Nat) : Rat) = (cf (f + 24 - 2 * j) : Rat) - (pm S (serF f S j) : Rat) := by
      have : ((cf (f + 24 - 2 * j) - pm S (serF f S j) + pm S (serF f S j) : Nat) : Rat) = (cf (f + 24 - 2 * j) : Rat) := by rw [Nat.sub_add_cancel fit]
      rw [Rat.natCast_add] at this
      grind
    rw [e1, e2, e3, e4]
    have e5 : pq * (1 / (fct (f + 26 - 2 * j) : Rat) - s * hpF f s j) = pq * (1 / (fct (f + 26 - 2 * j) : Rat)) - pq * (s * hpF f s j) := by grind
    rw [e5]
    generalize pq * (1 / (fct (f + 26 - 2 * j) : Rat)) = u at *
    generalize pq * (s * hpF f s j) = v at *
    generalize (cf (f + 24 - 2 * j) : Rat) = c at *
    generalize (pm S (serF f S j) : Rat) = t at *
    constructor <;> grind
theorem hpF_sum (f : Nat) (x : Rat) : ∀ j a, a + j = 14 → wp x (f + 2 * a) * hpF f (x * x) j = alT (fun i => ap' x (f + 2 * (a + i))) (j + 1) := by
  intro j
  induction j with
  | zero =>
    intro a h
    have : a = 14 := by omega
    subst this
    show wp x (f + 28) * (1 / (fct (f + 28) : Rat)) = (0 : Rat) + sg 0 * ap' x (f + 28)
    rw [wp_inv]; unfold sg; rw [if_pos rfl]; grind
  | succ j ih =>
    intro a h
    have i := ih (a + 1) (by omega)
    rw [alT_shift]
    have e : alT (fun i => ap' x (f + 2 * (a + (i + 1)))) (j + 1) = alT (fun i => ap' x (f + 2 * (a + 1 + i))) (j + 1) := alT_congr (fun i => by rw [show a + (i + 1) = a + 1 + i by omega]) _
    rw [e, ← i]
    show wp x (f + 2 * a) * (1 / (fct (f + 26 - 2 * j) : Rat) - x * x * hpF f (x * x) j) = ap' x (f + 2 * (a + 0)) - _
    rw [show f + 26 - 2 * j = f + 2 * a by omega, Nat.add_zero, ← wp_inv x (f + 2 * a), show f + 2 * (a + 1) = f + 2 * a + 1 + 1 by omega, wp_succ, wp_succ]
    grind
theorem sF_horner (x : Rat) : sT 30 x = x - x * (x * x * hpF 1 (x * x) 13) := by
  have h := hpF_sum 1 x 13 1 rfl
  have a := s_alt x 15
  rw [show (2 * 15 : Nat) = 30 from rfl, alT_shift] at a
  have e : alT (fun i => ap' x (2 * (i + 1) + 1)) 14 = alT (fun i => ap' x (1 + 2 * (1 + i))) (13 + 1) := alT_congr (fun i => by rw [show 2 * (i + 1) + 1 = 1 + 2 * (1 + i) by omega]) _
  rw [e, ← h, show (1 + 2 * 1 : Nat) = 0 + 1 + 1 + 1 from rfl, wp_succ, wp_succ, wp_succ] at a
  have a1 : ap' x (2 * 0 + 1) = x := (ap8 x).2.1
  have w0 : wp x 0 = 1 := by show (1 : Rat) * ((1 : Nat) : Rat) = 1; decide +kernel
  rw [a, a1, w0]; grind
theorem cF_horner (x : Rat) : cT 30 x = 1 - x * x * hpF 0 (x * x) 13 := by
  have h := hpF_sum 0 x 13 1 rfl
  have a := c_alt x 15
  rw [show (2 * 15 : Nat) = 30 from rfl, alT_shift] at a
  have e : alT (fun i => ap' x (2 * (i + 1))) 14 = alT (fun i => ap' x (0 + 2 * (1 + i))) (13 + 1) := alT_congr (fun i => by rw [show 2 * (i + 1) = 0 + 2 * (1 + i) by omega]) _
  rw [e, ← h, show (0 + 2 * 1 : Nat) = 0 + 1 + 1 from rfl, wp_succ, wp_succ] at a
  have a1 : ap' x (2 * 0) = 1 := rfl
  have w0 : wp x 0 = 1 := by show (1 : Rat) * ((1 : Nat) : Rat) = 1; decide +kernel
  rw [a, a1, w0]; grind
def sinF (X : Nat) : Nat := X - pm X (pm (pm X X) (serF 1 (pm X X) 13))
def cosF (X : Nat) : Nat := 340282366920938463463374607431768211456 - pm (pm X X) (serF 0 (pm X X) 13)
theorem fct30 : pq * (2 * ap' 1 30) ≤ 4194304 := by
  have h := ap_fct 30
  have p := ap_nonneg (x := 1) (by decide +kernel) 30
  have f : ((2 ^ 107 : Nat) : Rat) ≤ (fct 30 : Rat) := (Rat.natCast_le_natCast).2 (by decide +kernel)
  have a := Rat.mul_le_mul_of_nonneg_left f p
  rw [h] at a
  have q : pq * 2 = ((2 ^ 107 : Nat) : Rat) * 4194304 := by decide +kernel
  have r : pq * (2 * ap' 1 30) = ap' 1 30 * ((2 ^ 107 : Nat) : Rat) * 4194304 := by
    rw [← Rat.mul_assoc, q]; grind
  rw [r]
  generalize ap' 1 30 * ((2 ^ 107 : Nat) : Rat) = z at *
  grind
theorem tail30 (w : Nat → Rat) (hw : ∀ m, -1 ≤ w m ∧ w m ≤ 1) {x : Rat} (h0 : 0 ≤ x) (h1 : x ≤ 1) : -4194304 ≤ pq * tw w 32 x - pq * tw w 30 x ∧ pq * tw w 32 x - pq * tw w 30 x ≤ 4194304 := by
  obtain ⟨t1, t2⟩ := tail_abs w hw x h0 0 30 32 (by omega)
  have r := rest_le h0 h1 30 (by omega) 32 (by omega)
  have p := ap_nonneg h0 32
  have e2 : sm (fun j => w (0 + j) * ap' x j) 30 = tw w 30 x := by unfold tw; exact sm_congr 30 (fun i _ => by rw [Nat.zero_add])
  have e3 : sm (fun j => w (0 + j) * ap' x j) 32 = tw w 32 x := by unfold tw; exact sm_congr 32 (fun i _ => by rw [Nat.zero_add])
  rw [e2, e3] at t1 t2
  have m := ap_mono h0 h1 30
  have f := fct30
  have P := pq_pos
  have k : -(2 * ap' 1 30) ≤ tw w 32 x - tw w 30 x ∧ tw w 32 x - tw w 30 x ≤ 2 * ap' 1 30 := by
    generalize tw w 32 x = a at *
    generalize tw w 30 x = b at *
    generalize tw (fun _ => 1) 32 x = c at *
    generalize tw (fun _ => 1) 30 x = d at *
    constructor <;> grind
  have k1 := Rat.mul_le_mul_of_nonneg_left k.1 (Rat.le_of_lt P)
  have k2 := Rat.mul_le_mul_of_nonneg_left k.2 (Rat.le_of_lt P)
  generalize tw w 32 x = a at *
  generalize tw w 30 x = b at *
  generalize ap' 1 30 = c at *
  generalize pq = p at *
  constructor <;> grind
/-- the series, near -/
theorem twoF_near (f X : Nat) (x : Rat) (hX : X ≤ 340282366920938463463374607431768211455) (x0 : 0 ≤ x) (ex : (X : Rat) = pq * x) :
    -98 ≤ (pm (pm X X) (serF f (pm X X) 13) : Rat) - pq * (x * x * hpF f (x * x) 13) ∧ (pm (pm X X) (serF f (pm X X) 13) : Rat) - pq * (x * x * hpF f (x * x) 13) ≤ 98 := by
  have x1 := pq_le ex (by omega)
  have s0 : 0 ≤ x * x := Rat.mul_nonneg x0 x0
  have s1 : x * x ≤ 1 := by have := Rat.mul_le_mul_of_nonneg_left x1 x0; grind
  have S1 : pm X X ≤ 340282366920938463463374607431768211456 := by have := S_le X hX; omega
  obtain ⟨h1, h2⟩ := pm_frac ex ex
  have n := serF_near f (pm X X) (x * x) S1 s0 s1 h1 h2 13 (by omega)
  have e : (7 : Rat) * ((13 : Nat) : Rat) + 1 = 92 := by decide +kernel
  rw [e] at n
  have ql : serF f (pm X X) 13 ≤ 340282366920938463463374607431768211456 := Nat.le_trans (serF_le f _ 13) (cf_le _)
  have m := pm_near (a := pm X X) (b := serF f (pm X X) 13) (x := x * x) (y := hpF f (x * x) 13) (d := 3) (e := 92) s0 s1 ql ⟨by grind, by grind⟩ n
  constructor <;> grind
theorem inF_le (f X : Nat) (hX : X ≤ 340282366920938463463374607431768211455) : pm (pm X X) (serF f (pm X X) 13) ≤ cf f := by
  have a := pm_le (pm X X) (serF f (pm X X) 13) (by have := S_le X hX; omega)
  have b := serF_le f (pm X X) 13
  rw [show f + 26 - 2 * 13 = f by omega] at b
  omega
theorem sinF_fit (X : Nat) (hX : X ≤ 340282366920938463463374607431768211455) : pm X (pm (pm X X) (serF 1 (pm X X) 13)) ≤ X :=
  sin_fit X hX _ (Nat.le_trans (inF_le 1 X hX) (cf_le 1))
theorem sinF_near (X : Nat) (x : Rat) (hX : X ≤ 340282366920938463463374607431768211455) (x0 : 0 ≤ x) (ex : (X : Rat) = pq * x) : -130 ≤ (sinF X : Rat) - pq * sT 30 x ∧ (sinF X : Rat) - pq * sT 30 x ≤ 130 := by
  have x1 := pq_le ex (by omega)
  have t := twoF_near 1 X x hX x0 ex
  have il := Nat.le_trans (inF_le 1 X hX) (cf_le 1)
  have m := pm_near (a := X) (b := pm (pm X X) (serF 1 (pm X X) 13)) (x := x) (y := x * x * hpF 1 (x * x) 13) (d := 0) (e := 98) x0 x1 il ⟨by grind, by grind⟩ t
  have fit := sinF_fit X hX
  have e4 : (sinF X : Rat) = (X : Rat) - (pm X (pm (pm X X) (serF 1 (pm X X) 13)) : Rat) := by
    have : ((sinF X + pm X (pm (pm X X) (serF 1 (pm X X) 13)) : Nat) : Rat) = (X : Rat) := by unfold sinF; rw [Nat.sub_add_cancel fit]
    rw [Rat.natCast_add] at this
    grind
  rw [e4, sF_horner, ex]
  have e5 : pq * (x - x * (x * x * hpF 1 (x * x) 13)) = pq * x - pq * (x * (x * x * hpF 1 (x * x) 13)) := by grind
  rw [e5]
  clear e4 e5 fit il t
  generalize (pm X (pm (pm X X) (serF 1 (pm X X) 13)) : Rat) = u at *
  generalize pq * (x * (x * x * hpF 1 (x * x) 13)) = v at *
  constructor <;> grind
theorem cosF_near (X : Nat) (x : Rat) (hX : X ≤ 340282366920938463463374607431768211455) (x0 : 0 ≤ x) (ex : (X : Rat) = pq * x) : -130 ≤ (cosF X : Rat) - pq * cT 30 x ∧ (cosF X : Rat) - pq * cT 30 x ≤ 130 := by
  have t := twoF_near 0 X x hX x0 ex
  have fit := Nat.le_trans (inF_le 0 X hX) (cf_le 0)
  have e4 : (cosF X : Rat) = pq * 1 - (pm (pm X X) (serF 0 (pm X X) 13) : Rat) := by
    have : ((cosF X + pm (pm X X) (serF 0 (pm X X) 13) : Nat) : Rat) = pq * 1 := by unfold cosF; rw [Nat.sub_add_cancel fit, pq_one]
    rw [Rat.natCast_add] at this
    grind
  rw [e4, cF_horner]
  have e5 : pq * (1 - x * x * hpF 0 (x * x) 13) = pq * 1 - pq * (x * x * hpF 0 (x * x) 13) := by grind
  rw [e5]
  clear e4 e5 fit
  generalize (pm (pm X X) (serF 0 (pm X X) 13) : Rat) = u at *
  generalize pq * (x * x * hpF 0 (x * x) 13) = v at *
  constructor <;> grind
def EF : Rat := 137438953472
theorem ef_ok : pq * kq2 + 9000000 + 4194304 + 130 ≤ EF ∧ 0 < EF ∧ 4294967296 * EF < pq * (1 / ((2 ^ 56 : Nat) : Rat)) := by decide +kernel
theorem threeF {A p z k u v w E : Rat} (P : 0 ≤ p) (kk : p * k + 9000000 + 4194304 + 130 ≤ E) (l : -k ≤ u - z ∧ u - z ≤ k) (l1 : -9000000 ≤ p * u - p * v ∧ p * u - p * v ≤ 9000000) (t : -4194304 ≤ p * v - p * w ∧ p * v - p * w ≤ 4194304) (s : -130 ≤ A - p * w ∧ A - p * w ≤ 130) : -E ≤ A - p * z ∧ A - p * z ≤ E := by
  have m1 := Rat.mul_le_mul_of_nonneg_left l.1 P
  have m2 := Rat.mul_le_mul_of_nonneg_left l.2 P
  constructor <;> grind
/-- the program's finer sines and cosines, times 2^128 -/
theorem progF_near (r : Nat) (h : r ≤ 2700000) : (-EF ≤ (sinF (rad * r) : Rat) - pq * sz r ∧ (sinF (rad * r) : Rat) - pq * sz r ≤ EF) ∧ (-EF ≤ (cosF (rad * r) : Rat) - pq * cz r ∧ (cosF (rad * r) : Rat) - pq * cz r ≤ EF) := by
  have hX := X_le r h
  obtain ⟨X, hXe⟩ : ∃ X, rad * r = X := ⟨_, rfl⟩
  have hXr : (rad : Rat) * (r : Rat) = (X : Rat) := by rw [← hXe, Rat.natCast_mul]
  rw [hXe] at hX
  rw [hXe]
  clear hXe
  obtain ⟨x, x0, ex⟩ := pq_frac X
  have x1 := pq_le ex (Nat.le_succ_of_le hX)
  have r0 : (0 : Rat) ≤ (r : Rat) := Rat.natCast_nonneg
  have rl := (Rat.natCast_le_natCast (a := r) (b := 3000000)).2 (by omega)
  have c3 : ((3000000 : Nat) : Rat) = 3000000 := rfl
  rw [c3] at rl
  have y1 : (r : Rat) * hU ≤ 1 := by
    have h1 := Rat.mul_le_mul_of_nonneg_right rl hU_in.1
    have h3 := hU_in.2
    rw [Rat.mul_comm hU] at h3
    exact Rat.le_trans h1 h3
  have P := pq_pos
  obtain ⟨xy, dd⟩ := arc_near P rad_in.1 rad_in.2 r0 rl (hXr.trans ex)
  have ls := lip3 ws ws_in x0 xy y1
  have lc := lip3 wc wc_in x0 xy y1
  have l1 := lip_q P ls.1 ls.2 dd
  have l2 := lip_q P lc.1 lc.2 dd
  have t1 := tail30 ws ws_in x0 x1
  have t2 := tail30 wc wc_in x0 x1
  have s := sinF_near _ x hX x0 ex
  have c := cosF_near _ x hX x0 ex
  obtain ⟨q1, q2⟩ := link2 r (by omega)
  exact ⟨threeF (Rat.le_of_lt P) ef_ok.1 q2 l1 t1 s, threeF (Rat.le_of_lt P) ef_ok.1 q1 l2 t2 c⟩
/-- the program's finer number of an angle between 0 and a quarter -/
def irF (m : Nat) : Nat := if 2700000 < m then cosF (rad * (5400000 - m)) else sinF (rad * m)
theorem irF_near (n : Nat) (h1 : 1 ≤ n) (h2 : n < 5400000) (h3 : n ≠ 2700000) : (-EF ≤ (irF n : Rat) - pq * SN n ∧ (irF n : Rat) - pq * SN n ≤ EF) ∧ (-EF ≤ (irF (5400000 - n) : Rat) - pq * SN ((n : Int) + 5400000) ∧ (irF (5400000 - n) : Rat) - pq * SN ((n : Int) + 5400000) ≤ EF) := by
  have em : mT (n : Int) = n := by unfold mT; omega
  obtain ⟨d1, d2, d3, d4, d5⟩ := rd_in (n : Int)
  have q0 : qd (n : Int) = 0 := by omega
  obtain ⟨q1, q2, q3, q4⟩ := quarter_on (n : Int)
  have hf : far (n : Int) = decide (2700000 < rd (n : Int)) := rfl
  have er := rr_int (n : Int)
  have hc : co (n : Int) = xor (decide (qd (n : Int) % 2 = 1)) (far (n : Int)) := rfl
  have hc' : co ((n : Int) + 5400000) = xor (decide (qd ((n : Int) + 5400000) % 2 = 1)) (far ((n : Int) + 5400000)) := rfl
  have e0 : SN (n : Int) = bs (n : Int) := by unfold SN sgn; rw [if_neg (by omega)]
  have e1 : SN ((n : Int) + 5400000) = bs ((n : Int) + 5400000) := by unfold SN sgn; rw [if_neg (by omega)]
  rw [e0, e1]
  unfold bs
  rw [hc, hc', q4, q2, q1, q0, show decide ((0 : Int) % 2 = 1) = false by decide, show decide (((0 : Int) + 1) % 4 % 2 = 1) = true by decide]
  have hr := rr_in (n : Int)
  obtain ⟨ps, pc⟩ := progF_near (rr (n : Int)) hr
  unfold irF
  by_cases c : 2700000 < rd (n : Int)
  · rw [decide_eq_true c] at hf
    rw [hf] at er ⊢
    rw [if_pos rfl] at er
    have m : 5400000 - n = rr (n : Int) := by omega
    rw [if_pos (show 2700000 < n by omega), if_neg (show ¬ 2700000 < 5400000 - n by omega), m]
    exact ⟨pc, ps⟩
  · rw [decide_eq_false c] at hf
    rw [hf] at er ⊢
    rw [if_neg (by decide)] at er
    have m : n = rr (n : Int) := by omega
    rw [if_neg (show ¬ 2700000 < n by omega), if_pos (show 2700000 < 5400000 - n by omega), show 5400000 - (5400000 - n) = n by omega]
    rw [← m] at ps pc ⊢
    exact ⟨ps, pc⟩
/-- what the finer digits decide -/
theorem side_fine (n : Nat) (h1 : 1 ≤ n) (h2 : n < 5400000) (h3 : n ≠ 2700000) (X Y : Nat) (h0 : ¬(X = 0 ∧ Y = 0)) (hX : X ≤ 2147483648) (hY : Y ≤ 2147483648) :
    (irF (5400000 - n) * Y < irF n * X ∧ 0 < tS n X Y) ∨ (irF n * X < irF (5400000 - n) * Y ∧ tS n X Y < 0) := by
  obtain ⟨a, b⟩ := irF_near n h1 h2 h3
  obtain ⟨q1, q2, q3⟩ := ef_ok
  have a' : -EF ≤ (((irF n : Nat) : Int) : Rat) - pq * SN n ∧ (((irF n : Nat) : Int) : Rat) - pq * SN n ≤ EF := by rw [Rat.intCast_natCast]; exact a
  have b' : -EF ≤ (((irF (5400000 - n) : Nat) : Int) : Rat) - pq * SN ((n : Int) + 5400000) ∧ (((irF (5400000 - n) : Nat) : Int) : Rat) - pq * SN ((n : Int) + 5400000) ≤ EF := by rw [Rat.intCast_natCast]; exact b
  have c := comb_near (X := (X : Int)) (Y := (Y : Int)) (by omega) (by omega) a' b'
  have m := rays_all n (by unfold mT; omega) X Y (by omega) (by omega) (by omega)
  change _ ≤ tS n X Y ∨ tS n X Y ≤ _ at m
  change _ ≤ _ - pq * tS n X Y ∧ _ - pq * tS n X Y ≤ _ at c
  have gp : (0 : Rat) < 1 / ((2 ^ 56 : Nat) : Rat) := by decide +kernel
  have P := pq_pos
  rcases m with m | m
  · left
    have k := Rat.mul_le_mul_of_nonneg_left m (Rat.le_of_lt P)
    refine ⟨?_, by grind⟩
    have d : (0 : Int) < (X : Int) * (irF n : Nat) - (Y : Int) * (irF (5400000 - n) : Nat) := rat_int_lt (by
      show (0 : Rat) < _
      generalize (((X : Int) * (irF n : Nat) - (Y : Int) * (irF (5400000 - n) : Nat) : Int) : Rat) = d at *
      generalize tS n X Y = v at *
      grind)
    rw [Nat.mul_comm _ Y, Nat.mul_comm _ X]
    have := Int.natCast_mul X (irF n)
    have := Int.natCast_mul Y (irF (5400000 - n))
    omega
  · right
    have k := Rat.mul_le_mul_of_nonneg_left m (Rat.le_of_lt P)
    refine ⟨?_, by grind⟩
    have d : (X : Int) * (irF n : Nat) - (Y : Int) * (irF (5400000 - n) : Nat) < (0 : Int) := rat_int_lt (by
      show _ < (0 : Rat)
      generalize (((X : Int) * (irF n : Nat) - (Y : Int) * (irF (5400000 - n) : Nat) : Int) : Rat) = d at *
      generalize tS n X Y = v at *
      grind)
    rw [Nat.mul_comm _ Y, Nat.mul_comm _ X]
    have := Int.natCast_mul X (irF n)
    have := Int.natCast_mul Y (irF (5400000 - n))
    omega
theorem irF_mid : 0 < irF 2700000 := by decide +kernel
end Go.Proofs.YtndcjldnnfhedaaDoor.L6

/- Arctrig: the arcsine of a point's sine, rounded down, is at most one unit below its angle. No run of the model here. -/
namespace Go.Proofs.YtndcjldnnfhedaaDoor.L6
set_option linter.unusedVariables false
set_option maxRecDepth 100000

theorem sq_le {a b : Rat} (h0 : 0 ≤ a) (h : a ≤ b) : a * a ≤ b * b := by
  have h1 := Rat.mul_le_mul_of_nonneg_left h h0
  have h2 := Rat.mul_le_mul_of_nonneg_right h (show 0 ≤ b by grind)
  grind
theorem half_near : -(17 * et) ≤ sz 1800000 - 1 / 2 ∧ sz 1800000 - 1 / 2 ≤ 17 * et := by
  have k := sz_mod 1800000
  rw [show mT 1800000 = 1800000 by decide] at k
  have v := ex_val 1800000 (by decide)
  have x : (exV (mT 1800000 / 1800000) : Rat) / 1073741824 = 1 / 2 := by decide +kernel
  rw [x] at v
  have n := k.trans v
  unfold Nr at n
  have b := n
  constructor <;> grind
theorem g_half : 2147483648 * (4 * (17 * et) + 4 * (17 * et) * (17 * et)) < 6 / 10 * g57 ∧ 0 ≤ et ∧ 0 < g57 := by decide +kernel
theorem zb_big : 3 ≤ 1073741824 * (3 / 10 * zb) - 1073741824 * (1 - za) ∧ 0 ≤ 1 - za ∧ 0 ≤ zb := by decide +kernel
theorem g_sq : 1152921504606846976 * (g57 / 4) = 2 ∧ 1152921504606846976 * (g57 * g57 / 64) ≤ 1 := by decide +kernel
/-- the angle whose sine is a point's, rounded down, is not beyond the point's -/
theorem acute_low (X Y v d : Int) (y0 : 0 < Y) (yx : Y < X) (x1 : X ≤ 2147483648) (v0 : 0 ≤ v) (hv : v * v * (X * X + Y * Y) ≤ Y * Y * 1152921504606846976) (d0 : 0 ≤ d) (d1 : d ≤ 2699999) (hd : hi d ≤ v) : sd d X Y ≤ 0 := by
  rcases sd_val d X Y d0 (by omega) (by omega) x1 (by omega) (by omega) with ⟨a, a1⟩ | ⟨a, -, -⟩ | ⟨a, -⟩
  · exfalso
    have F := fs d (by unfold Ok; omega)
    have C := (eighth d.toNat (by omega)).2
    rw [show ((d.toNat : Nat) : Int) = d by omega] at C
    have one := cs_one d
    have X0 := one_le (X := X) (by omega)
    have Y0 := one_le (X := Y) y0
    have hv' := (Rat.intCast_le_intCast).2 hv
    rw [Rat.intCast_mul, Rat.intCast_mul, Rat.intCast_add, Rat.intCast_mul, Rat.intCast_mul, Rat.intCast_mul, Rat.intCast_mul] at hv'
    have c60 : ((1152921504606846976 : Int) : Rat) = 1152921504606846976 := rfl
    rw [c60] at hv'
    obtain ⟨gg, -, gp⟩ := g_half
    unfold val at a1
    by_cases e : ex d = true
    · rw [ex_iff] at e
      obtain ⟨e0, e1, e2'⟩ := e
      have em : mT d = d := by unfold mT; omega
      rw [em] at e0
      rcases (show d = 0 ∨ d = 1800000 by omega) with h | h
      · subst h
        rw [sz_zero, cz_zero] at a1
        grind
      · subst h
        have f : hi 1800000 = 536870912 := by decide +kernel
        rw [f] at hd
        have q : X * X ≤ 3 * (Y * Y) := by
          have m1 := Int.mul_le_mul hd hd (by omega) v0
          have m2 := Int.mul_le_mul_of_nonneg_right m1 (show 0 ≤ X * X + Y * Y by have := Int.mul_nonneg (a := X) (b := X) (by omega) (by omega); have := Int.mul_nonneg (a := Y) (b := Y) (by omega) (by omega); omega)
          generalize X * X = p at *
          generalize Y * Y = r at *
          generalize v * v = z at *
          have : 536870912 * 536870912 * (p + r) ≤ r * 1152921504606846976 := Int.le_trans m2 hv
          omega
        have q := (Rat.intCast_le_intCast).2 q
        rw [Rat.intCast_mul, Rat.intCast_mul, Rat.intCast_mul] at q
        have c3 : ((3 : Int) : Rat) = 3 := rfl
        rw [c3] at q
        obtain ⟨n1, n2⟩ := half_near
        have yl := (cast_in (X := Y) (by omega)).2
        clear hv' hv F
        generalize sz 1800000 = s at *
        generalize cz 1800000 = c at *
        generalize (X : Rat) = x at *
        generalize (Y : Rat) = y at *
        have ep := et_pos
        generalize he : 17 * et = t at *
        have t0 : 0 ≤ t := by grind
        have s0 : 0 ≤ s := by
          have : t ≤ 1 / 4 := by rw [← he]; decide +kernel
          grind
        have yc : 0 ≤ y * c := Rat.mul_nonneg (by grind) (by grind)
        -- x s >= y c + g
        have k1 := sq_le (show 0 ≤ y * c + g57 by grind) (show y * c + g57 ≤ x * s by grind)
        have k2 := Rat.mul_le_mul_of_nonneg_right q (Rat.mul_nonneg s0 s0)
        have k3 := sq_le s0 (show s ≤ 1 / 2 + t by grind)
        have k4 := Rat.mul_nonneg (Rat.le_of_lt gp) (Rat.le_of_lt gp)
        -- y (y (4 s s - 1)) >= 2 y c g
        have k5 : 2 * (y * c) * g57 ≤ y * y * (4 * (s * s) - 1) := by
          have e1 : (y * c + g57) * (y * c + g57) = y * y * (c * c) + 2 * (y * c) * g57 + g57 * g57 := by grind
          have e2 : x * s * (x * s) = x * x * (s * s) := by grind
          have e3 : y * y * (c * c) = y * y - y * y * (s * s) := by
            have : c * c = 1 - s * s := by grind
            rw [this]; grind
          have e4 : y * y * (4 * (s * s) - 1) = 4 * (y * y * (s * s)) - y * y := by grind
          rw [e1, e3, e2] at k1
          rw [e4]
          have e5 : 3 * (y * y) * (s * s) = 3 * (y * y * (s * s)) := by grind
          rw [e5] at k2
          generalize y * y * (s * s) = u at *
          generalize x * x * (s * s) = w at *
          generalize y * y = z at *
          generalize g57 * g57 = gq at *
          generalize 2 * (y * c) * g57 = zz at *
          grind
        have k6 : 4 * (s * s) - 1 ≤ 4 * t + 4 * t * t := by
          have : (1 / 2 + t) * (1 / 2 + t) = 1 / 4 + t + t * t := by grind
          rw [this] at k3
          generalize s * s = u at *
          have : 4 * t * t = 4 * (t * t) := by grind
          rw [this]
          generalize t * t = w at *
          grind
        have k7 := Rat.mul_le_mul_of_nonneg_left k6 (show 0 ≤ y * y from Rat.mul_nonneg (by grind) (by grind))
        have k8 : 2 * c * g57 ≤ y * (4 * t + 4 * t * t) := by
          refine Rat.le_of_mul_le_mul_left (c := y) ?_ (by grind)
          have e1 : y * (2 * c * g57) = 2 * (y * c) * g57 := by grind
          have e2 : y * (y * (4 * t + 4 * t * t)) = y * y * (4 * t + 4 * t * t) := by grind
          rw [e1, e2]
          exact Rat.le_trans k5 k7
        have t2 : 0 ≤ 4 * t + 4 * t * t := by
          have := Rat.mul_nonneg t0 t0
          have e : 4 * t * t = 4 * (t * t) := by grind
          rw [e]; grind
        have k9 := Rat.mul_le_mul_of_nonneg_right yl t2
        have k10 := Rat.mul_le_mul_of_nonneg_right C (Rat.le_of_lt gp)
        have e6 : 2 * c * g57 = 2 * (c * g57) := by grind
        rw [e6] at k8
        generalize c * g57 = cg at *
        generalize 4 * t + 4 * t * t = tq at *
        generalize y * tq = yt at *
        grind
    · rcases F with ⟨f1, -, -⟩ | ⟨f1, f2, f3⟩
      · unfold lo hi at f1
        rw [if_neg e] at f1
        omega
      · have hd' := (Rat.intCast_le_intCast).2 hd
        rw [f1, Rat.intCast_add] at hd'
        have c1 : ((1 : Int) : Rat) = 1 := rfl
        rw [c1] at hd'
        have d2p := tt_ok.2.2.2.2.2.2
        have s0 : 0 ≤ sz d := by
          rcases (show d = 0 ∨ 1 ≤ d by omega) with h | h
          · subst h; rw [sz_zero]; exact Rat.le_refl
          · have := (eighth d.toNat (by omega)).1 (by omega)
            rw [show ((d.toNat : Nat) : Int) = d by omega] at this
            have b0 : 0 ≤ b8 + 1 / ((2 ^ 81 : Nat) : Rat) := by decide +kernel
            grind
        have k1 := sq_le (show 0 ≤ 1073741824 * sz d by grind) (show 1073741824 * sz d ≤ (v : Rat) by grind)
        have xy : 0 ≤ (X : Rat) * X + (Y : Rat) * Y := by
          have := Rat.mul_nonneg (a := (X : Rat)) (b := X) (by grind) (by grind)
          have := Rat.mul_nonneg (a := (Y : Rat)) (b := Y) (by grind) (by grind)
          grind
        have k2 := Rat.mul_le_mul_of_nonneg_right k1 xy
        have yc : 0 ≤ (Y : Rat) * cz d := Rat.mul_nonneg (by grind) (by grind)
        have k3 := sq_le yc (show (Y : Rat) * cz d ≤ X * sz d by grind)
        have k4 : (Y : Rat) * cz d + g57 ≤ X * sz d := by grind
        have k5 := sq_le (show 0 ≤ (Y : Rat) * cz d + g57 by grind) k4
        clear C hv hd hd' f1 f2 f3
        generalize sz d = s at *
        generalize cz d = c at *
        generalize (X : Rat) = x at *
        generalize (Y : Rat) = y at *
        generalize (v : Rat) = w at *
        have k6 := Rat.mul_pos gp gp
        have k7 := Rat.mul_nonneg yc (Rat.le_of_lt gp)
        have e1 : (y * c + g57) * (y * c + g57) = y * y * (c * c) + 2 * (y * c * g57) + g57 * g57 := by grind
        have e2 : x * s * (x * s) = x * x * (s * s) := by grind
        have e3 : y * y * (c * c) = y * y - y * y * (s * s) := by
          have : c * c = 1 - s * s := by grind
          rw [this]; grind
        rw [e1, e2, e3] at k5
        have e4 : 1073741824 * s * (1073741824 * s) * (x * x + y * y) = 1152921504606846976 * (x * x * (s * s) + y * y * (s * s)) := by grind
        rw [e4] at k2
        have k8 := Rat.le_trans k2 hv'
        clear k1 k2 k3 e1 e2 e3 e4 hv' one xy
        generalize x * x * (s * s) = p at *
        generalize y * y * (s * s) = q at *
        generalize y * y = r at *
        generalize y * c * g57 = u at *
        generalize g57 * g57 = gq at *
        grind
  · omega
  · omega
/-- and two units further is beyond it -/
theorem acute_high (X Y v d : Int) (y0 : 0 < Y) (yx : Y < X) (x1 : X ≤ 2147483648) (v0 : 0 ≤ v) (hv : Y * Y * 1152921504606846976 < (v + 1) * (v + 1) * (X * X + Y * Y)) (d0 : 0 ≤ d) (d1 : d ≤ 2699999) (hd : v < hi (d + 1)) : 0 < sd (d + 2) X Y := by
  have fin : ¬ val (d + 2) X Y ≤ g57 / 8 := by
    intro h
    have F := fs (d + 1) (by unfold Ok; omega)
    have C := (eighth (d + 1).toNat (by omega)).2
    rw [show (((d + 1).toNat : Nat) : Int) = d + 1 by omega] at C
    have S := (eighth (d + 1).toNat (by omega)).1 (by omega)
    rw [show (((d + 1).toNat : Nat) : Int) = d + 1 by omega] at S
    have b0 : 0 ≤ b8 + 1 / ((2 ^ 81 : Nat) : Rat) := by decide +kernel
    have one := cs_one (d + 2)
    have one1 := sz_in (d + 1)
    have up := (z_up (d + 1)).2
    rw [show d + 1 + 1 = d + 2 by omega] at up
    obtain ⟨z1, z2, z3⟩ := zb_big
    obtain ⟨gq1, gq2⟩ := g_sq
    have gp := g_half.2.2
    have X0 := one_le (X := X) (by omega)
    have Y0 := one_le (X := Y) y0
    have xy := one_le (X := X - Y) (by omega)
    rw [Rat.intCast_sub] at xy
    have hv' := (Rat.intCast_lt_intCast).2 hv
    rw [Rat.intCast_mul, Rat.intCast_mul, Rat.intCast_mul, Rat.intCast_mul, Rat.intCast_add, Rat.intCast_add, Rat.intCast_mul, Rat.intCast_mul] at hv'
    have c60 : ((1152921504606846976 : Int) : Rat) = 1152921504606846976 := rfl
    have c1 : ((1 : Int) : Rat) = 1 := rfl
    rw [c60, c1] at hv'
    have V0 := zero_le_cast v0
    have hd' := (Rat.intCast_le_intCast).2 (show v + 1 ≤ hi (d + 1) by omega)
    rw [Rat.intCast_add, c1] at hd'
    obtain ⟨t1, t2, t3, t4, t5, t6, t7⟩ := tt_ok
    have A1 : (v : Rat) + 1 ≤ 1073741824 * sz (d + 1) + 1 := by
      rcases F with ⟨f1, f2, f3⟩ | ⟨f1, f2, f3⟩
      · rw [← f1] at hd'
        grind
      · rw [f1, Rat.intCast_add, c1] at hd'
        grind
    have m1 := Rat.mul_le_mul_of_nonneg_right C z3
    have m2 := Rat.mul_le_mul_of_nonneg_right one1.2 z2
    have A2 : (v : Rat) + 1 + 2 ≤ 1073741824 * sz (d + 2) := by
      rw [up]
      generalize sz (d + 1) = s at *
      have e : s * (1 - za) = s - s * za := by grind
      rw [e] at m2
      generalize s * za = w at *
      generalize cz (d + 1) * zb = u at *
      grind
    have B1 := sq_le (show 0 ≤ (v : Rat) + 1 + 2 by grind) A2
    unfold val at h
    have s0 : 0 ≤ sz (d + 2) := by grind
    have xs := Rat.mul_nonneg (a := (X : Rat)) (b := sz (d + 2)) (by grind) s0
    have cl := (cz_in (d + 2)).2
    have B2 := sq_le xs (show (X : Rat) * sz (d + 2) ≤ Y * cz (d + 2) + g57 / 8 by grind)
    clear F C S b0 one1 up z1 z2 z3 m1 m2 hv hd hd' A1 A2 t1 t2 t3 t4 t5 t6 t7 xs
    generalize sz (d + 2) = s at *
    generalize cz (d + 2) = c at *
    generalize (X : Rat) = x at *
    generalize (Y : Rat) = y at *
    generalize (v : Rat) = w at *
    have xx := Rat.mul_nonneg (a := x) (b := x) (by grind) (by grind)
    have yy := Rat.mul_nonneg (a := y) (b := y) (by grind) (by grind)
    have B3 := Rat.mul_le_mul_of_nonneg_right B1 (show 0 ≤ x * x + y * y by grind)
    have e1 : x * s * (x * s) = x * x * (s * s) := by grind
    have e2 : (y * c + g57 / 8) * (y * c + g57 / 8) = y * y * (c * c) + y * c * (g57 / 4) + g57 * g57 / 64 := by grind
    have e3 : y * y * (c * c) = y * y - y * y * (s * s) := by
      have : c * c = 1 - s * s := by grind
      rw [this]; grind
    rw [e1, e2, e3] at B2
    have yc := Rat.mul_le_mul_of_nonneg_left cl (show 0 ≤ y by grind)
    have ycg := Rat.mul_le_mul_of_nonneg_right yc (show 0 ≤ g57 / 4 by grind)
    have e4 : 1073741824 * s * (1073741824 * s) * (x * x + y * y) = 1152921504606846976 * (x * x * (s * s) + y * y * (s * s)) := by grind
    rw [e4] at B3
    have e5 : (w + 1 + 2) * (w + 1 + 2) * (x * x + y * y) = (w + 1) * (w + 1) * (x * x + y * y) + (4 * (w + 1) + 4) * (x * x + y * y) := by grind
    rw [e5] at B3
    have w4 := Rat.mul_le_mul_of_nonneg_right (show (4 : Rat) ≤ 4 * (w + 1) + 4 by grind) (show 0 ≤ x * x + y * y by grind)
    have e6 : 1152921504606846976 * (y * 1 * (g57 / 4)) = 2 * y := by
      have : 1152921504606846976 * (y * 1 * (g57 / 4)) = y * (1152921504606846976 * (g57 / 4)) := by grind
      rw [this, gq1]; grind
    have y1 := Rat.mul_le_mul_of_nonneg_left Y0 (show 0 ≤ y by grind)
    clear e1 e2 e3 e4 e5 one B1 cl yc s0 xy
    generalize (w + 1) * (w + 1) * (x * x + y * y) = W at *
    generalize (4 * (w + 1) + 4) * (x * x + y * y) = W4 at *
    generalize x * x * (s * s) = p at *
    generalize y * y * (s * s) = q at *
    generalize y * 1 * (g57 / 4) = r at *
    generalize y * c * (g57 / 4) = u at *
    generalize g57 * g57 / 64 = gq at *
    generalize x * x = xq at *
    generalize y * y = yq at *
    grind
  rcases sd_val (d + 2) X Y (by omega) (by omega) (by omega) x1 (by omega) (by omega) with ⟨a, a1⟩ | ⟨a, -, a2⟩ | ⟨a, a1⟩
  · omega
  · exact absurd a2 fin
  · exact absurd (by have := g_half.2.2; grind) fin
theorem cut45 : lo 2700000 = 759250124 ∧ hi 2700000 = 759250125 ∧ hi 0 = 0 := by decide +kernel
/-- the program's way: between the arcsine of the sine and two units more -/
theorem acute_is (X Y v : Int) (y0 : 0 < Y) (yx : Y < X) (x1 : X ≤ 2147483648) (v0 : 0 ≤ v) (h1 : v * v * (X * X + Y * Y) ≤ Y * Y * 1152921504606846976) (h2 : Y * Y * 1152921504606846976 < (v + 1) * (v + 1) * (X * X + Y * Y)) :
    v ≤ 759250124 ∧ 0 ≤ aLo v ∧ aLo v ≤ 2699999 ∧ sd (aLo v) X Y ≤ 0 ∧ 0 < sd (aLo v + 2) X Y := by
  have vl : v ≤ 759250124 := by
    refine Classical.byContradiction fun c => ?_
    have m1 := Int.mul_le_mul (show (759250125 : Int) ≤ v by omega) (show (759250125 : Int) ≤ v by omega) (by omega) v0
    have m2 := Int.mul_le_mul (Int.le_of_lt yx) (show Y + 1 ≤ X by omega) (by omega) (by omega)
    have yp := Int.mul_pos y0 y0
    rw [Int.mul_add, Int.mul_one] at m2
    have m3 := Int.mul_le_mul_of_nonneg_right m1 (show 0 ≤ X * X + Y * Y by omega)
    generalize v * v = z at *
    generalize X * X = p at *
    generalize Y * Y = q at *
    omega
  have f := aF_is v (by omega)
  obtain ⟨k1, k2, k3⟩ := cut45
  have a0 : 0 ≤ aF v := by
    have z : IsF 0 0 := ⟨by decide, by decide, by rw [k3]; decide, .inr (by decide +kernel)⟩
    exact z.of_le f v0
  have a1 : aF v ≤ 2699999 := by
    refine Classical.byContradiction fun c => ?_
    have := (lo_mono (m := 2700000) (n := aF v) (by omega) (by omega) f.hi).2
    have := f.le
    omega
  have hd := f.gt.resolve_left (by omega)
  exact ⟨vl, a0, a1, acute_low X Y v (aF v) y0 yx x1 v0 h1 a0 a1 f.le, acute_high X Y v (aF v) y0 yx x1 v0 h2 a0 a1 hd⟩
end Go.Proofs.YtndcjldnnfhedaaDoor.L6

/- Arctrig: the angle of a point of the first quarter, rounded down: there is one; points mirrored at the middle. No run of the model here. -/
namespace Go.Proofs.YtndcjldnnfhedaaDoor.L6
set_option linter.unusedVariables false
set_option maxRecDepth 100000

theorem sd_zero (X Y : Int) : sd 0 X Y = (-Y).sign := by
  unfold sd
  rw [if_pos (by decide), show tb (mT 0 / 2700000) = 0 by decide, show tb ((mT 0 / 2700000 + 2) % 8) = 1 by decide]
  congr 1; omega
theorem sd_mid (X Y : Int) : sd 2700000 X Y = (X - Y).sign := by
  unfold sd
  rw [if_pos (by decide), show tb (mT 2700000 / 2700000) = 1 by decide, show tb ((mT 2700000 / 2700000 + 2) % 8) = 1 by decide]
  congr 1; omega
theorem sd_quarter (X Y : Int) : sd 5400000 X Y = X.sign := by
  unfold sd
  rw [if_pos (by decide), show tb (mT 5400000 / 2700000) = 1 by decide, show tb ((mT 5400000 / 2700000 + 2) % 8) = 0 by decide]
  congr 1; omega
theorem sd_other {n X Y : Int} (h0 : 0 ≤ n) (h1 : n ≤ 5400000) (hn : n % 2700000 ≠ 0) (h : ¬(X = 0 ∧ Y = 0)) : sd n X Y = if 0 < tS n X Y then 1 else -1 := by
  have em : mT n = n := by unfold mT; omega
  unfold sd
  rw [if_neg (by rw [em]; exact hn), if_neg h]
theorem sd_one {n X Y : Int} (h0 : 0 ≤ n) (h1 : n ≤ 5400000) (hn : n % 2700000 ≠ 0) (h : ¬(X = 0 ∧ Y = 0)) : sd n X Y = 1 ∨ sd n X Y = -1 := by
  rw [sd_other h0 h1 hn h]; split
  · exact .inl rfl
  · exact .inr rfl
/-- there is one -/
theorem some_g (X Y : Int) (x0 : 0 < X) (y0 : 0 ≤ Y) : ∃ n, IsG n X Y := by
  have key : ∀ N : Nat, N ≤ 5400000 → sd (5400000 - N) X Y ≤ 0 → ∃ n, IsG n X Y := by
    intro N
    induction N with
    | zero =>
      intro _ h
      rw [show (5400000 : Int) - ((0 : Nat) : Int) = 5400000 by omega, sd_quarter, Int.sign_eq_one_of_pos x0] at h
      omega
    | succ N ih =>
      intro hN h
      by_cases c : sd (5400000 - (N : Int)) X Y ≤ 0
      · exact ih (by omega) c
      · refine ⟨5400000 - ((N + 1 : Nat) : Int), by omega, by omega, h, ?_⟩
        rw [show 5400000 - ((N + 1 : Nat) : Int) + 1 = 5400000 - (N : Int) by omega]
        omega
  refine key 5400000 (Nat.le_refl _) ?_
  rw [show (5400000 : Int) - ((5400000 : Nat) : Int) = 0 by omega, sd_zero]
  rcases (show Y = 0 ∨ 0 < Y by omega) with c | c
  · rw [c]; decide
  · rw [Int.sign_eq_neg_one_of_neg (by omega)]; decide
open Classical in
noncomputable def gN (X Y : Int) : Int := if h : ∃ n, IsG n X Y then h.choose else 0
theorem gN_is (X Y : Int) (x0 : 0 < X) (y0 : 0 ≤ Y) : IsG (gN X Y) X Y := by
  have e := some_g X Y x0 y0
  unfold gN
  rw [dif_pos e]
  exact e.choose_spec
theorem gN_eq {n X Y : Int} (x0 : 0 < X) (x1 : X ≤ 2147483648) (y0 : 0 ≤ Y) (y1 : Y ≤ 2147483648) (h : IsG n X Y) : gN X Y = n := (gN_is X Y x0 y0).uniq x0 x1 y0 y1 h
/-- rounded up -/
noncomputable def gU (X Y : Int) : Int := if sd (gN X Y) X Y = 0 then gN X Y else gN X Y + 1
theorem g_axis (X : Int) (x0 : 0 < X) (x1 : X ≤ 2147483648) : gN X 0 = 0 ∧ gU X 0 = 0 := by
  have z : sd 0 X 0 = 0 := by rw [sd_zero]; decide
  have m := sd_mono 0 1 X 0 (by omega) (by omega) (by omega) x0 x1 (by omega) (by omega)
  have o := sd_one (n := 1) (X := X) (Y := 0) (by omega) (by omega) (by omega) (by omega)
  have g : gN X 0 = 0 := gN_eq x0 x1 (by omega) (by omega) ⟨by omega, by omega, by omega, by show 0 < sd 1 X 0; omega⟩
  refine ⟨g, ?_⟩
  unfold gU
  rw [g, if_pos z]
theorem g_mid (X : Int) (x0 : 0 < X) (x1 : X ≤ 2147483648) : gN X X = 2700000 ∧ gU X X = 2700000 := by
  have z : sd 2700000 X X = 0 := by rw [sd_mid, Int.sub_self]; decide
  have m := sd_mono 2700000 2700001 X X (by omega) (by omega) (by omega) x0 x1 (by omega) (by omega)
  have o := sd_one (n := 2700001) (X := X) (Y := X) (by omega) (by omega) (by omega) (by omega)
  have g : gN X X = 2700000 := gN_eq x0 x1 (by omega) (by omega) ⟨by omega, by omega, by omega, by show 0 < sd 2700001 X X; omega⟩
  refine ⟨g, ?_⟩
  unfold gU
  rw [g, if_pos z]
/-- between the axis and the middle no side is nothing -/
theorem sd_low {n X Y : Int} (h0 : 0 ≤ n) (h1 : n ≤ 5400000) (y0 : 0 < Y) (yx : Y < X) : sd n X Y = 1 ∨ sd n X Y = -1 := by
  by_cases c : n % 2700000 = 0
  · rcases (show n = 0 ∨ n = 2700000 ∨ n = 5400000 by omega) with h | h | h <;> subst h
    · rw [sd_zero, Int.sign_eq_neg_one_of_neg (by omega)]; exact .inr rfl
    · rw [sd_mid, Int.sign_eq_one_of_pos (by omega)]; exact .inl rfl
    · rw [sd_quarter, Int.sign_eq_one_of_pos (by omega)]; exact .inl rfl
  · exact sd_one h0 h1 c (by omega)
theorem SN_mirror (n : Int) (h0 : 0 < n) (h1 : n < 5400000) (h : n ≠ 2700000) : SN (5400000 - n) = SN (n + 5400000) ∧ SN (5400000 - n + 5400000) = SN n := by
  have em : mT n = n := by unfold mT; omega
  have em' : mT (5400000 - n) = 5400000 - n := by unfold mT; omega
  obtain ⟨d1, d2, d3, d4, d5⟩ := rd_in n
  obtain ⟨c1, c2, c3, c4, c5⟩ := rd_in (5400000 - n)
  have q0 : qd n = 0 := by omega
  have p0 : qd (5400000 - n) = 0 := by omega
  obtain ⟨q1, q2, q3, q4⟩ := quarter_on n
  obtain ⟨p1, p2, p3, p4⟩ := quarter_on (5400000 - n)
  have hf : far n = decide (2700000 < rd n) := rfl
  have hf' : far (5400000 - n) = decide (2700000 < rd (5400000 - n)) := rfl
  have er := rr_int n
  have er' := rr_int (5400000 - n)
  have R : rr (5400000 - n) = rr n := by
    rw [hf] at er
    rw [hf'] at er'
    by_cases c : 2700000 < rd n
    · rw [if_pos (by simpa using c)] at er
      rw [if_neg (by simp; omega)] at er'
      omega
    · rw [if_neg (by simpa using c)] at er
      rw [if_pos (by simp; omega)] at er'
      omega
  have F : far (5400000 - n) = !far n := by
    rw [hf, hf']
    by_cases c : 2700000 < rd n
    · rw [decide_eq_true c, decide_eq_false (by omega)]; rfl
    · rw [decide_eq_false c, decide_eq_true (by omega)]; rfl
  unfold SN sgn bs co
  rw [p4, q4, p2, q2, p1, q1, R, F, q0, p0]
  cases far n <;> exact ⟨rfl, rfl⟩
/-- mirrored at the middle -/
theorem sd_mirror {n X Y : Int} (h0 : 0 ≤ n) (h1 : n ≤ 5400000) (hX : X.natAbs ≤ 2147483648) (hY : Y.natAbs ≤ 2147483648) (h : ¬(X = 0 ∧ Y = 0)) : sd (5400000 - n) X Y = -sd n Y X := by
  by_cases c : n % 2700000 = 0
  · rcases (show n = 0 ∨ n = 2700000 ∨ n = 5400000 by omega) with e | e | e <;> subst e
    · rw [show (5400000 : Int) - 0 = 5400000 by omega, sd_quarter, sd_zero, Int.sign_neg, Int.neg_neg]
    · rw [show (5400000 : Int) - 2700000 = 2700000 by omega, sd_mid, sd_mid, ← Int.sign_neg, Int.neg_sub]
    · rw [show (5400000 : Int) - 5400000 = 0 by omega, sd_quarter, sd_zero, Int.sign_neg]
  · rw [sd_other (by omega) (by omega) (by omega) h, sd_other h0 h1 c (fun k => h ⟨k.2, k.1⟩)]
    obtain ⟨s1, s2⟩ := SN_mirror n (by omega) (by omega) (by omega)
    have e : tS (5400000 - n) X Y = -tS n Y X := by
      unfold tS
      rw [s1, s2]
      generalize SN n = a
      generalize SN (n + 5400000) = b
      grind
    have m := rays_all n (by unfold mT; omega) Y X (fun k => h ⟨k.2, k.1⟩) hY hX
    change _ ≤ tS n Y X ∨ tS n Y X ≤ _ at m
    have gp : (0 : Rat) < 1 / ((2 ^ 56 : Nat) : Rat) := by decide +kernel
    rw [e]
    generalize tS n Y X = t at *
    rcases m with m | m
    · rw [if_neg (by grind), if_pos (by grind)]
    · rw [if_pos (by grind), if_neg (by grind)]; rfl
/-- beyond the middle -/
theorem g_mirror {X Y : Int} (x0 : 0 < X) (xy : X < Y) (y1 : Y ≤ 2147483648) : gN X Y = 5400000 - 1 - gN Y X ∧ gU Y X = gN Y X + 1 ∧ gU X Y = gN X Y + 1 := by
  obtain ⟨a, b, c, d⟩ := gN_is Y X (by omega) (by omega)
  have l := sd_low (n := gN Y X) a (by omega) x0 xy
  have l' := sd_low (n := gN Y X + 1) (by omega) (by omega) x0 xy
  have m1 := sd_mirror (n := gN Y X) (X := X) (Y := Y) a (by omega) (by omega) (by omega) (by omega)
  have m2 := sd_mirror (n := gN Y X + 1) (X := X) (Y := Y) (by omega) (by omega) (by omega) (by omega) (by omega)
  have g : gN X Y = 5400000 - 1 - gN Y X := gN_eq x0 (by omega) (by omega) y1 ⟨by omega, by omega, by rw [show 5400000 - 1 - gN Y X = 5400000 - (gN Y X + 1) by omega]; omega, by rw [show 5400000 - 1 - gN Y X + 1 = 5400000 - gN Y X by omega]; omega⟩
  refine ⟨g, ?_, ?_⟩
  · unfold gU; rw [if_neg (by omega)]
  · unfold gU
    rw [if_neg]
    rw [g, show 5400000 - 1 - gN Y X = 5400000 - (gN Y X + 1) by omega]
    omega
/-- below it: by the program's way -/
theorem g_acute {X Y v : Int} (y0 : 0 < Y) (yx : Y < X) (x1 : X ≤ 2147483648) (v0 : 0 ≤ v) (h1 : v * v * (X * X + Y * Y) ≤ Y * Y * 1152921504606846976) (h2 : Y * Y * 1152921504606846976 < (v + 1) * (v + 1) * (X * X + Y * Y)) :
    gU X Y = gN X Y + 1 ∧ 0 ≤ aLo v ∧ aLo v ≤ 2699999 ∧ v ≤ 759250124 ∧ (0 < sd (aLo v + 1) X Y → gN X Y = aLo v) ∧ (sd (aLo v + 1) X Y < 0 → gN X Y = aLo v + 1) ∧ (sd (aLo v + 1) X Y = 1 ∨ sd (aLo v + 1) X Y = -1) := by
  obtain ⟨a1, a2, a3, a4, a5⟩ := acute_is X Y v y0 yx x1 v0 h1 h2
  refine ⟨?_, a2, a3, a1, ?_, ?_, sd_low (by omega) (by omega) y0 yx⟩
  · obtain ⟨b1, b2, b3, b4⟩ := gN_is X Y (by omega) (by omega)
    have l := sd_low (n := gN X Y) b1 (by omega) y0 yx
    unfold gU
    rw [if_neg (by omega)]
  · intro h
    exact gN_eq (by omega) x1 (by omega) (by omega) ⟨by omega, by omega, a4, h⟩
  · intro h
    exact gN_eq (by omega) x1 (by omega) (by omega) ⟨by omega, by omega, by omega, by rw [show aLo v + 1 + 1 = aLo v + 2 by omega]; exact a5⟩
/-- what the program's comparison says -/
theorem side_prog (n X Y : Nat) (h1 : 1 ≤ n) (h2 : n < 5400000) (y0 : 0 < Y) (yx : Y < X) (x1 : X ≤ 2147483648) :
    (sd n X Y = 1 ∧ irF (5400000 - n) * Y < irF n * X) ∨ (sd n X Y = -1 ∧ irF n * X < irF (5400000 - n) * Y) := by
  by_cases c : n = 2700000
  · subst c
    left
    refine ⟨?_, ?_⟩
    · show sd 2700000 X Y = 1
      rw [sd_mid, Int.sign_eq_one_of_pos (by omega)]
    · exact Nat.mul_lt_mul_of_pos_left yx irF_mid
  · have e := sd_other (n := n) (X := X) (Y := Y) (by omega) (by omega) (by omega) (by omega)
    rcases side_fine n h1 h2 c X Y (by omega) x1 (by omega) with ⟨a, b⟩ | ⟨a, b⟩
    · left; rw [e, if_pos b]; exact ⟨rfl, a⟩
    · right; rw [e, if_neg (by grind)]; exact ⟨rfl, a⟩
end Go.Proofs.YtndcjldnnfhedaaDoor.L6
