/- Arctrig: the arc of a box, from a half plane that has its corners. -/
import Derived.Test.YtebhflmmdfbjkaaDoorArd
import Derived.Test.YtebhflmmdfbjkaaDoorTg37
namespace Go.Proofs.YtebhflmmdfbjkaaDoor
open Go.RowKit
set_option linter.unusedVariables false
set_option maxRecDepth 100000

/-- a slope is not greater than another one -/
def Sle (a b : Int × Int) : Prop := a.2 * b.1 ≤ b.2 * a.1
theorem Sle.refl (a : Int × Int) : Sle a a := Int.le_refl _
theorem Sle.trans {a b c : Int × Int} (ha : 0 < a.1) (hb : 0 < b.1) (hc : 0 < c.1) (h : Sle a b) (k : Sle b c) : Sle a c := by
  unfold Sle at *
  have m1 := Int.mul_le_mul_of_nonneg_right h (Int.le_of_lt hc)
  have m2 := Int.mul_le_mul_of_nonneg_right k (Int.le_of_lt ha)
  have e1 : a.2 * b.1 * c.1 = a.2 * c.1 * b.1 := by rw [Int.mul_assoc, Int.mul_comm b.1, ← Int.mul_assoc]
  have e2 : b.2 * a.1 * c.1 = b.2 * c.1 * a.1 := by rw [Int.mul_assoc, Int.mul_comm a.1, ← Int.mul_assoc]
  have e3 : c.2 * b.1 * a.1 = c.2 * a.1 * b.1 := by rw [Int.mul_assoc, Int.mul_comm b.1, ← Int.mul_assoc]
  have : a.2 * c.1 * b.1 ≤ c.2 * a.1 * b.1 := by omega
  exact Int.le_of_mul_le_mul_right this hb
theorem bf_not {a b : Int × Int} (h : bf b a = false) : Sle a b := by
  unfold bf at h
  rw [decide_eq_false_iff_not] at h
  unfold Sle
  have : b.1 * a.2 = a.2 * b.1 := Int.mul_comm _ _
  omega
theorem bf_yes {a b : Int × Int} (h : bf a b = true) : Sle a b := by
  unfold bf at h
  rw [decide_eq_true_eq] at h
  unfold Sle
  have : a.1 * b.2 = b.2 * a.1 := Int.mul_comm _ _
  omega
theorem bf_rot (a b : Int × Int) (k : Nat) : bf (rot a k) (rot b k) = bf a b := by
  unfold bf
  have key : ((rot a k).2 * (rot b k).1 < (rot a k).1 * (rot b k).2) ↔ (a.2 * b.1 < a.1 * b.2) := by
    match k with
    | 0 => exact Iff.rfl
    | 1 =>
      show (-a.1 * b.2 < a.2 * -b.1) ↔ _
      rw [Int.neg_mul, Int.mul_neg]; omega
    | 2 =>
      show (-a.2 * -b.1 < -a.1 * -b.2) ↔ _
      rw [Int.neg_mul_neg, Int.neg_mul_neg]
    | k + 3 =>
      show (a.1 * -b.2 < -a.2 * b.1) ↔ _
      rw [Int.neg_mul, Int.mul_neg]; omega
  by_cases c : a.2 * b.1 < a.1 * b.2
  · rw [decide_eq_true c, decide_eq_true (key.2 c)]
  · rw [decide_eq_false c, decide_eq_false (fun h => c (key.1 h))]
/-- the first corner has the least slope, the last one the greatest -/
theorem ext_min (p : Nat → Int × Int) (k : Nat) (h : ∀ i, 0 < (rot (p i) k).1) (j : Nat) : (∀ i, i ≤ j → Sle (rot (exF p j) k) (rot (p i) k)) ∧ (∀ i, i ≤ j → Sle (rot (p i) k) (rot (exL p j) k)) := by
  have pos : ∀ j, 0 < (rot (exF p j) k).1 ∧ 0 < (rot (exL p j) k).1 := by
    intro j
    obtain ⟨⟨i, -, i2⟩, l, -, l2⟩ := ex_mem p j
    rw [i2, l2]; exact ⟨h i, h l⟩
  induction j with
  | zero =>
    refine ⟨fun i hi => ?_, fun i hi => ?_⟩ <;> (obtain rfl : i = 0 := by omega) <;> exact Sle.refl _
  | succ j ih =>
    obtain ⟨f, l⟩ := ih
    constructor
    · rw [show exF p (j + 1) = if bf (p (j + 1)) (exF p j) = true then p (j + 1) else exF p j from rfl]
      rcases Bool.eq_false_or_eq_true (bf (p (j + 1)) (exF p j)) with c | c
      · rw [if_pos c]
        rw [← bf_rot _ _ k] at c
        have s := bf_yes c
        intro i hi
        rcases (show i ≤ j ∨ i = j + 1 by omega) with e | e
        · exact s.trans (h _) (pos j).1 (h _) (f i e)
        · subst e; exact Sle.refl _
      · rw [if_neg (by rw [c]; exact Bool.false_ne_true)]
        rw [← bf_rot _ _ k] at c
        have s := bf_not c
        intro i hi
        rcases (show i ≤ j ∨ i = j + 1 by omega) with e | e
        · exact f i e
        · subst e; exact s
    · rw [show exL p (j + 1) = if bf (exL p j) (p (j + 1)) = true then p (j + 1) else exL p j from rfl]
      rcases Bool.eq_false_or_eq_true (bf (exL p j) (p (j + 1))) with c | c
      · rw [if_pos c]
        rw [← bf_rot _ _ k] at c
        have s := bf_yes c
        intro i hi
        rcases (show i ≤ j ∨ i = j + 1 by omega) with e | e
        · exact (l i e).trans (h _) (pos j).2 (h _) s
        · subst e; exact Sle.refl _
      · rw [if_neg (by rw [c]; exact Bool.false_ne_true)]
        rw [← bf_rot _ _ k] at c
        have s := bf_not c
        intro i hi
        rcases (show i ≤ j ∨ i = j + 1 by omega) with e | e
        · exact l i e
        · subst e; exact s
theorem cnr_far (a b c d : Int) (i : Nat) : ∃ j, j ≤ 3 ∧ cnr a b c d i = cnr a b c d j := by
  match i with
  | 0 => exact ⟨0, by omega, rfl⟩
  | 1 => exact ⟨1, by omega, rfl⟩
  | 2 => exact ⟨2, by omega, rfl⟩
  | i + 3 => exact ⟨3, by omega, rfl⟩
/-- a box without the origin lies in a half plane -/
theorem half_ex {a b c d : Int} (h : fok a b = true) (k : fok c d = true) (z : (zI a b && zI c d) = false) : ∃ q, q ≤ 3 ∧ ∀ i, 0 < (rot (cnr a b c d i) q).1 := by
  obtain ⟨h1, h2, h3⟩ := (fok_iff _ _).1 h
  obtain ⟨k1, k2, k3⟩ := (fok_iff _ _).1 k
  have key : ¬ ((a ≤ 0 ∧ 0 ≤ b) ∧ c ≤ 0 ∧ 0 ≤ d) := by
    intro q
    unfold zI at z
    rw [decide_eq_true q.1, decide_eq_true q.2] at z
    exact absurd z (by decide)
  have all : ∀ q : Nat, 0 < (rot (c, a) q).1 → 0 < (rot (c, b) q).1 → 0 < (rot (d, a) q).1 → 0 < (rot (d, b) q).1 → ∀ i, 0 < (rot (cnr a b c d i) q).1 := by
    intro q g0 g1 g2 g3 i
    match i with
    | 0 => exact g0
    | 1 => exact g1
    | 2 => exact g2
    | i + 3 => exact g3
  rcases (show 0 < c ∨ d < 0 ∨ 0 < a ∨ b < 0 by omega) with e | e | e | e
  · exact ⟨0, by omega, all 0 (show 0 < c by omega) (show 0 < c by omega) (show 0 < d by omega) (show 0 < d by omega)⟩
  · exact ⟨2, by omega, all 2 (show 0 < -c by omega) (show 0 < -c by omega) (show 0 < -d by omega) (show 0 < -d by omega)⟩
  · exact ⟨1, by omega, all 1 (show 0 < a by omega) (show 0 < b by omega) (show 0 < a by omega) (show 0 < b by omega)⟩
  · exact ⟨3, by omega, all 3 (show 0 < -a by omega) (show 0 < -b by omega) (show 0 < -a by omega) (show 0 < -b by omega)⟩
/-- the angle of a point of a half plane -/
theorem an_form (p : Int × Int) (i : In31 p) (q : Nat) (hq : q ≤ 3) (x0 : 0 < (rot p q).1) :
    anD p = 5400000 * (q : Int) + L6.hD (rot p q).1 (rot p q).2 + (if q = 0 ∧ (rot p q).2 < 0 then 21600000 else 0) ∧ anU p = 5400000 * (q : Int) + L6.hU' (rot p q).1 (rot p q).2 + (if q = 0 ∧ (rot p q).2 < 0 then 21600000 else 0) := by
  obtain ⟨x, y⟩ := p
  obtain ⟨i1, i2, i3, i4⟩ := i
  change -2147483648 ≤ x at i1
  change x ≤ 2147483648 at i2
  change -2147483648 ≤ y at i3
  change y ≤ 2147483648 at i4
  obtain ⟨X, hX⟩ : ∃ X, X = (rot (x, y) q).1 := ⟨_, rfl⟩
  obtain ⟨Y, hY⟩ : ∃ Y, Y = (rot (x, y) q).2 := ⟨_, rfl⟩
  rw [← hX, ← hY]
  rw [← hX] at x0
  have up : 0 ≤ Y → rk (x, y) = q → anD (x, y) = 5400000 * (q : Int) + L6.hD X Y + (if q = 0 ∧ Y < 0 then 21600000 else 0) ∧ anU (x, y) = 5400000 * (q : Int) + L6.hU' X Y + (if q = 0 ∧ Y < 0 then 21600000 else 0) := by
    intro c r
    obtain ⟨e1, e2, -⟩ := L6.h_up x0 c
    rw [if_neg (show ¬ (q = 0 ∧ Y < 0) by omega), e1, e2]
    unfold anD anU
    rw [r, ← hX, ← hY]
    omega
  have dn : Y < 0 → X ≤ 2147483648 → -2147483648 ≤ Y → ∀ r : Nat, rk (x, y) = r → rot (x, y) r = (-Y, X) → (r : Int) = (if q = 0 then 3 else (q : Int) - 1) → anD (x, y) = 5400000 * (q : Int) + L6.hD X Y + (if q = 0 ∧ Y < 0 then 21600000 else 0) ∧ anU (x, y) = 5400000 * (q : Int) + L6.hU' X Y + (if q = 0 ∧ Y < 0 then 21600000 else 0) := by
    intro c xl yl r e1 e2 e3
    obtain ⟨s1, s2⟩ := L6.g_swap x0 xl (show 0 < -Y by omega) (by omega)
    have d1 : L6.hD X Y = -L6.gU X (-Y) := by unfold L6.hD; rw [if_neg (show ¬ 0 ≤ Y by omega)]
    have d2 : L6.hU' X Y = -L6.gN X (-Y) := by unfold L6.hU'; rw [if_neg (show ¬ 0 ≤ Y by omega)]
    rw [d1, d2]
    unfold anD anU
    rw [e1, e2, e3]
    show _ + L6.gN (-Y) X = _ ∧ _ + L6.gU (-Y) X = _
    rw [s1, s2]
    by_cases z : q = 0
    · rw [if_pos z, if_pos (show q = 0 ∧ Y < 0 from ⟨z, c⟩)]; omega
    · rw [if_neg z, if_neg (show ¬ (q = 0 ∧ Y < 0) from fun k => z k.1)]; omega
  match q, hq with
  | 0, _ =>
    change X = x at hX
    change Y = y at hY
    by_cases c : 0 ≤ Y
    · exact up c (by unfold rk; rw [if_pos (show 0 < x ∧ 0 ≤ y by omega)])
    · exact dn (by omega) (by omega) (by omega) 3 (by unfold rk; rw [if_neg (show ¬ (0 < x ∧ 0 ≤ y) by omega), if_neg (show ¬ 0 < y by omega), if_neg (show ¬ x < 0 by omega)]) (by rw [hX, hY]; rfl) rfl
  | 1, _ =>
    change X = y at hX
    change Y = -x at hY
    by_cases c : 0 ≤ Y
    · exact up c (by unfold rk; rw [if_neg (show ¬ (0 < x ∧ 0 ≤ y) by omega), if_pos (show 0 < y by omega)])
    · exact dn (by omega) (by omega) (by omega) 0 (by unfold rk; rw [if_pos (show 0 < x ∧ 0 ≤ y by omega)]) (by rw [hX, hY, Int.neg_neg]; rfl) rfl
  | 2, _ =>
    change X = -x at hX
    change Y = -y at hY
    by_cases c : 0 ≤ Y
    · exact up c (by unfold rk; rw [if_neg (show ¬ (0 < x ∧ 0 ≤ y) by omega), if_neg (show ¬ 0 < y by omega), if_pos (show x < 0 by omega)])
    · exact dn (by omega) (by omega) (by omega) 1 (by unfold rk; rw [if_neg (show ¬ (0 < x ∧ 0 ≤ y) by omega), if_pos (show 0 < y by omega)]) (by rw [hX, hY, Int.neg_neg]; rfl) rfl
  | 3, _ =>
    change X = -y at hX
    change Y = x at hY
    by_cases c : 0 ≤ Y
    · exact up c (by unfold rk; rw [if_neg (show ¬ (0 < x ∧ 0 ≤ y) by omega), if_neg (show ¬ 0 < y by omega), if_neg (show ¬ x < 0 by omega)])
    · exact dn (by omega) (by omega) (by omega) 2 (by unfold rk; rw [if_neg (show ¬ (0 < x ∧ 0 ≤ y) by omega), if_neg (show ¬ 0 < y by omega), if_pos (show x < 0 by omega)]) (by rw [hX, hY]; rfl) rfl
structure Pt (p : Int × Int) : Prop where
  x0 : 0 < p.1
  x1 : p.1 ≤ 2147483648
  y1 : p.2.natAbs ≤ 2147483648
theorem Pt.of {p : Int × Int} (i : In31 p) (h : 0 < p.1) : Pt p := ⟨h, i.2.1, by have := i.2.2; omega⟩
theorem Pt.le {p r : Int × Int} (a : Pt p) (b : Pt r) (h : Sle p r) : L6.hD p.1 p.2 ≤ L6.hD r.1 r.2 ∧ L6.hU' p.1 p.2 ≤ L6.hU' r.1 r.2 := L6.h_slope a.x0 a.x1 a.y1 b.x0 b.x1 b.y1 h
/-- the arc of a box, from a half plane -/
structure Form (a b c d : Int) (q : Nat) (F L : Int × Int) : Prop where
  ptF : Pt F
  ptL : Pt L
  isF : ∃ i, F = rot (cnr a b c d i) q
  isL : ∃ i, L = rot (cnr a b c d i) q
  minF : ∀ i, Sle F (rot (cnr a b c d i) q)
  maxL : ∀ i, Sle (rot (cnr a b c d i) q) L
  pts : ∀ i, Pt (rot (cnr a b c d i) q)
  lo : beL a b c d = (5400000 * (q : Int) + L6.hD F.1 F.2) % 21600000
  hi : beH a b c d = beL a b c d + (L6.hU' L.1 L.2 - L6.hD F.1 F.2)
  wd : 0 ≤ L6.hU' L.1 L.2 - L6.hD F.1 F.2 ∧ L6.hU' L.1 L.2 - L6.hD F.1 F.2 ≤ 10800000
  er : beE a b c d = 0
theorem be_form {a b c d : Int} (h : fok a b = true) (k : fok c d = true) (z : (zI a b && zI c d) = false) (q : Nat) (hq : q ≤ 3) (hx : ∀ i, 0 < (rot (cnr a b c d i) q).1) : ∃ F L, Form a b c d q F L := by
  have pts : ∀ i, Pt (rot (cnr a b c d i) q) := fun i => Pt.of (rot_in (cnr_in h k i) q) (hx i)
  obtain ⟨⟨i, i1, i2⟩, j, j1, j2⟩ := ex_mem (cnr a b c d) 3
  obtain ⟨m, n⟩ := ext_min (cnr a b c d) q hx 3
  obtain ⟨o1, o2⟩ := fl7_off h k z
  obtain ⟨n1, n2⟩ := fl7_in h k
  have hv : (fok a b && fok c d) = true := by rw [h, k]; rfl
  have zn : ¬ (zI a b && zI c d) = true := by rw [z]; exact Bool.false_ne_true
  have xF : 0 < (rot (fC a b c d) q).1 := by unfold fC; rw [i2]; exact hx i
  have xL : 0 < (rot (lC a b c d) q).1 := by unfold lC; rw [j2]; exact hx j
  obtain ⟨f1, f2⟩ := an_form (fC a b c d) n1 q hq xF
  obtain ⟨l1, l2⟩ := an_form (lC a b c d) n2 q hq xL
  have u := an_in o1
  have v := an_in o2
  have pF := Pt.of (rot_in n1 q) xF
  have pL := Pt.of (rot_in n2 q) xL
  have minF : ∀ i, Sle (rot (fC a b c d) q) (rot (cnr a b c d i) q) := by
    intro i
    obtain ⟨e, e1, e2⟩ := cnr_far a b c d i
    rw [e2]; exact m e e1
  have maxL : ∀ i, Sle (rot (cnr a b c d i) q) (rot (lC a b c d) q) := by
    intro i
    obtain ⟨e, e1, e2⟩ := cnr_far a b c d i
    rw [e2]; exact n e e1
  have fl : Sle (rot (fC a b c d) q) (rot (lC a b c d) q) := by
    have := minF j
    rwa [← j2] at this
  have g := pF.le pL fl
  have iF := L6.h_in pF.x0 pF.y1
  have iL := L6.h_in pL.x0 pL.y1
  have eL : beL a b c d = anD (fC a b c d) := by unfold beL; rw [if_pos hv, if_neg zn]
  have eH : beH a b c d = if anU (lC a b c d) < anD (fC a b c d) then anU (lC a b c d) + 21600000 else anU (lC a b c d) := by unfold beH; rw [if_pos hv, if_neg zn]
  have eE : beE a b c d = 0 := by unfold beE; rw [if_pos hv]
  have sg : (rot (lC a b c d) q).2 < 0 → (rot (fC a b c d) q).2 < 0 := by
    intro c1
    refine Classical.byContradiction fun c2 => ?_
    have m1 := Int.mul_nonneg (show 0 ≤ (rot (fC a b c d) q).2 by omega) (Int.le_of_lt xL)
    have m2 := Int.mul_pos (show 0 < -(rot (lC a b c d) q).2 by omega) xF
    rw [Int.neg_mul] at m2
    unfold Sle at fl
    omega
  have lowF : (rot (fC a b c d) q).2 < 0 → L6.hD (rot (fC a b c d) q).1 (rot (fC a b c d) q).2 ≤ -1 := fun c => (L6.h_low pF.x0 pF.x1 c pF.y1).1
  have upL : ¬ (rot (lC a b c d) q).2 < 0 → 0 ≤ L6.hD (rot (lC a b c d) q).1 (rot (lC a b c d) q).2 := fun c => (L6.h_up pL.x0 (by omega)).2.2
  refine ⟨rot (fC a b c d) q, rot (lC a b c d) q, pF, pL, ⟨i, by rw [← i2]; rfl⟩, ⟨j, by rw [← j2]; rfl⟩, minF, maxL, pts, ?_, ?_, by omega, eE⟩
  · rw [eL]
    by_cases cc : q = 0 ∧ (rot (fC a b c d) q).2 < 0
    · rw [if_pos cc] at f1; omega
    · rw [if_neg cc] at f1; omega
  · rw [eH, eL]
    by_cases cc : q = 0 ∧ (rot (fC a b c d) q).2 < 0
    · rw [if_pos cc] at f1 f2
      by_cases ck : q = 0 ∧ (rot (lC a b c d) q).2 < 0
      · rw [if_pos ck] at l1 l2
        rw [if_neg (by omega)]; omega
      · rw [if_neg ck] at l1 l2
        have := lowF cc.2
        rw [if_pos (by omega)]; omega
    · rw [if_neg cc] at f1 f2
      have ck : ¬ (q = 0 ∧ (rot (lC a b c d) q).2 < 0) := fun x => cc ⟨x.1, sg x.2⟩
      rw [if_neg ck] at l1 l2
      rw [if_neg (by omega)]; omega
/-- corners that are the same, in any order, have the same arc -/
theorem Form.same {a b c d a' b' c' d' : Int} {q q' : Nat} {F L F' L' : Int × Int} (f : Form a b c d q F L) (f' : Form a' b' c' d' q' F' L') (h : ∀ i, ∃ j, rot (cnr a' b' c' d' i) q' = rot (cnr a b c d j) q) (h' : ∀ i, ∃ j, rot (cnr a b c d i) q = rot (cnr a' b' c' d' j) q') : L6.hD F'.1 F'.2 = L6.hD F.1 F.2 ∧ L6.hU' L'.1 L'.2 = L6.hU' L.1 L.2 := by
  obtain ⟨i, ei⟩ := f.isF
  obtain ⟨i', ei'⟩ := f'.isF
  obtain ⟨j, ej⟩ := f.isL
  obtain ⟨j', ej'⟩ := f'.isL
  obtain ⟨m, em⟩ := h i'
  obtain ⟨m', em'⟩ := h' i
  obtain ⟨n, en⟩ := h j'
  obtain ⟨n', en'⟩ := h' j
  have a1 := f.minF m
  rw [← em, ← ei'] at a1
  have a2 := f'.minF m'
  rw [← em', ← ei] at a2
  have b1 := f.maxL n
  rw [← en, ← ej'] at b1
  have b2 := f'.maxL n'
  rw [← en', ← ej] at b2
  have := f.ptF.le f'.ptF a1
  have := f'.ptF.le f.ptF a2
  have := f'.ptL.le f.ptL b1
  have := f.ptL.le f'.ptL b2
  omega
end Go.Proofs.YtebhflmmdfbjkaaDoor
