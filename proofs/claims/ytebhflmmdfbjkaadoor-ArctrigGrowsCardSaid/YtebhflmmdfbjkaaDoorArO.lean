/- Arctrig: what turning, mirroring, stretching a box does to its arc, and what a part of it has. -/
import Derived.Test.YtebhflmmdfbjkaaDoorArJ
namespace Go.Proofs.YtebhflmmdfbjkaaDoor
open Go.RowKit
set_option linter.unusedVariables false
set_option maxRecDepth 100000

theorem fok_neg {a b : Int} (h : fok a b = true) : fok (-b) (-a) = true := by
  obtain ⟨h1, h2, h3⟩ := (fok_iff _ _).1 h
  exact (fok_iff _ _).2 (by omega)
theorem zI_neg (a b : Int) : zI (-b) (-a) = zI a b := by
  unfold zI
  by_cases c : a ≤ 0 ∧ 0 ≤ b
  · rw [decide_eq_true c, decide_eq_true (show -b ≤ 0 ∧ 0 ≤ -a by omega)]
  · rw [decide_eq_false c, decide_eq_false (show ¬ (-b ≤ 0 ∧ 0 ≤ -a) by omega)]
theorem half_off {a b c d : Int} {q : Nat} (hq : q ≤ 3) (hx : ∀ i, 0 < (rot (cnr a b c d i) q).1) : (zI a b && zI c d) = false := by
  have x0 := hx 0
  have x3 := hx 3
  unfold zI
  have key : ¬ ((a ≤ 0 ∧ 0 ≤ b) ∧ c ≤ 0 ∧ 0 ≤ d) := by
    match q, hq with
    | 0, _ => change 0 < c at x0; omega
    | 1, _ => change 0 < a at x0; omega
    | 2, _ => change 0 < -d at x3; omega
    | 3, _ => change 0 < -b at x3; omega
  by_cases c1 : a ≤ 0 ∧ 0 ≤ b
  · rw [decide_eq_false (fun k => key ⟨c1, k⟩), Bool.and_false]
  · rw [decide_eq_false c1, Bool.false_and]
theorem be_zero {a b c d : Int} (h : fok a b = true) (k : fok c d = true) (z : (zI a b && zI c d) = true) : beL a b c d = 0 ∧ beH a b c d = 21600000 ∧ beE a b c d = 0 := by
  have hv : (fok a b && fok c d) = true := by rw [h, k]; rfl
  refine ⟨?_, ?_, ?_⟩
  · unfold beL; rw [if_pos hv, if_pos z]
  · unfold beH; rw [if_pos hv, if_pos z]
  · unfold beE; rw [if_pos hv]
/-- the corners of a box that is turned -/
def tq (q : Nat) : Nat := if q = 3 then 0 else q + 1
theorem rot_turn (x y : Int) (q : Nat) (hq : q ≤ 3) : rot (-y, x) (tq q) = rot (x, y) q := by
  match q, hq with
  | 0, _ => show (x, - -y) = (x, y); rw [Int.neg_neg]
  | 1, _ => show (- -y, -x) = (y, -x); rw [Int.neg_neg]
  | 2, _ => rfl
  | 3, _ => rfl
def sig (i : Nat) : Nat := if i = 0 then 1 else if i = 1 then 3 else if i = 2 then 0 else 2
def sig' (i : Nat) : Nat := if i = 0 then 2 else if i = 1 then 0 else if i = 2 then 3 else 1
theorem cnr_turn (a b c d : Int) (q : Nat) (hq : q ≤ 3) (i : Nat) : rot (cnr c d (-b) (-a) i) (tq q) = rot (cnr a b c d (sig i)) q := by
  match i with
  | 0 => exact rot_turn c b q hq
  | 1 => exact rot_turn d b q hq
  | 2 => exact rot_turn c a q hq
  | i + 3 =>
    rw [show sig (i + 3) = 2 by unfold sig; rw [if_neg (by omega), if_neg (by omega), if_neg (by omega)]]
    exact rot_turn d a q hq
theorem cnr_turn' (a b c d : Int) (q : Nat) (hq : q ≤ 3) (i : Nat) : rot (cnr a b c d i) q = rot (cnr c d (-b) (-a) (sig' i)) (tq q) := by
  match i with
  | 0 => exact (rot_turn c a q hq).symm
  | 1 => exact (rot_turn c b q hq).symm
  | 2 => exact (rot_turn d a q hq).symm
  | i + 3 =>
    rw [show sig' (i + 3) = 1 by unfold sig'; rw [if_neg (by omega), if_neg (by omega), if_neg (by omega)]]
    exact (rot_turn d b q hq).symm
/-- the arc of a box that is turned by a right angle -/
theorem turn_arc {a b c d : Int} (h : fok a b = true) (k : fok c d = true) : 0 ≤ beL a b c d ∧ beL a b c d < 21600000 ∧ beL a b c d ≤ beH a b c d ∧ beH a b c d ≤ 43200000 ∧ beE a b c d = 0 ∧
    beE c d (-b) (-a) = 0 ∧ beL c d (-b) (-a) = trL (beL a b c d + 5400000) (beH a b c d + 5400000) ∧ beH c d (-b) (-a) = trH (beL a b c d + 5400000) (beH a b c d + 5400000) := by
  have hn := fok_neg h
  rcases Bool.eq_false_or_eq_true (zI a b && zI c d) with z | z
  · obtain ⟨e1, e2, e3⟩ := be_zero h k z
    have z' : (zI c d && zI (-b) (-a)) = true := by rw [zI_neg, Bool.and_comm]; exact z
    obtain ⟨f1, f2, f3⟩ := be_zero k hn z'
    rw [e1, e2, e3, f1, f2, f3]
    unfold trL trH
    rw [if_pos (by omega), if_pos (by omega)]
    omega
  · obtain ⟨q, hq, hx⟩ := half_ex h k z
    obtain ⟨F, L, f⟩ := be_form h k z q hq hx
    have hx' : ∀ i, 0 < (rot (cnr c d (-b) (-a) i) (tq q)).1 := fun i => by rw [cnr_turn a b c d q hq i]; exact hx _
    have hq' : tq q ≤ 3 := by unfold tq; split <;> omega
    obtain ⟨F', L', f'⟩ := be_form k hn (half_off hq' hx') (tq q) hq' hx'
    obtain ⟨s1, s2⟩ := f.same f' (fun i => ⟨sig i, cnr_turn a b c d q hq i⟩) (fun i => ⟨sig' i, cnr_turn' a b c d q hq i⟩)
    have lo := f.lo
    have hi := f.hi
    have lo' := f'.lo
    have hi' := f'.hi
    have wd := f.wd
    rw [s1] at lo' hi'
    rw [s2] at hi'
    generalize L6.hD F.1 F.2 = x at *
    generalize L6.hU' L.1 L.2 = y at *
    have e : 5400000 * ((tq q : Nat) : Int) % 21600000 = (5400000 * (q : Int) + 5400000) % 21600000 := by
      unfold tq
      split
      · rename_i c; subst c; rfl
      · omega
    generalize 5400000 * ((tq q : Nat) : Int) = u at *
    refine ⟨by omega, by omega, by omega, by omega, f.er, f'.er, ?_, ?_⟩
    · unfold trL; rw [if_neg (by omega)]; omega
    · unfold trH; rw [if_neg (by omega)]; omega
/-- the arc of a box that is mirrored -/
def mq (q : Nat) : Nat := if q = 0 then 0 else 4 - q
theorem rot_mirror (x y : Int) (q : Nat) (hq : q ≤ 3) : rot (x, -y) (mq q) = ((rot (x, y) q).1, -(rot (x, y) q).2) := by
  match q, hq with
  | 0, _ => rfl
  | 1, _ => show (- -y, x) = (y, - -x); rw [Int.neg_neg, Int.neg_neg]
  | 2, _ => rfl
  | 3, _ => rfl
def tau (i : Nat) : Nat := if i = 0 then 1 else if i = 1 then 0 else if i = 2 then 3 else 2
theorem cnr_mirror (a b c d : Int) (q : Nat) (hq : q ≤ 3) (i : Nat) : rot (cnr (-b) (-a) c d i) (mq q) = ((rot (cnr a b c d (tau i)) q).1, -(rot (cnr a b c d (tau i)) q).2) := by
  match i with
  | 0 => exact rot_mirror c b q hq
  | 1 => exact rot_mirror c a q hq
  | 2 => exact rot_mirror d b q hq
  | i + 3 =>
    rw [show tau (i + 3) = 2 by unfold tau; rw [if_neg (by omega), if_neg (by omega), if_neg (by omega)]]
    exact rot_mirror d a q hq
theorem tau_back (a b c d : Int) (i : Nat) : cnr a b c d i = cnr a b c d (tau (tau i)) := by
  match i with
  | 0 => rfl
  | 1 => rfl
  | 2 => rfl
  | i + 3 =>
    rw [show tau (i + 3) = 2 by unfold tau; rw [if_neg (by omega), if_neg (by omega), if_neg (by omega)]]
    rfl
theorem Sle.mirror {a b : Int × Int} (h : Sle (a.1, -a.2) (b.1, -b.2)) : Sle b a := by
  unfold Sle at *
  change -a.2 * b.1 ≤ -b.2 * a.1 at h
  rw [Int.neg_mul, Int.neg_mul] at h
  omega
theorem mirror_arc {a b c d : Int} (h : fok a b = true) (k : fok c d = true) : beE (-b) (-a) c d = 0 ∧ beL (-b) (-a) c d = trL (-beH a b c d) (-beL a b c d) ∧ beH (-b) (-a) c d = trH (-beH a b c d) (-beL a b c d) := by
  have hn := fok_neg h
  rcases Bool.eq_false_or_eq_true (zI a b && zI c d) with z | z
  · obtain ⟨e1, e2, e3⟩ := be_zero h k z
    have z' : (zI (-b) (-a) && zI c d) = true := by rw [zI_neg]; exact z
    obtain ⟨f1, f2, f3⟩ := be_zero hn k z'
    rw [e1, e2, f1, f2, f3]
    unfold trL trH
    rw [if_pos (by omega), if_pos (by omega)]
    omega
  · obtain ⟨q, hq, hx⟩ := half_ex h k z
    obtain ⟨F, L, f⟩ := be_form h k z q hq hx
    have hx' : ∀ i, 0 < (rot (cnr (-b) (-a) c d i) (mq q)).1 := fun i => by rw [cnr_mirror a b c d q hq i]; exact hx _
    have hq' : mq q ≤ 3 := by unfold mq; split <;> omega
    obtain ⟨F', L', f'⟩ := be_form hn k (half_off hq' hx') (mq q) hq' hx'
    -- the first corner of the mirrored box is the last one, mirrored
    obtain ⟨i, ei⟩ := f'.isF
    obtain ⟨j, ej⟩ := f'.isL
    rw [cnr_mirror a b c d q hq i] at ei
    rw [cnr_mirror a b c d q hq j] at ej
    have G := f.pts (tau i)
    have K := f.pts (tau j)
    have mG : ∀ n, Sle (rot (cnr a b c d n) q) (rot (cnr a b c d (tau i)) q) := by
      intro n
      have := f'.minF (tau n)
      rw [cnr_mirror a b c d q hq (tau n), ← tau_back a b c d n, ei] at this
      exact this.mirror
    have mK : ∀ n, Sle (rot (cnr a b c d (tau j)) q) (rot (cnr a b c d n) q) := by
      intro n
      have := f'.maxL (tau n)
      rw [cnr_mirror a b c d q hq (tau n), ← tau_back a b c d n, ej] at this
      exact this.mirror
    obtain ⟨m, em⟩ := f.isL
    obtain ⟨n, en⟩ := f.isF
    have a1 := G.le f.ptL (f.maxL (tau i))
    have a2 := f.ptL.le G (by rw [em]; exact mG m)
    have b1 := f.ptF.le K (f.minF (tau j))
    have b2 := K.le f.ptF (by rw [en]; exact mK n)
    obtain ⟨n1, n2⟩ := L6.h_neg (Y := (rot (cnr a b c d (tau i)) q).2) G.x0 G.x1
    obtain ⟨p1, p2⟩ := L6.h_neg (Y := (rot (cnr a b c d (tau j)) q).2) K.x0 K.x1
    have lo := f.lo
    have hi := f.hi
    have lo' := f'.lo
    have hi' := f'.hi
    have wd := f.wd
    have eF : L6.hD F'.1 F'.2 = -L6.hU' L.1 L.2 := by rw [ei]; show L6.hD (rot (cnr a b c d (tau i)) q).1 (-(rot (cnr a b c d (tau i)) q).2) = _; omega
    have eL : L6.hU' L'.1 L'.2 = -L6.hD F.1 F.2 := by rw [ej]; show L6.hU' (rot (cnr a b c d (tau j)) q).1 (-(rot (cnr a b c d (tau j)) q).2) = _; omega
    rw [eF] at lo' hi'
    rw [eL] at hi'
    clear n1 n2 p1 p2 a1 a2 b1 b2 eF eL
    generalize L6.hD F.1 F.2 = x at *
    generalize L6.hU' L.1 L.2 = y at *
    have e : 5400000 * ((mq q : Nat) : Int) % 21600000 = (-(5400000 * (q : Int))) % 21600000 := by
      unfold mq
      split
      · rename_i c; subst c; rfl
      · omega
    generalize 5400000 * ((mq q : Nat) : Int) = u at *
    refine ⟨f'.er, ?_, ?_⟩
    · unfold trL; rw [if_neg (by omega)]; omega
    · unfold trH; rw [if_neg (by omega)]; omega
/-- the arc of a box that is stretched -/
def scl (m : Int) (p : Int × Int) : Int × Int := (m * p.1, m * p.2)
theorem rot_scl (m : Int) (p : Int × Int) (q : Nat) : rot (scl m p) q = scl m (rot p q) := by
  match q with
  | 0 => rfl
  | 1 => show (m * p.2, -(m * p.1)) = (m * p.2, m * -p.1); rw [Int.mul_neg]
  | 2 => show (-(m * p.1), -(m * p.2)) = (m * -p.1, m * -p.2); rw [Int.mul_neg, Int.mul_neg]
  | q + 3 => show (-(m * p.2), m * p.1) = (m * -p.2, m * p.1); rw [Int.mul_neg]
theorem cnr_scl (m a b c d : Int) (i : Nat) : cnr (m * a) (m * b) (m * c) (m * d) i = scl m (cnr a b c d i) := by
  match i with
  | 0 => rfl
  | 1 => rfl
  | 2 => rfl
  | i + 3 => rfl
theorem sle_scl {m : Int} (h : 0 < m) (p r : Int × Int) : Sle (scl m p) (scl m r) ↔ Sle p r := by
  unfold Sle scl
  show m * p.2 * (m * r.1) ≤ m * r.2 * (m * p.1) ↔ _
  have e1 : m * p.2 * (m * r.1) = m * m * (p.2 * r.1) := by rw [Int.mul_assoc, Int.mul_left_comm p.2 m, ← Int.mul_assoc]
  have e2 : m * r.2 * (m * p.1) = m * m * (r.2 * p.1) := by rw [Int.mul_assoc, Int.mul_left_comm r.2 m, ← Int.mul_assoc]
  rw [e1, e2]
  have mm := Int.mul_pos h h
  exact ⟨fun k => Int.le_of_mul_le_mul_left k mm, fun k => Int.mul_le_mul_of_nonneg_left k (Int.le_of_lt mm)⟩
theorem sle_self (m : Int) (p : Int × Int) : Sle (scl m p) p ∧ Sle p (scl m p) := by
  unfold Sle scl
  constructor
  · show m * p.2 * p.1 ≤ p.2 * (m * p.1)
    rw [Int.mul_comm m, Int.mul_assoc]; exact Int.le_refl _
  · show p.2 * (m * p.1) ≤ m * p.2 * p.1
    rw [Int.mul_comm m p.2, Int.mul_assoc]; exact Int.le_refl _
theorem scl_arc {a b c d m : Int} (m0 : 0 < m) (h : fok a b = true) (k : fok c d = true) (h' : fok (m * a) (m * b) = true) (k' : fok (m * c) (m * d) = true) : beE (m * a) (m * b) (m * c) (m * d) = 0 ∧ beL (m * a) (m * b) (m * c) (m * d) = beL a b c d ∧ beH (m * a) (m * b) (m * c) (m * d) = beH a b c d := by
  have zz : ∀ x y : Int, zI (m * x) (m * y) = zI x y := by
    intro x y
    have p1 : m * x ≤ 0 ↔ x ≤ 0 := by
      constructor
      · intro e; refine Classical.byContradiction fun n => ?_; have := Int.mul_pos m0 (show 0 < x by omega); omega
      · intro e; have := Int.mul_le_mul_of_nonneg_left e (Int.le_of_lt m0); omega
    have p2 : 0 ≤ m * y ↔ 0 ≤ y := by
      constructor
      · intro e; refine Classical.byContradiction fun n => ?_; have := Int.mul_pos m0 (show 0 < -y by omega); rw [Int.mul_neg] at this; omega
      · intro e; exact Int.mul_nonneg (Int.le_of_lt m0) e
    unfold zI
    by_cases c : x ≤ 0 ∧ 0 ≤ y
    · rw [decide_eq_true c, decide_eq_true ⟨p1.2 c.1, p2.2 c.2⟩]
    · rw [decide_eq_false c, decide_eq_false (fun e => c ⟨p1.1 e.1, p2.1 e.2⟩)]
  rcases Bool.eq_false_or_eq_true (zI a b && zI c d) with z | z
  · obtain ⟨e1, e2, e3⟩ := be_zero h k z
    obtain ⟨f1, f2, f3⟩ := be_zero h' k' (by rw [zz, zz]; exact z)
    rw [e1, e2, f1, f2, f3]
    omega
  · obtain ⟨q, hq, hx⟩ := half_ex h k z
    obtain ⟨F, L, f⟩ := be_form h k z q hq hx
    have hx' : ∀ i, 0 < (rot (cnr (m * a) (m * b) (m * c) (m * d) i) q).1 := fun i => by rw [cnr_scl, rot_scl]; exact Int.mul_pos m0 (hx i)
    obtain ⟨F', L', f'⟩ := be_form h' k' (by rw [zz, zz]; exact z) q hq hx'
    obtain ⟨i, ei⟩ := f'.isF
    obtain ⟨j, ej⟩ := f'.isL
    rw [cnr_scl, rot_scl] at ei ej
    have G := f.pts i
    have K := f.pts j
    have mG : ∀ n, Sle (rot (cnr a b c d i) q) (rot (cnr a b c d n) q) := by
      intro n
      have := f'.minF n
      rw [cnr_scl, rot_scl, ei] at this
      exact (sle_scl m0 _ _).1 this
    have mK : ∀ n, Sle (rot (cnr a b c d n) q) (rot (cnr a b c d j) q) := by
      intro n
      have := f'.maxL n
      rw [cnr_scl, rot_scl, ej] at this
      exact (sle_scl m0 _ _).1 this
    obtain ⟨r, er⟩ := f.isF
    obtain ⟨t, et⟩ := f.isL
    have a1 := f.ptF.le G (f.minF i)
    have a2 := G.le f.ptF (by rw [er]; exact mG r)
    have b1 := K.le f.ptL (f.maxL j)
    have b2 := f.ptL.le K (by rw [et]; exact mK t)
    have c1 := f'.ptF.le G (by rw [ei]; exact (sle_self m _).1)
    have c2 := G.le f'.ptF (by rw [ei]; exact (sle_self m _).2)
    have d1 := f'.ptL.le K (by rw [ej]; exact (sle_self m _).1)
    have d2 := K.le f'.ptL (by rw [ej]; exact (sle_self m _).2)
    have lo := f.lo
    have hi := f.hi
    have lo' := f'.lo
    have hi' := f'.hi
    have e1 : L6.hD F'.1 F'.2 = L6.hD F.1 F.2 := by omega
    have e2 : L6.hU' L'.1 L'.2 = L6.hU' L.1 L.2 := by omega
    rw [e1] at lo' hi'
    rw [e2] at hi'
    exact ⟨f'.er, by omega, by omega⟩
/-- a linear form over a box -/
theorem lin_box {al be x y c d a b : Int} (hx1 : c ≤ x) (hx2 : x ≤ d) (hy1 : a ≤ y) (hy2 : y ≤ b) (h0 : 0 ≤ al * c + be * a) (h1 : 0 ≤ al * c + be * b) (h2 : 0 ≤ al * d + be * a) (h3 : 0 ≤ al * d + be * b) : 0 ≤ al * x + be * y := by
  rcases Int.le_total 0 al with p | p <;> rcases Int.le_total 0 be with q | q
  · have := Int.mul_le_mul_of_nonneg_left hx1 p
    have := Int.mul_le_mul_of_nonneg_left hy1 q
    omega
  · have := Int.mul_le_mul_of_nonneg_left hx1 p
    have := Int.mul_le_mul_of_nonpos_left q hy2
    omega
  · have := Int.mul_le_mul_of_nonpos_left p hx2
    have := Int.mul_le_mul_of_nonneg_left hy1 q
    omega
  · have := Int.mul_le_mul_of_nonpos_left p hx2
    have := Int.mul_le_mul_of_nonpos_left q hy2
    omega
/-- what holds for the corners of a box, holds for the corners of its parts -/
theorem lin_cnr {a b c d a' b' c' d' al be : Int} (p1 : a ≤ a') (p2 : a' ≤ b') (p3 : b' ≤ b) (r1 : c ≤ c') (r2 : c' ≤ d') (r3 : d' ≤ d) (h : ∀ i, 0 ≤ al * (cnr a b c d i).1 + be * (cnr a b c d i).2) (i : Nat) : 0 ≤ al * (cnr a' b' c' d' i).1 + be * (cnr a' b' c' d' i).2 := by
  have h0 := h 0
  have h1 := h 1
  have h2 := h 2
  have h3 := h 3
  change 0 ≤ al * c + be * a at h0
  change 0 ≤ al * c + be * b at h1
  change 0 ≤ al * d + be * a at h2
  change 0 ≤ al * d + be * b at h3
  match i with
  | 0 => exact lin_box (x := c') (y := a') (by omega) (by omega) (by omega) (by omega) h0 h1 h2 h3
  | 1 => exact lin_box (x := c') (y := b') (by omega) (by omega) (by omega) (by omega) h0 h1 h2 h3
  | 2 => exact lin_box (x := d') (y := a') (by omega) (by omega) (by omega) (by omega) h0 h1 h2 h3
  | i + 3 => exact lin_box (x := d') (y := b') (by omega) (by omega) (by omega) (by omega) h0 h1 h2 h3
/-- a combination of a turned point is one of the point -/
theorem rot_lin (u v : Int) (q : Nat) : ∃ al be : Int, ∀ p : Int × Int, u * (rot p q).1 + v * (rot p q).2 = al * p.1 + be * p.2 := by
  match q with
  | 0 => exact ⟨u, v, fun p => rfl⟩
  | 1 => exact ⟨-v, u, fun p => by show u * p.2 + v * -p.1 = -v * p.1 + u * p.2; rw [Int.mul_neg, Int.neg_mul]; omega⟩
  | 2 => exact ⟨-u, -v, fun p => by show u * -p.1 + v * -p.2 = -u * p.1 + -v * p.2; rw [Int.mul_neg, Int.neg_mul, Int.mul_neg, Int.neg_mul]⟩
  | q + 3 => exact ⟨v, -u, fun p => by show u * -p.2 + v * p.1 = v * p.1 + -u * p.2; rw [Int.mul_neg, Int.neg_mul]; omega⟩
theorem part_lin {a b c d a' b' c' d' u v : Int} {q : Nat} (p1 : a ≤ a') (p2 : a' ≤ b') (p3 : b' ≤ b) (r1 : c ≤ c') (r2 : c' ≤ d') (r3 : d' ≤ d) (h : ∀ i, 0 ≤ u * (rot (cnr a b c d i) q).1 + v * (rot (cnr a b c d i) q).2) (i : Nat) : 0 ≤ u * (rot (cnr a' b' c' d' i) q).1 + v * (rot (cnr a' b' c' d' i) q).2 := by
  obtain ⟨al, be, e⟩ := rot_lin u v q
  rw [e]
  exact lin_cnr p1 p2 p3 r1 r2 r3 (fun i => by rw [← e]; exact h i) i
/-- the arc of a part of a box -/
theorem part_arc {a b c d a' b' c' d' : Int} (h : fok a b = true) (k : fok c d = true) (p1 : a ≤ a') (p2 : a' ≤ b') (p3 : b' ≤ b) (r1 : c ≤ c') (r2 : c' ≤ d') (r3 : d' ≤ d) :
    (0 ≤ beL a b c d ∧ beL a b c d < 21600000 ∧ beL a b c d ≤ beH a b c d ∧ beH a b c d ≤ beL a b c d + 21600000 ∧ beE a b c d = 0) ∧
    (0 ≤ beL a' b' c' d' ∧ beL a' b' c' d' < 21600000 ∧ beL a' b' c' d' ≤ beH a' b' c' d' ∧ beH a' b' c' d' ≤ beL a' b' c' d' + 21600000 ∧ beE a' b' c' d' = 0) ∧
    ((beL a b c d = 0 ∧ beH a b c d = 21600000) ∨ (¬ (beL a b c d = 0 ∧ beH a b c d = 21600000) ∧ ((beL a' b' c' d' < beL a b c d ∧ beH a' b' c' d' + 21600000 ≤ beH a b c d) ∨ (¬ beL a' b' c' d' < beL a b c d ∧ beH a' b' c' d' ≤ beH a b c d)))) := by
  obtain ⟨h1, h2, h3⟩ := (fok_iff _ _).1 h
  obtain ⟨k1, k2, k3⟩ := (fok_iff _ _).1 k
  have h' : fok a' b' = true := (fok_iff _ _).2 (by omega)
  have k' : fok c' d' = true := (fok_iff _ _).2 (by omega)
  have bd : ∀ {a b c d : Int}, fok a b = true → fok c d = true → 0 ≤ beL a b c d ∧ beL a b c d < 21600000 ∧ beL a b c d ≤ beH a b c d ∧ beH a b c d ≤ beL a b c d + 21600000 ∧ beE a b c d = 0 := by
    intro a b c d h k
    rcases Bool.eq_false_or_eq_true (zI a b && zI c d) with z | z
    · obtain ⟨e1, e2, e3⟩ := be_zero h k z
      rw [e1, e2, e3]; omega
    · obtain ⟨q, hq, hx⟩ := half_ex h k z
      obtain ⟨F, L, f⟩ := be_form h k z q hq hx
      have lo := f.lo
      have hi := f.hi
      have wd := f.wd
      exact ⟨by omega, by omega, by omega, by omega, f.er⟩
  refine ⟨bd h k, bd h' k', ?_⟩
  rcases Bool.eq_false_or_eq_true (zI a b && zI c d) with z | z
  · obtain ⟨e1, e2, e3⟩ := be_zero h k z
    exact .inl ⟨e1, e2⟩
  · obtain ⟨q, hq, hx⟩ := half_ex h k z
    obtain ⟨F, L, f⟩ := be_form h k z q hq hx
    have hx' : ∀ i, 0 < (rot (cnr a' b' c' d' i) q).1 := by
      intro i
      -- a whole number above one half
      obtain ⟨al, be, e⟩ := rot_lin 1 0 q
      have g : ∀ i, 1 ≤ al * (cnr a b c d i).1 + be * (cnr a b c d i).2 := fun i => by
        have := e (cnr a b c d i)
        have := hx i
        omega
      have g0 := g 0
      have g1 := g 1
      have g2 := g 2
      have g3 := g 3
      change 1 ≤ al * c + be * a at g0
      change 1 ≤ al * c + be * b at g1
      change 1 ≤ al * d + be * a at g2
      change 1 ≤ al * d + be * b at g3
      have key : ∀ x y : Int, c ≤ x → x ≤ d → a ≤ y → y ≤ b → 1 ≤ al * x + be * y := by
        intro x y x1 x2 y1 y2
        rcases Int.le_total 0 al with p | p <;> rcases Int.le_total 0 be with r | r
        · have := Int.mul_le_mul_of_nonneg_left x1 p
          have := Int.mul_le_mul_of_nonneg_left y1 r
          omega
        · have := Int.mul_le_mul_of_nonneg_left x1 p
          have := Int.mul_le_mul_of_nonpos_left r y2
          omega
        · have := Int.mul_le_mul_of_nonpos_left p x2
          have := Int.mul_le_mul_of_nonneg_left y1 r
          omega
        · have := Int.mul_le_mul_of_nonpos_left p x2
          have := Int.mul_le_mul_of_nonpos_left r y2
          omega
      have := e (cnr a' b' c' d' i)
      have k : 1 ≤ al * (cnr a' b' c' d' i).1 + be * (cnr a' b' c' d' i).2 := by
        match i with
        | 0 => exact key c' a' (by omega) (by omega) (by omega) (by omega)
        | 1 => exact key c' b' (by omega) (by omega) (by omega) (by omega)
        | 2 => exact key d' a' (by omega) (by omega) (by omega) (by omega)
        | i + 3 => exact key d' b' (by omega) (by omega) (by omega) (by omega)
      omega
    obtain ⟨F', L', f'⟩ := be_form h' k' (half_off hq hx') q hq hx'
    obtain ⟨i, ei⟩ := f'.isF
    obtain ⟨j, ej⟩ := f'.isL
    have s1 : Sle F F' := by
      have := part_lin (u := -F.2) (v := F.1) (q := q) p1 p2 p3 r1 r2 r3 (fun n => by
        have := f.minF n
        unfold Sle at this
        rw [Int.neg_mul, Int.mul_comm F.1]
        omega) i
      rw [← ei, Int.neg_mul, Int.mul_comm F.1] at this
      unfold Sle
      omega
    have s2 : Sle L' L := by
      have := part_lin (u := L.2) (v := -L.1) (q := q) p1 p2 p3 r1 r2 r3 (fun n => by
        have := f.maxL n
        unfold Sle at this
        rw [Int.neg_mul, Int.mul_comm L.1]
        omega) j
      rw [← ej, Int.neg_mul, Int.mul_comm L.1] at this
      unfold Sle
      omega
    have a1 := f.ptF.le f'.ptF s1
    have a2 := f'.ptL.le f.ptL s2
    have lo := f.lo
    have hi := f.hi
    have wd := f.wd
    have lo' := f'.lo
    have hi' := f'.hi
    have wd' := f'.wd
    right
    refine ⟨by omega, ?_⟩
    by_cases c : beL a' b' c' d' < beL a b c d
    · exact .inl ⟨c, by omega⟩
    · exact .inr ⟨c, by omega⟩
end Go.Proofs.YtebhflmmdfbjkaaDoor
