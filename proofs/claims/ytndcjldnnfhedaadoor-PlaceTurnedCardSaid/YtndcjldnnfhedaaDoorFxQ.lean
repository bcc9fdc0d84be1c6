/- Fixed: what the laws of layer 4 say of the plain answers. -/
import Derived.Test.YtndcjldnnfhedaaDoorFxP
namespace Go.Proofs.YtndcjldnnfhedaaDoor
set_option linter.unusedVariables false

/-- what the law of parts asks of two results -/
def Cont (R S : Fx) : Prop := R.e = 0 → (S.e = 0 ∧ insideR S.l S.h R.l R.h = true) ∨ S.e = 2
theorem fok_mk {a b : Int} (h1 : -2147483648 ≤ a) (h2 : b ≤ 2147483648) (h3 : a ≤ b) : fok a b = true := (fok_iff _ _).2 ⟨h1, h2, h3⟩
theorem inside_mk {a b c d : Int} (h : fok c d = true) (h1 : c ≤ a) (h2 : b ≤ d) (h3 : a ≤ b) : insideR a b c d = true := by
  have k := (fok_iff _ _).1 h
  exact (insideR_iff _ _ _ _).2 ⟨fok_mk (by omega) (by omega) h3, h, h1, h2⟩
theorem cont_fit {l h l' h' : Int} (k : l ≤ h) (k' : l' ≤ h') (h1 : l ≤ l') (h2 : h' ≤ h) : Cont (fit l h) (fit l' h') := by
  intro e
  obtain ⟨q, q1, q2⟩ | ⟨q, q1⟩ := fit_or l h
  · rw [q]
    rw [fit_yes (show -2147483648 ≤ l' ∧ h' ≤ 2147483648 by omega)]
    exact .inl ⟨rfl, inside_mk (fok_mk q1 q2 k) h1 h2 k'⟩
  · rw [q] at e; exact absurd e (by decide)
/-- the answer is an interval, or ErrBig -/
theorem fit_e (l h : Int) : (fit l h).e = 0 ∨ (fit l h).e = 5 := by
  obtain ⟨q, _⟩ | ⟨q, _⟩ := fit_or l h
  · rw [q]; exact .inl rfl
  · rw [q]; exact .inr rfl
theorem fit_zero {l h : Int} (k : (fit l h).e = 0) : fit l h = ⟨l, h, 0⟩ ∧ -2147483648 ≤ l ∧ h ≤ 2147483648 := by
  obtain ⟨q, q1, q2⟩ | ⟨q, q1⟩ := fit_or l h
  · exact ⟨q, q1, q2⟩
  · rw [q] at k; exact absurd k (by decide)

theorem min4_le_max4 (x y z w : Int) : min4 x y z w ≤ max4 x y z w := by unfold min4 max4; omega
theorem mul_lo_hi (a b c d : Int) : min4 (a * c) (a * d) (b * c) (b * d) / 1073741824 ≤ cdiv (max4 (a * c) (a * d) (b * c) (b * d)) 1073741824 :=
  Int.le_trans (fl_mono (by omega) (min4_le_max4 _ _ _ _)) (fl_le_ce (by omega))
theorem loQ_hiQ {a b c d n : Int} (hc : 0 < c) : loQ a b c d n ≤ hiQ a b c d n := by
  have h1 := (min4_le (a * n / c) (a * n / d) (b * n / c) (b * n / d)).1
  have h2 := (le_max4 (cdiv (a * n) c) (cdiv (a * n) d) (cdiv (b * n) c) (cdiv (b * n) d)).1
  have h3 := fl_le_ce (x := a * n) hc
  unfold loQ hiQ; omega
/-- the floors of the corners are below each number's quotient -/
theorem loQ_le {a b c d n x y : Int} (hc : 0 < c) (h1 : a ≤ x) (h2 : x ≤ b) (h3 : c ≤ y) (h4 : y ≤ d) : loQ a b c d n ≤ x * n / y := by
  have hd : 0 < d := by omega
  rw [le_fl (by omega)]
  obtain ⟨m1, m2, m3, m4⟩ := min4_le (a * n / c) (a * n / d) (b * n / c) (b * n / d)
  exact lin_ge h1 h2 (lin_le' h3 h4 ((le_fl hc).1 m1) ((le_fl hd).1 m2)) (lin_le' h3 h4 ((le_fl hc).1 m3) ((le_fl hd).1 m4))
theorem le_hiQ {a b c d n x y : Int} (hc : 0 < c) (h1 : a ≤ x) (h2 : x ≤ b) (h3 : c ≤ y) (h4 : y ≤ d) : cdiv (x * n) y ≤ hiQ a b c d n := by
  have hd : 0 < d := by omega
  rw [ce_le (by omega)]
  obtain ⟨m1, m2, m3, m4⟩ := le_max4 (cdiv (a * n) c) (cdiv (a * n) d) (cdiv (b * n) c) (cdiv (b * n) d)
  exact lin_le h1 h2 (lin_ge' h3 h4 ((ce_le hc).1 m1) ((ce_le hd).1 m2)) (lin_ge' h3 h4 ((ce_le hc).1 m3) ((ce_le hd).1 m4))
theorem loQ_same (x y n : Int) : loQ x x y y n = x * n / y := by unfold loQ min4; omega
theorem hiQ_same (x y n : Int) : hiQ x x y y n = cdiv (x * n) y := by unfold hiQ max4; omega
/-- the turned ends -/
theorem turn_pos {a b c d : Int} (h : c ≤ d) (hz : ¬ (c ≤ 0 ∧ 0 ≤ d)) (k : a ≤ b) : 0 < tC c d ∧ tC c d ≤ tD c d ∧ tA a b c ≤ tB a b c := by
  unfold tA tB tC tD
  by_cases hc : c < 0
  · simp only [if_pos hc]; omega
  · simp only [if_neg hc]; omega
theorem turn_in {a b c d x y : Int} (hz : ¬ (c ≤ 0 ∧ 0 ≤ d)) (h1 : a ≤ x) (h2 : x ≤ b) (h3 : c ≤ y) (h4 : y ≤ d) :
    tA a b c ≤ tA x x y ∧ tA x x y ≤ tB a b c ∧ tC c d ≤ tC y y ∧ tC y y ≤ tD c d ∧ tB x x y = tA x x y ∧ tD y y = tC y y := by
  unfold tA tB tC tD
  by_cases hc : c < 0
  · have hy : y < 0 := by omega
    simp only [if_pos hc, if_pos hy]; exact ⟨by omega, by omega, by omega, by omega, trivial, trivial⟩
  · have hy : ¬ y < 0 := by omega
    simp only [if_neg hc, if_neg hy]; exact ⟨by omega, by omega, by omega, by omega, trivial, trivial⟩

theorem cont_add {a b c d x y : Int} (h1 : a ≤ x) (h2 : x ≤ b) (h3 : c ≤ y) (h4 : y ≤ d) : Cont (addR a b c d) (addR x x y y) :=
  cont_fit (by omega) (by omega) (by omega) (by omega)
theorem cont_sub {a b c d x y : Int} (h1 : a ≤ x) (h2 : x ≤ b) (h3 : c ≤ y) (h4 : y ≤ d) : Cont (subR a b c d) (subR x x y y) :=
  cont_fit (by omega) (by omega) (by omega) (by omega)
theorem cont_mul {a b c d x y : Int} (h1 : a ≤ x) (h2 : x ≤ b) (h3 : c ≤ y) (h4 : y ≤ d) : Cont (mulR a b c d) (mulR x x y y) := by
  unfold mulR
  refine cont_fit (mul_lo_hi _ _ _ _) (mul_lo_hi _ _ _ _) (fl_mono (by omega) ?_) (ce_mono (by omega) ?_)
  · have := corner_le h1 h2 h3 h4; exact le_min4 this this this this
  · have := le_corner h1 h2 h3 h4; exact max4_le this this this this
theorem cont_div {a b c d x y : Int} (h1 : a ≤ x) (h2 : x ≤ b) (h3 : c ≤ y) (h4 : y ≤ d) : Cont (divR a b c d) (divR x x y y) := by
  unfold divR
  by_cases hz : c ≤ 0 ∧ 0 ≤ d
  · rw [if_pos hz]; intro e; exact absurd e (by decide)
  · rw [if_neg hz, if_neg (show ¬ (y ≤ 0 ∧ 0 ≤ y) by omega)]
    obtain ⟨p1, p2, p3⟩ := turn_pos (a := a) (b := b) (by omega) hz (by omega)
    obtain ⟨t1, t2, t3, t4, t5, t6⟩ := turn_in hz h1 h2 h3 h4
    rw [t5, t6]
    exact cont_fit (loQ_hiQ p1) (loQ_hiQ (by omega)) (by rw [loQ_same]; exact loQ_le p1 t1 t2 t3 t4) (by rw [hiQ_same]; exact le_hiQ p1 t1 t2 t3 t4)
theorem hull_ok {a b c d : Int} (ha : fok a b = true) (hc : fok c d = true) : fok (min a c) (max b d) = true := by
  rw [fok_iff] at *; omega
theorem cont_hull {a b c d x y : Int} (ha : fok a b = true) (hc : fok c d = true) (h1 : a ≤ x) (h2 : x ≤ b) (h3 : c ≤ y) (h4 : y ≤ d) : Cont (hullR a b c d) (hullR x x y y) := by
  intro _
  exact .inl ⟨rfl, inside_mk (hull_ok ha hc) (by show min a c ≤ min x y; omega) (by show max x y ≤ max b d; omega) (by show min x y ≤ max x y; omega)⟩
theorem sq_nonneg' (a : Int) : 0 ≤ a * a := by
  by_cases h : 0 ≤ a
  · exact Int.mul_nonneg h h
  · exact Int.mul_nonneg_of_nonpos_of_nonpos (by omega) (by omega)
/-- the least and the greatest square of an interval -/
def sLo (a b : Int) : Int := if a ≤ 0 ∧ 0 ≤ b then 0 else min (a * a) (b * b)
def sHi (a b : Int) : Int := max (a * a) (b * b)
theorem sLo_nonneg (a b : Int) : 0 ≤ sLo a b := by
  have := sq_nonneg' a; have := sq_nonneg' b
  unfold sLo; split <;> omega
theorem sLo_le {a b x : Int} (h1 : a ≤ x) (h2 : x ≤ b) : sLo a b ≤ x * x := by
  unfold sLo
  have := sq_nonneg' x
  split
  · omega
  · rename_i hz
    by_cases h : 0 < a
    · have := sq_le (a := a) (b := x) (by omega) h1; omega
    · have e1 := Int.neg_mul_neg x x
      have e2 := Int.neg_mul_neg b b
      have := sq_le (a := -b) (b := -x) (by omega) (by omega); omega
theorem le_sHi {a b x : Int} (h1 : a ≤ x) (h2 : x ≤ b) : x * x ≤ sHi a b := by
  unfold sHi
  by_cases h : 0 ≤ x
  · have := sq_le (a := x) (b := b) h h2; omega
  · have e1 := Int.neg_mul_neg x x
    have e2 := Int.neg_mul_neg a a
    have := sq_le (a := -x) (b := -a) (by omega) (by omega); omega
theorem squareR_eq (a b : Int) : squareR a b = fit (sLo a b / 1073741824) (cdiv (sHi a b) 1073741824) := rfl
theorem sLo_sHi {a b : Int} (h : a ≤ b) : sLo a b ≤ sHi a b := Int.le_trans (sLo_le (Int.le_refl a) h) (le_sHi (Int.le_refl a) h)
theorem cont_square {a b x : Int} (h1 : a ≤ x) (h2 : x ≤ b) : Cont (squareR a b) (squareR x x) := by
  rw [squareR_eq, squareR_eq]
  have s1 : sLo x x = x * x := by have := sLo_le (Int.le_refl x) (Int.le_refl x); have := sq_nonneg' x; unfold sLo at *; split <;> rename_i h <;> first | omega | (obtain rfl : x = 0 := by omega); rfl
  have s2 : sHi x x = x * x := by unfold sHi; omega
  refine cont_fit (Int.le_trans (fl_mono (by omega) (sLo_sHi (by omega))) (fl_le_ce (by omega))) (Int.le_trans (fl_mono (by omega) (sLo_sHi (by omega))) (fl_le_ce (by omega))) (fl_mono (by omega) ?_) (ce_mono (by omega) ?_)
  · rw [s1]; exact sLo_le h1 h2
  · rw [s2]; exact le_sHi h1 h2
theorem cont_neg {a b x : Int} (ha : fok a b = true) (h1 : a ≤ x) (h2 : x ≤ b) : Cont (negR a b) (negR x x) := by
  intro _
  have k := (fok_iff _ _).1 ha
  exact .inl ⟨rfl, inside_mk (fok_mk (by show -2147483648 ≤ -b; omega) (by show -a ≤ 2147483648; omega) (by show -b ≤ -a; omega)) (by show -b ≤ -x; omega) (by show -x ≤ -a; omega) (Int.le_refl _)⟩
theorem upR_le {n r : Int} (h : isRt n r) : r ≤ upR n r ∧ n ≤ upR n r * upR n r ∧ (upR n r = 0 ∨ (upR n r - 1) * (upR n r - 1) < n) := by
  obtain ⟨h0, h1, h2⟩ := h
  unfold upR
  split
  · exact ⟨by omega, by omega, .inr (by rw [show r + 1 - 1 = r by omega]; omega)⟩
  · by_cases hz : r = 0
    · exact ⟨by omega, by omega, .inl hz⟩
    · exact ⟨by omega, by omega, .inr (by have := sq_lt (a := r - 1) (b := r) (by omega) (by omega); omega)⟩
theorem upR_mono {n m r s : Int} (h : isRt n r) (k : isRt m s) (hl : n ≤ m) : upR n r ≤ upR m s := by
  obtain ⟨a1, a2, a3⟩ := upR_le h
  obtain ⟨b1, b2, b3⟩ := upR_le k
  obtain ⟨h0, h1, h2⟩ := h
  obtain ⟨k0, k1, k2⟩ := k
  have p : ¬ upR m s < upR n r := fun hh => by
    have := sq_le (a := upR m s) (b := upR n r - 1) (by omega) (by omega)
    obtain z | z := a3
    · omega
    · omega
  omega
theorem upR_bound {b s : Int} (hb : b ≤ 2147483648) (h0 : 0 ≤ b) (h : isRt (b * 1073741824) s) : upR (b * 1073741824) s ≤ 2147483648 := by
  obtain ⟨b1, b2, b3⟩ := upR_le h
  obtain ⟨k0, k1, k2⟩ := h
  have p : ¬ 2147483648 < upR (b * 1073741824) s := fun hh => by
    have := sq_le (a := 2147483648) (b := upR (b * 1073741824) s - 1) (by omega) (by omega)
    obtain z | z := b3 <;> omega
  omega
theorem sqrt_ok {a b : Int} (ha : fok a b = true) (k : (sqrtR a b).e = 0) : fok (sqrtR a b).l (sqrtR a b).h = true ∧ 0 ≤ (sqrtR a b).l := by
  have ka := (fok_iff _ _).1 ha
  obtain ⟨⟨h0, hR⟩ | ⟨h0, r, s, hr, hs, hR⟩⟩ := sqrtR_is a b (by omega)
  · rw [hR] at k; exact absurd k (by decide)
  · rw [hR]
    have h1 := upR_bound ka.2.1 h0 hs
    have h2 := isRt_mono hr hs (by omega)
    have h3 := (upR_le hs).1
    have h4 := hr.1
    exact ⟨fok_mk (by show -2147483648 ≤ r; omega) h1 (by show r ≤ upR (b * 1073741824) s; omega), h4⟩
theorem cont_root {a b x : Int} (ha : fok a b = true) (h1 : a ≤ x) (h2 : x ≤ b) : Cont (sqrtR a b) (sqrtR x x) := by
  intro k
  obtain ⟨ka, kb⟩ := sqrt_ok ha k
  obtain ⟨⟨h0, hR⟩ | ⟨h0, r, s, hr, hs, hR⟩⟩ := sqrtR_is a b (by omega)
  · rw [hR] at k; exact absurd k (by decide)
  obtain ⟨⟨g0, gR⟩ | ⟨g0, r', s', hr', hs', gR⟩⟩ := sqrtR_is x x (by omega)
  · rw [gR]; exact .inr rfl
  · rw [gR]; rw [hR] at ka ⊢
    refine .inl ⟨rfl, inside_mk ka ?_ ?_ ?_⟩
    · exact isRt_mono hr hr' (by omega)
    · exact upR_mono hs' hs (by omega)
    · have q1 := isRt_mono hr' hs' (by omega)
      have q2 := (upR_le hs').1
      show r' ≤ upR (x * 1073741824) s'; omega
/-- the ends of the root are the nearest ones -/
theorem sqrt_near {a b : Int} (ha : fok a b = true) (k : (sqrtR a b).e = 0) :
    (sqrtR a b).l * (sqrtR a b).l ≤ max a 0 * 1073741824 ∧ max a 0 * 1073741824 < ((sqrtR a b).l + 1) * ((sqrtR a b).l + 1) ∧ b * 1073741824 ≤ (sqrtR a b).h * (sqrtR a b).h ∧ ((sqrtR a b).h = 0 ∨ ((sqrtR a b).h - 1) * ((sqrtR a b).h - 1) < b * 1073741824) := by
  have ka := (fok_iff _ _).1 ha
  obtain ⟨⟨h0, hR⟩ | ⟨h0, r, s, hr, hs, hR⟩⟩ := sqrtR_is a b (by omega)
  · rw [hR] at k; exact absurd k (by decide)
  · rw [hR]
    obtain ⟨q1, q2, q3⟩ := upR_le hs
    exact ⟨hr.2.1, hr.2.2, q2, q3⟩
/-- ranges: a number's is within the interval's -/
theorem cont_scale {a b n x : Int} (h1 : a ≤ x) (h2 : x ≤ b) : (scaleR a b n).e = (scaleR x x n).e ∧ ((scaleR a b n).e = 0 → (scaleR a b n).l ≤ (scaleR x x n).l ∧ (scaleR x x n).l ≤ (scaleR x x n).h ∧ (scaleR x x n).h ≤ (scaleR a b n).h) := by
  unfold scaleR
  by_cases h : reach n = true
  · simp only [if_pos h, true_and]
    intro _
    have k1 : min (a * n / 1073741824) (b * n / 1073741824) ≤ x * n / 1073741824 := by
      rw [le_fl (by omega)]
      exact lin_ge h1 h2 ((le_fl (by omega)).1 (by omega)) ((le_fl (by omega)).1 (by omega))
    have k2 : cdiv (x * n) 1073741824 ≤ max (cdiv (a * n) 1073741824) (cdiv (b * n) 1073741824) := by
      rw [ce_le (by omega)]
      exact lin_le h1 h2 ((ce_le (by omega)).1 (by omega)) ((ce_le (by omega)).1 (by omega))
    have k3 := fl_le_ce (x := x * n) (y := 1073741824) (by omega)
    omega
  · simp only [if_neg h]
    exact ⟨trivial, fun e => absurd e (by decide)⟩
theorem cont_quot {a b c d n x y : Int} (h1 : a ≤ x) (h2 : x ≤ b) (h3 : c ≤ y) (h4 : y ≤ d) (k : (quotR a b c d n).e = 0) :
    (quotR x x y y n).e = 0 ∧ (quotR a b c d n).l ≤ (quotR x x y y n).l ∧ (quotR x x y y n).l ≤ (quotR x x y y n).h ∧ (quotR x x y y n).h ≤ (quotR a b c d n).h := by
  unfold quotR at *
  by_cases h : reach n = true
  · simp only [if_pos h] at k ⊢
    by_cases hz : c ≤ 0 ∧ 0 ≤ d
    · rw [if_pos hz] at k; exact absurd k (by decide)
    · rw [if_neg hz] at k ⊢
      rw [if_neg (show ¬ (y ≤ 0 ∧ 0 ≤ y) by omega)]
      obtain ⟨p1, p2, p3⟩ := turn_pos (a := a) (b := b) (by omega) hz (by omega)
      obtain ⟨t1, t2, t3, t4, t5, t6⟩ := turn_in hz h1 h2 h3 h4
      rw [t5, t6, loQ_same, hiQ_same]
      have q1 := loQ_le (n := n) p1 t1 t2 t3 t4
      have q2 := le_hiQ (n := n) p1 t1 t2 t3 t4
      have q3 := fl_le_ce (x := tA x x y * n) (y := tC y y) (by omega)
      split at k
      · rename_i hr
        have r1 := (reach_iff _).1 hr.1
        have r2 := (reach_iff _).1 hr.2
        rw [if_pos hr, if_pos ⟨(reach_iff _).2 (by omega), (reach_iff _).2 (by omega)⟩]
        exact ⟨rfl, q1, q3, q2⟩
      · exact absurd k (by decide)
  · rw [if_neg h] at k; exact absurd k (by decide)

/- Undone -/
theorem addR_comm (a b c d : Int) : addR a b c d = addR c d a b := by unfold addR; rw [Int.add_comm a c, Int.add_comm b d]
theorem mulR_comm (a b c d : Int) : mulR a b c d = mulR c d a b := by
  unfold mulR
  rw [Int.mul_comm a c, Int.mul_comm a d, Int.mul_comm b c, Int.mul_comm b d, min4_swap, max4_swap]
/-- what is undone is inside, or too big -/
def Back (a b : Int) (S : Fx) : Prop := (S.e = 0 ∧ insideR a b S.l S.h = true) ∨ S.e = 5
theorem back_fit {a b l h : Int} (k : a ≤ b) (h1 : l ≤ a) (h2 : b ≤ h) : Back a b (fit l h) := by
  obtain ⟨q, q1, q2⟩ | ⟨q, q1⟩ := fit_or l h
  · rw [q]; exact .inl ⟨rfl, inside_mk (fok_mk q1 q2 (show l ≤ h by omega)) h1 h2 k⟩
  · rw [q]; exact .inr rfl
theorem add_back {a b c d : Int} (h : a ≤ b) (k : c ≤ d) (e : (addR a b c d).e = 0) : Back a b (subR (addR a b c d).l (addR a b c d).h c d) ∧ fok (addR a b c d).l (addR a b c d).h = true := by
  obtain ⟨q, q1, q2⟩ := fit_zero e
  rw [show addR a b c d = _ from q]
  exact ⟨back_fit h (by show a + c - d ≤ a; omega) (by show b ≤ b + d - c; omega), fok_mk q1 q2 (by show a + c ≤ b + d; omega)⟩
theorem mul_back {a b c d : Int} (h : a ≤ b) (k : c ≤ d) (e : (mulR a b c d).e = 0) :
    (Back a b (divR (mulR a b c d).l (mulR a b c d).h c d) ∨ (divR (mulR a b c d).l (mulR a b c d).h c d).e = 16) ∧ fok (mulR a b c d).l (mulR a b c d).h = true := by
  obtain ⟨q, q1, q2⟩ := fit_zero e
  rw [show mulR a b c d = _ from q]
  have P1 := (le_fl (L := min4 (a * c) (a * d) (b * c) (b * d) / 1073741824) (x := min4 (a * c) (a * d) (b * c) (b * d)) (y := 1073741824) (by omega)).1 (Int.le_refl _)
  have P2 := (ce_le (H := cdiv (max4 (a * c) (a * d) (b * c) (b * d)) 1073741824) (x := max4 (a * c) (a * d) (b * c) (b * d)) (y := 1073741824) (by omega)).1 (Int.le_refl _)
  have P3 := mul_lo_hi a b c d
  obtain ⟨m1, m2, m3, m4⟩ := min4_le (a * c) (a * d) (b * c) (b * d)
  obtain ⟨n1, n2, n3, n4⟩ := le_max4 (a * c) (a * d) (b * c) (b * d)
  generalize min4 (a * c) (a * d) (b * c) (b * d) / 1073741824 = l at *
  generalize cdiv (max4 (a * c) (a * d) (b * c) (b * d)) 1073741824 = u at *
  refine ⟨?_, fok_mk q1 q2 P3⟩
  show Back a b (divR l u c d) ∨ (divR l u c d).e = 16
  unfold divR
  by_cases hz : c ≤ 0 ∧ 0 ≤ d
  · rw [if_pos hz]; exact .inr rfl
  · rw [if_neg hz]
    refine .inl (back_fit h ?_ ?_)
    · unfold tA tB tC tD
      by_cases hc : c < 0
      · simp only [if_pos hc]
        refine Int.le_trans (min4_le _ _ _ _).1 ?_
        have : -u * 1073741824 / -d < a + 1 := by
          rw [fl_lt (by omega)]
          have := Int.mul_neg (a + 1) d
          rw [this, Int.add_mul]; omega
        omega
      · simp only [if_neg hc]
        refine Int.le_trans (min4_le _ _ _ _).1 ?_
        have : l * 1073741824 / c < a + 1 := by
          rw [fl_lt (by omega), Int.add_mul]; omega
        omega
    · unfold tA tB tC tD
      by_cases hc : c < 0
      · simp only [if_pos hc]
        refine Int.le_trans ?_ (le_max4 _ _ _ _).2.2.1
        have : b - 1 < cdiv (-l * 1073741824) (-d) := by
          rw [lt_ce (by omega)]
          have := Int.mul_neg (b - 1) d
          rw [this, Int.sub_mul]; omega
        omega
      · simp only [if_neg hc]
        refine Int.le_trans ?_ (le_max4 _ _ _ _).2.2.1
        have : b - 1 < cdiv (u * 1073741824) c := by
          rw [lt_ce (by omega), Int.sub_mul]; omega
        omega
/-- squares and products -/
theorem square_facts {a b : Int} (h : a ≤ b) : ((squareR a b).e = 0 ∧ 0 ≤ (squareR a b).l ∧ fok (squareR a b).l (squareR a b).h = true ∧ ((mulR a b a b).e = 0 → insideR (squareR a b).l (squareR a b).h (mulR a b a b).l (mulR a b a b).h = true)) ∨ ((squareR a b).e = 5 ∧ (mulR a b a b).e = 5) := by
  rw [squareR_eq]
  have s0 := sLo_nonneg a b
  have s1 : 0 ≤ sLo a b / 1073741824 := (le_fl (by omega)).2 (by omega)
  have s2 : min4 (a * a) (a * b) (b * a) (b * b) ≤ sLo a b := by
    obtain ⟨m1, m2, m3, m4⟩ := min4_le (a * a) (a * b) (b * a) (b * b)
    unfold sLo
    split
    · have := Int.mul_nonpos_of_nonpos_of_nonneg (a := a) (b := b) (by omega) (by omega); omega
    · omega
  have s3 : sHi a b ≤ max4 (a * a) (a * b) (b * a) (b * b) := by
    obtain ⟨m1, m2, m3, m4⟩ := le_max4 (a * a) (a * b) (b * a) (b * b)
    unfold sHi; omega
  have s4 := fl_mono (y := 1073741824) (by omega) s2
  have s5 := ce_mono (y := 1073741824) (by omega) s3
  have s6 := Int.le_trans (fl_mono (y := 1073741824) (by omega) (sLo_sHi h)) (fl_le_ce (x := sHi a b) (by omega))
  have s7 := mul_lo_hi a b a b
  obtain ⟨q, q1, q2⟩ | ⟨q, q1⟩ := fit_or (sLo a b / 1073741824) (cdiv (sHi a b) 1073741824)
  · rw [q]
    refine .inl ⟨rfl, s1, fok_mk q1 q2 s6, fun e => ?_⟩
    obtain ⟨r, r1, r2⟩ := fit_zero e
    rw [show mulR a b a b = _ from r]
    exact inside_mk (fok_mk r1 r2 s7) s4 s5 s6
  · rw [q]
    refine .inr ⟨rfl, ?_⟩
    unfold mulR
    rw [fit_no (by omega)]
/- Meets -/
theorem hullR_comm (a b c d : Int) : hullR a b c d = hullR c d a b := by unfold hullR; rw [Int.min_comm, Int.max_comm]
theorem meetR_comm (a b c d : Int) : meetR a b c d = meetR c d a b := by unfold meetR; rw [Int.min_comm, Int.max_comm]
theorem hull_in {a b c d : Int} (ha : fok a b = true) (hc : fok c d = true) : insideR a b (min a c) (max b d) = true ∧ insideR c d (min a c) (max b d) = true := by
  have k := (fok_iff _ _).1 ha
  have k' := (fok_iff _ _).1 hc
  exact ⟨inside_mk (hull_ok ha hc) (by omega) (by omega) (by omega), inside_mk (hull_ok ha hc) (by omega) (by omega) (by omega)⟩
theorem meet_facts {a b c d : Int} (ha : fok a b = true) (hc : fok c d = true) :
    ((meetR a b c d).e = 0 ∧ insideR (meetR a b c d).l (meetR a b c d).h a b = true ∧ insideR (meetR a b c d).l (meetR a b c d).h c d = true ∧ (∀ u v, insideR u v a b = true → insideR u v c d = true → insideR u v (meetR a b c d).l (meetR a b c d).h = true)) ∨
    ((meetR a b c d).e = 23 ∧ ∀ u v, insideR u v a b = true → insideR u v c d = false) := by
  have k := (fok_iff _ _).1 ha
  have k' := (fok_iff _ _).1 hc
  unfold meetR
  split
  · rename_i h
    refine .inr ⟨rfl, fun u v hu => ?_⟩
    rw [insideR_not]
    rintro ⟨h1, h2, h3, h4⟩
    obtain ⟨g1, g2, g3, g4⟩ := (insideR_iff _ _ _ _).1 hu
    have := (fok_iff _ _).1 h1
    omega
  · rename_i h
    have hm : fok (max a c) (min b d) = true := fok_mk (by omega) (by omega) (by omega)
    refine .inl ⟨rfl, inside_mk ha (by show a ≤ max a c; omega) (by show min b d ≤ b; omega) (by show max a c ≤ min b d; omega), inside_mk hc (by show c ≤ max a c; omega) (by show min b d ≤ d; omega) (by show max a c ≤ min b d; omega), fun u v hu hv => ?_⟩
    obtain ⟨g1, g2, g3, g4⟩ := (insideR_iff _ _ _ _).1 hu
    obtain ⟨i1, i2, i3, i4⟩ := (insideR_iff _ _ _ _).1 hv
    have := (fok_iff _ _).1 g1
    exact inside_mk hm (by show max a c ≤ u; omega) (by show v ≤ min b d; omega) (by omega)
end Go.Proofs.YtndcjldnnfhedaaDoor
