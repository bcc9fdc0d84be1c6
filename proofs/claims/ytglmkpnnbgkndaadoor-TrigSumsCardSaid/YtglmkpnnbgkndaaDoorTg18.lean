/- Trig: the program's sine of one angle is the one that is asked for. No run of the model here. -/
import Derived.Test.YtglmkpnnbgkndaaDoorTg17
import Derived.Test.YtglmkpnnbgkndaaDoorTg15
namespace Go.Proofs.YtglmkpnnbgkndaaDoor.L6
set_option linter.unusedVariables false
set_option maxRecDepth 100000

/-- a unit's arc, times 2^128 -/
def rad : Nat := 98984128154163587764785219737210
theorem rad_in : (rad : Rat) ≤ pq * hU ∧ pq * hU ≤ (rad : Rat) + 1 := by decide +kernel
def sinP (X : Nat) : Nat := X - pm X (pm (pm X X) (ser 1 (pm X X) 9))
def cosP (X : Nat) : Nat := 340282366920938463463374607431768211456 - pm (pm X X) (ser 0 (pm X X) 9)
theorem pq_62 : pq = p62 * 73786976294838206464 := by decide +kernel
/-- the first terms -/
theorem fct22 : p62 * (2 * ap' 1 22) ≤ 1 := by
  have h := ap_fct 22
  have p := ap_nonneg (x := 1) (by decide +kernel) 22
  have f : ((2 ^ 63 : Nat) : Rat) ≤ (fct 22 : Rat) := (Rat.natCast_le_natCast).2 (by decide +kernel)
  have a := Rat.mul_le_mul_of_nonneg_left f p
  rw [h] at a
  have q : p62 * 2 = ((2 ^ 63 : Nat) : Rat) := by decide +kernel
  have r : p62 * (2 * ap' 1 22) = ap' 1 22 * ((2 ^ 63 : Nat) : Rat) := by rw [← q]; grind
  rw [r]; exact a
theorem tail22 (w : Nat → Rat) (hw : ∀ m, -1 ≤ w m ∧ w m ≤ 1) {x : Rat} (h0 : 0 ≤ x) (h1 : x ≤ 1) : -1 ≤ p62 * tw w 32 x - p62 * tw w 22 x ∧ p62 * tw w 32 x - p62 * tw w 22 x ≤ 1 := by
  obtain ⟨t1, t2⟩ := tail_abs w hw x h0 0 22 32 (by omega)
  have r := rest_le h0 h1 22 (by omega) 32 (by omega)
  have p := ap_nonneg h0 32
  have e2 : sm (fun j => w (0 + j) * ap' x j) 22 = tw w 22 x := by unfold tw; exact sm_congr 22 (fun i _ => by rw [Nat.zero_add])
  have e3 : sm (fun j => w (0 + j) * ap' x j) 32 = tw w 32 x := by unfold tw; exact sm_congr 32 (fun i _ => by rw [Nat.zero_add])
  rw [e2, e3] at t1 t2
  have m := ap_mono h0 h1 22
  have f := fct22
  have P := p62_pos
  have k : -(2 * ap' 1 22) ≤ tw w 32 x - tw w 22 x ∧ tw w 32 x - tw w 22 x ≤ 2 * ap' 1 22 := by
    generalize tw w 32 x = a at *
    generalize tw w 22 x = b at *
    generalize tw (fun _ => 1) 32 x = c at *
    generalize tw (fun _ => 1) 22 x = d at *
    constructor <;> grind
  have k1 := Rat.mul_le_mul_of_nonneg_left k.1 (Rat.le_of_lt P)
  have k2 := Rat.mul_le_mul_of_nonneg_left k.2 (Rat.le_of_lt P)
  generalize tw w 32 x = a at *
  generalize tw w 22 x = b at *
  generalize ap' 1 22 = c at *
  generalize p62 = p at *
  constructor <;> grind
theorem pq_one : pq * 1 = ((340282366920938463463374607431768211456 : Nat) : Rat) := by decide +kernel
theorem of_pq {x y : Rat} {e : Rat} (h : -e ≤ pq * x - pq * y ∧ pq * x - pq * y ≤ e) (he : e ≤ 73786976294838206464) : -1 ≤ p62 * x - p62 * y ∧ p62 * x - p62 * y ≤ 1 := by
  rw [pq_62] at h
  have c : (0 : Rat) < 73786976294838206464 := by decide +kernel
  constructor
  · refine Rat.le_of_mul_le_mul_right (c := 73786976294838206464) ?_ c
    grind
  · refine Rat.le_of_mul_le_mul_right (c := 73786976294838206464) ?_ c
    grind
theorem floor66 {A : Nat} {x e : Rat} (h : -e ≤ (A : Rat) - pq * x ∧ (A : Rat) - pq * x ≤ e) (he : e ≤ 73786976294838206464) : -2 ≤ ((A / 73786976294838206464 : Nat) : Rat) - p62 * x ∧ ((A / 73786976294838206464 : Nat) : Rat) - p62 * x ≤ 2 := by
  have d1 := Nat.div_mul_le_self A 73786976294838206464
  have d2 := Nat.lt_div_mul_add (a := A) (b := 73786976294838206464) (by omega)
  have r1 := (Rat.natCast_le_natCast).2 d1
  have r2 := (Rat.natCast_le_natCast).2 (Nat.le_of_lt d2)
  rw [Rat.natCast_mul] at r1
  rw [Rat.natCast_add, Rat.natCast_mul] at r2
  change _ * (73786976294838206464 : Rat) ≤ _ at r1
  change _ ≤ _ * (73786976294838206464 : Rat) + (73786976294838206464 : Rat) at r2
  rw [pq_62] at h
  have c : (0 : Rat) < 73786976294838206464 := by decide +kernel
  generalize ((A / 73786976294838206464 : Nat) : Rat) = q at *
  generalize (A : Rat) = a at *
  clear d1 d2
  generalize p62 = p at *
  constructor
  · refine Rat.le_of_mul_le_mul_right (c := 73786976294838206464) ?_ c
    grind
  · refine Rat.le_of_mul_le_mul_right (c := 73786976294838206464) ?_ c
    grind
theorem X_le (r : Nat) (h : r ≤ 2700000) : rad * r ≤ 340282366920938463463374607431768211455 := by
  have e : rad * 2700000 ≤ 340282366920938463463374607431768211455 := by decide +kernel
  exact Nat.le_trans (Nat.mul_le_mul_left rad h) e
theorem S_le (X : Nat) (h : X ≤ 340282366920938463463374607431768211455) : pm X X ≤ X := pm_le X X (by omega)
/-- the series, near -/
theorem two_near (f X : Nat) (x : Rat) (hX : X ≤ 340282366920938463463374607431768211455) (x0 : 0 ≤ x) (ex : (X : Rat) = pq * x) :
    -70 ≤ (pm (pm X X) (ser f (pm X X) 9) : Rat) - pq * (x * x * hp f (x * x) 9) ∧ (pm (pm X X) (ser f (pm X X) 9) : Rat) - pq * (x * x * hp f (x * x) 9) ≤ 70 := by
  have x1 := pq_le ex (by omega)
  have s0 : 0 ≤ x * x := Rat.mul_nonneg x0 x0
  have s1 : x * x ≤ 1 := by have := Rat.mul_le_mul_of_nonneg_left x1 x0; grind
  have S1 : pm X X ≤ 340282366920938463463374607431768211456 := by have := S_le X hX; omega
  obtain ⟨h1, h2⟩ := pm_frac ex ex
  have n := ser_near f (pm X X) (x * x) S1 s0 s1 h1 h2 9 (by omega)
  have e : (7 : Rat) * ((9 : Nat) : Rat) + 1 = 64 := by decide +kernel
  rw [e] at n
  have ql : ser f (pm X X) 9 ≤ 340282366920938463463374607431768211456 := Nat.le_trans (ser_le f _ 9) (cf_le _)
  have m := pm_near (a := pm X X) (b := ser f (pm X X) 9) (x := x * x) (y := hp f (x * x) 9) (d := 3) (e := 64) s0 s1 ql ⟨by grind, by grind⟩ n
  constructor <;> grind
theorem sin_fit (X : Nat) (hX : X ≤ 340282366920938463463374607431768211455) (q : Nat) (hq : q ≤ 340282366920938463463374607431768211456) : pm X q ≤ X := by
  have h1 := (pm_in X q).1
  have h2 := Nat.mul_le_mul_left X hq
  omega
theorem in_le (f X : Nat) (hX : X ≤ 340282366920938463463374607431768211455) : pm (pm X X) (ser f (pm X X) 9) ≤ cf f := by
  have a := pm_le (pm X X) (ser f (pm X X) 9) (by have := S_le X hX; omega)
  have b := ser_le f (pm X X) 9
  rw [show f + 18 - 2 * 9 = f by omega] at b
  omega
theorem sinP_fit (X : Nat) (hX : X ≤ 340282366920938463463374607431768211455) : pm X (pm (pm X X) (ser 1 (pm X X) 9)) ≤ X :=
  sin_fit X hX _ (Nat.le_trans (in_le 1 X hX) (cf_le 1))
theorem sinP_near (X : Nat) (x : Rat) (hX : X ≤ 340282366920938463463374607431768211455) (x0 : 0 ≤ x) (ex : (X : Rat) = pq * x) : -100 ≤ (sinP X : Rat) - pq * sT 22 x ∧ (sinP X : Rat) - pq * sT 22 x ≤ 100 := by
  have x1 := pq_le ex (by omega)
  have t := two_near 1 X x hX x0 ex
  have il := Nat.le_trans (in_le 1 X hX) (cf_le 1)
  have m := pm_near (a := X) (b := pm (pm X X) (ser 1 (pm X X) 9)) (x := x) (y := x * x * hp 1 (x * x) 9) (d := 0) (e := 70) x0 x1 il ⟨by grind, by grind⟩ t
  have fit := sinP_fit X hX
  have e4 : (sinP X : Rat) = (X : Rat) - (pm X (pm (pm X X) (ser 1 (pm X X) 9)) : Rat) := by
    have : ((sinP X + pm X (pm (pm X X) (ser 1 (pm X X) 9)) : Nat) : Rat) = (X : Rat) := by unfold sinP; rw [Nat.sub_add_cancel fit]
    rw [Rat.natCast_add] at this
    grind
  rw [e4, s_horner, ex]
  have e5 : pq * (x - x * (x * x * hp 1 (x * x) 9)) = pq * x - pq * (x * (x * x * hp 1 (x * x) 9)) := by grind
  rw [e5]
  clear e4 e5 fit il t
  generalize (pm X (pm (pm X X) (ser 1 (pm X X) 9)) : Rat) = u at *
  generalize pq * (x * (x * x * hp 1 (x * x) 9)) = v at *
  constructor <;> grind
theorem cosP_near (X : Nat) (x : Rat) (hX : X ≤ 340282366920938463463374607431768211455) (x0 : 0 ≤ x) (ex : (X : Rat) = pq * x) : -100 ≤ (cosP X : Rat) - pq * cT 22 x ∧ (cosP X : Rat) - pq * cT 22 x ≤ 100 := by
  have t := two_near 0 X x hX x0 ex
  have fit := Nat.le_trans (in_le 0 X hX) (cf_le 0)
  have e4 : (cosP X : Rat) = pq * 1 - (pm (pm X X) (ser 0 (pm X X) 9) : Rat) := by
    have : ((cosP X + pm (pm X X) (ser 0 (pm X X) 9) : Nat) : Rat) = pq * 1 := by unfold cosP; rw [Nat.sub_add_cancel fit, pq_one]
    rw [Rat.natCast_add] at this
    grind
  rw [e4, c_horner]
  have e5 : pq * (1 - x * x * hp 0 (x * x) 9) = pq * 1 - pq * (x * x * hp 0 (x * x) 9) := by grind
  rw [e5]
  clear e4 e5 fit
  generalize (pm (pm X X) (ser 0 (pm X X) 9) : Rat) = u at *
  generalize pq * (x * x * hp 0 (x * x) 9) = v at *
  constructor <;> grind
theorem p62kq : p62 * kq ≤ 1 := by decide +kernel
theorem arc_near {p h x R r : Rat} (P : 0 < p) (r1 : R ≤ p * h) (r2 : p * h ≤ R + 1) (r0 : 0 ≤ r) (rl : r ≤ 3000000) (e : R * r = p * x) : x ≤ r * h ∧ p * (r * h) - p * x ≤ 3000000 := by
  have a1 := Rat.mul_le_mul_of_nonneg_right r1 r0
  have a2 := Rat.mul_le_mul_of_nonneg_right r2 r0
  constructor
  · refine Rat.le_of_mul_le_mul_left (c := p) ?_ P
    grind
  · grind
theorem lip_q {p a b x y : Rat} (P : 0 < p) (l1 : -(3 * (x - y)) ≤ a - b) (l2 : a - b ≤ 3 * (x - y)) (d : p * x - p * y ≤ 3000000) : -9000000 ≤ p * a - p * b ∧ p * a - p * b ≤ 9000000 := by
  have k1 := Rat.mul_le_mul_of_nonneg_left l1 (Rat.le_of_lt P)
  have k2 := Rat.mul_le_mul_of_nonneg_left l2 (Rat.le_of_lt P)
  constructor <;> grind
theorem three_near {A p z k u v w : Rat} (P : 0 ≤ p) (kk : p * k ≤ 1) (l : -k ≤ u - z ∧ u - z ≤ k) (l1 : -1 ≤ p * u - p * v ∧ p * u - p * v ≤ 1) (t : -1 ≤ p * v - p * w ∧ p * v - p * w ≤ 1) (s : -2 ≤ A - p * w ∧ A - p * w ≤ 2) : -6 ≤ A - p * z ∧ A - p * z ≤ 6 := by
  have m1 := Rat.mul_le_mul_of_nonneg_left l.1 P
  have m2 := Rat.mul_le_mul_of_nonneg_left l.2 P
  constructor <;> grind
/-- the program's sines and cosines, times 2^62 -/
theorem prog_near (r : Nat) (h : r ≤ 2700000) : (-6 ≤ ((sinP (rad * r) / 73786976294838206464 : Nat) : Rat) - p62 * sz r ∧ ((sinP (rad * r) / 73786976294838206464 : Nat) : Rat) - p62 * sz r ≤ 6) ∧
    (-6 ≤ ((cosP (rad * r) / 73786976294838206464 : Nat) : Rat) - p62 * cz r ∧ ((cosP (rad * r) / 73786976294838206464 : Nat) : Rat) - p62 * cz r ≤ 6) := by
  have hX := X_le r h
  obtain ⟨X, hXe⟩ : ∃ X, rad * r = X := ⟨_, rfl⟩
  have hXr : (rad : Rat) * (r : Rat) = (X : Rat) := by rw [← hXe, Rat.natCast_mul]
  rw [hXe] at hX
  rw [hXe]
  clear hXe
  obtain ⟨x, x0, ex⟩ := pq_frac X
  have x1 := pq_le ex (Nat.le_succ_of_le hX)
  have r0 : (0 : Rat) ≤ (r : Rat) := Rat.natCast_nonneg
  have rl := (Rat.natCast_le_natCast (a := r) (b := 3000000)).2 (by omega)
  have c3 : ((3000000 : Nat) : Rat) = 3000000 := rfl
  rw [c3] at rl
  have y1 : (r : Rat) * hU ≤ 1 := by
    have h1 := Rat.mul_le_mul_of_nonneg_right rl hU_in.1
    have h3 := hU_in.2
    rw [Rat.mul_comm hU] at h3
    exact Rat.le_trans h1 h3
  have P := pq_pos
  obtain ⟨xy, dd⟩ := arc_near P rad_in.1 rad_in.2 r0 rl (hXr.trans ex)
  have ls := lip3 ws ws_in x0 xy y1
  have lc := lip3 wc wc_in x0 xy y1
  have l1 := of_pq (x := tw ws 32 ((r : Rat) * hU)) (y := tw ws 32 x) (e := 9000000) (lip_q P ls.1 ls.2 dd) (by decide +kernel)
  have l2 := of_pq (x := tw wc 32 ((r : Rat) * hU)) (y := tw wc 32 x) (e := 9000000) (lip_q P lc.1 lc.2 dd) (by decide +kernel)
  have t1 := tail22 ws ws_in x0 x1
  have t2 := tail22 wc wc_in x0 x1
  have s := floor66 (sinP_near _ x hX x0 ex) (by decide +kernel)
  have c := floor66 (cosP_near _ x hX x0 ex) (by decide +kernel)
  obtain ⟨q1, q2⟩ := link r (by omega)
  exact ⟨three_near (Rat.le_of_lt p62_pos) p62kq q2 l1 t1 s, three_near (Rat.le_of_lt p62_pos) p62kq q1 l2 t2 c⟩

/-- the program's number of an angle between 0 and a quarter -/
def irr (m : Nat) : Nat := if 2700000 < m then cosP (rad * (5400000 - m)) else sinP (rad * m)
def dirH (n : Int) : Int := if 10800000 ≤ mT n then mT n - 10800000 else mT n
def dirM (n : Int) : Int := min (dirH n) (10800000 - dirH n)
theorem dirM_in (n : Int) : 0 ≤ dirM n ∧ dirM n ≤ 5400000 ∧ 0 ≤ dirH n ∧ dirH n < 10800000 := by
  have := m_in n
  unfold dirM dirH
  split <;> omega
theorem p62et : p62 * (((2 : Nat) : Rat) * et) ≤ 1 := by decide +kernel
theorem irr_near (n : Int) : -8 ≤ ((irr (dirM n).toNat / 73786976294838206464 : Nat) : Rat) - p62 * bs n ∧ ((irr (dirM n).toNat / 73786976294838206464 : Nat) : Rat) - p62 * bs n ≤ 8 := by
  obtain ⟨h1, h2, q0, q3, em⟩ := rd_in n
  have hr := rr_in n
  have er := rr_int n
  obtain ⟨ps, pc⟩ := prog_near (rr n) hr
  have hc : co n = xor (decide (qd n % 2 = 1)) (far n) := rfl
  have hf : far n = decide (2700000 < rd n) := rfl
  have ed : dirM n = if qd n % 2 = 1 then 5400000 - rd n else rd n := by
    unfold dirM dirH
    rcases (show qd n = 0 ∨ qd n = 1 ∨ qd n = 2 ∨ qd n = 3 by omega) with q | q | q | q <;> rw [q] at em ⊢
    · rw [if_neg (by omega), if_neg (by decide)]; omega
    · rw [if_neg (by omega), if_pos (by decide)]; omega
    · rw [if_pos (by omega), if_neg (by decide)]; omega
    · rw [if_pos (by omega), if_pos (by decide)]; omega
  unfold bs irr
  by_cases odd : qd n % 2 = 1
  · rw [if_pos odd] at ed
    rw [decide_eq_true odd] at hc
    by_cases c : 2700000 < rd n
    · rw [decide_eq_true c] at hf
      rw [hf] at hc er
      rw [if_pos rfl] at er
      have m : (dirM n).toNat = rr n := by omega
      rw [m, if_neg (by omega), hc, if_neg (by decide)]
      constructor <;> grind
    · rw [decide_eq_false c] at hf
      rw [hf] at hc er
      rw [if_neg (by decide)] at er
      rw [hc, if_pos (show (true ^^ false) = true from rfl)]
      by_cases t : 2700000 < (dirM n).toNat
      · rw [if_pos t]
        have m : 5400000 - (dirM n).toNat = rr n := by omega
        rw [m]
        constructor <;> grind
      · rw [if_neg t]
        have m : (dirM n).toNat = rr n := by omega
        have k : (rr n : Int) = 2700000 := by omega
        rw [m]
        have q := (quarter_sub (rr n)).1
        rw [k, show (5400000 : Int) - 2700000 = 2700000 from rfl] at q
        rw [k] at ps ⊢
        unfold Nr at q
        have P := Rat.le_of_lt p62_pos
        have m1 := Rat.mul_le_mul_of_nonneg_left q.1 P
        have m2 := Rat.mul_le_mul_of_nonneg_left q.2 P
        have z := p62et
        generalize ((2 : Nat) : Rat) * et = e at *
        generalize sz 2700000 = z1 at *
        generalize cz 2700000 = z2 at *
        generalize ((sinP (rad * rr n) / 73786976294838206464 : Nat) : Rat) = A at *
        generalize p62 = p at *
        constructor <;> grind
  · rw [if_neg odd] at ed
    rw [decide_eq_false odd] at hc
    by_cases c : 2700000 < rd n
    · rw [decide_eq_true c] at hf
      rw [hf] at hc er
      rw [if_pos rfl] at er
      have m : 5400000 - (dirM n).toNat = rr n := by omega
      rw [if_pos (by omega), m, hc, if_pos (by decide)]
      constructor <;> grind
    · rw [decide_eq_false c] at hf
      rw [hf] at hc er
      rw [if_neg (by decide)] at er
      have m : (dirM n).toNat = rr n := by omega
      rw [if_neg (by omega), m, hc, if_neg (by decide)]
      constructor <;> grind
/-- the answers for one angle up to half a turn -/
def upD (m : Int) : Int := if m = 0 then 0 else if m = 1800000 then 536870912 else if m = 5400000 then 1073741824 else ((irr m.toNat / 316912650057057350374175801344 : Nat) : Int)
def upU (m : Int) : Int := if m = 0 then 0 else if m = 1800000 then 536870912 else if m = 5400000 then 1073741824 else ((irr m.toNat / 316912650057057350374175801344 : Nat) : Int) + 1
theorem div98 (A : Nat) : ((A / 316912650057057350374175801344 : Nat) : Int) = ((A / 73786976294838206464 : Nat) : Int) / 4294967296 := by
  have : A / 316912650057057350374175801344 = A / 73786976294838206464 / 4294967296 := by
    rw [Nat.div_div_eq_div_mul]
  rw [this]; rfl
theorem neg_div' (v : Int) : (-v - 1) / 4294967296 = -(v / 4294967296) - 1 := by omega
theorem up_eq (n : Int) : (mT n < 10800000 → lo n = upD (dirM n) ∧ hi n = upU (dirM n)) ∧ (10800000 ≤ mT n → lo n = -upU (dirM n) ∧ hi n = -upD (dirM n)) := by
  have hm := m_in n
  obtain ⟨d1, d2, d3, d4⟩ := dirM_in n
  obtain ⟨h1, h2, q0, q3, em⟩ := rd_in n
  by_cases e : ex n = true
  · have hx := (ex_iff n).1 e
    have fe : fl n = exV (mT n / 1800000) := by unfold fl; rw [if_pos e]
    have l : lo n = exV (mT n / 1800000) := fe
    have u : hi n = exV (mT n / 1800000) := by unfold hi; rw [if_pos e]; exact fe
    rw [l, u]
    have k : mT n = 1800000 * (mT n / 1800000) := by omega
    have kl : 0 ≤ mT n / 1800000 ∧ mT n / 1800000 ≤ 11 := by omega
    unfold dirM dirH
    generalize mT n / 1800000 = j at *
    rcases (show j = 0 ∨ j = 1 ∨ j = 3 ∨ j = 5 ∨ j = 6 ∨ j = 7 ∨ j = 9 ∨ j = 11 by omega) with rfl | rfl | rfl | rfl | rfl | rfl | rfl | rfl <;> rw [k] <;> decide
  · have e' : ex n = false := by simpa using e
    have nx : ¬ (mT n % 1800000 = 0 ∧ mT n / 1800000 % 6 ≠ 2 ∧ mT n / 1800000 % 6 ≠ 4) := fun c => e ((ex_iff n).2 c)
    have u : hi n = fl n + 1 := by unfold hi; rw [if_neg e]
    have ne : dirM n ≠ 0 ∧ dirM n ≠ 1800000 ∧ dirM n ≠ 5400000 := by
      unfold dirM dirH
      split <;> refine ⟨?_, ?_, ?_⟩ <;> intro c <;> apply nx <;> omega
    have eD : upD (dirM n) = ((irr (dirM n).toNat / 316912650057057350374175801344 : Nat) : Int) := by unfold upD; rw [if_neg ne.1, if_neg ne.2.1, if_neg ne.2.2]
    have eU : upU (dirM n) = ((irr (dirM n).toNat / 316912650057057350374175801344 : Nat) : Int) + 1 := by unfold upU; rw [if_neg ne.1, if_neg ne.2.1, if_neg ne.2.2]
    rw [eD, eU, div98, u]
    show (_ → fl n = _ ∧ _) ∧ (_ → fl n = _ ∧ _)
    have N := irr_near n
    have c9 : ((9 : Nat) : Rat) = 9 := rfl
    have c1 : ((1 : Int) : Rat) = 1 := rfl
    constructor
    · intro c
      have q : ¬ 2 ≤ qd n := by omega
      have s : sgn n (bs n) = bs n := by unfold sgn; rw [if_neg q]
      have f := (fl_of n e' ((irr (dirM n).toNat / 73786976294838206464 : Nat) : Int) 9 (by omega) (by rw [s, c9, Rat.intCast_natCast]; constructor <;> grind)).1
      rw [f]
      exact ⟨rfl, rfl⟩
    · intro c
      have q : 2 ≤ qd n := by omega
      have s : sgn n (bs n) = -bs n := by unfold sgn; rw [if_pos q]
      have f := (fl_of n e' (-((irr (dirM n).toNat / 73786976294838206464 : Nat) : Int) - 1) 9 (by omega) (by rw [s, c9, Rat.intCast_sub, Rat.intCast_neg, Rat.intCast_natCast, c1]; constructor <;> grind)).1
      rw [neg_div'] at f
      rw [← f]
      constructor <;> omega
end Go.Proofs.YtglmkpnnbgkndaaDoor.L6
