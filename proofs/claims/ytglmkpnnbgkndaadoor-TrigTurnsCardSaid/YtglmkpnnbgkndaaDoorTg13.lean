/- Trig: the floors of sines: what the reference's Floor answers, and what it says of the sine. No run of the model here. -/
import Derived.Test.YtglmkpnnbgkndaaDoorTg12
namespace Go.Proofs.YtglmkpnnbgkndaaDoor.L6
set_option linter.unusedVariables false
set_option maxRecDepth 100000

/-- the exact values, and where they are -/
def exV (k : Int) : Int :=
  if k = 1 ∨ k = 5 then 536870912 else if k = 3 then 1073741824 else if k = 7 ∨ k = 11 then -536870912 else if k = 9 then -1073741824 else 0
def ex (n : Int) : Bool := decide (mT n % 1800000 = 0) && !(decide (mT n / 1800000 % 6 = 2) || decide (mT n / 1800000 % 6 = 4))
theorem ex_iff (n : Int) : ex n = true ↔ (mT n % 1800000 = 0 ∧ mT n / 1800000 % 6 ≠ 2 ∧ mT n / 1800000 % 6 ≠ 4) := by
  unfold ex
  simp
/-- the quick sine of any angle, times 2^62 -/
def vk (n : Int) : Int := if co n = true then cosN (xN (rr n)) else sinN (xN (rr n))
def qk (n : Int) : Int := if 2 ≤ qd n then -vk n else vk n
/-- One times the sine, rounded down -/
def fl (n : Int) : Int := if ex n = true then exV (mT n / 1800000) else qk n / 4294967296
theorem qk_near (n : Int) : -140 ≤ (qk n : Rat) - p62 * sgn n (bs n) ∧ (qk n : Rat) - p62 * sgn n (bs n) ≤ 140 := by
  have h := quick_near (rr n) (rr_in n)
  have v : -140 ≤ (vk n : Rat) - p62 * bs n ∧ (vk n : Rat) - p62 * bs n ≤ 140 := by
    unfold vk bs
    by_cases c : co n = true
    · rw [if_pos c, if_pos c]; exact h.2
    · rw [if_neg c, if_neg c]; exact h.1
  unfold qk sgn
  by_cases c : 2 ≤ qd n
  · rw [if_pos c, if_pos c, Rat.intCast_neg]
    constructor <;> grind
  · rw [if_neg c, if_neg c]; exact v
theorem Mg.neg {x : Rat} (h : Mg x) : Mg (-x) := by
  obtain ⟨F, h1, h2⟩ := h
  refine ⟨-F - 1, ?_, ?_⟩
  · rw [Rat.intCast_sub, Rat.intCast_neg]
    have : ((1 : Int) : Rat) = 1 := rfl
    grind
  · rw [Rat.intCast_sub, Rat.intCast_neg]
    have : ((1 : Int) : Rat) = 1 := rfl
    grind
theorem mg_bs (n : Int) (h : ex n = false) : Mg (bs n) := by
  have hx : ¬ ex n = true := by rw [h]; simp
  rw [ex_iff] at hx
  obtain ⟨h1, h2, q0, q3, em⟩ := rd_in n
  have e := rr_int n
  have hr := rr_in n
  have hf : far n = decide (2700000 < rd n) := rfl
  have hc : co n = xor (decide (qd n % 2 = 1)) (far n) := rfl
  have r0 : rr n ≠ 0 := by
    intro k
    rw [k] at e
    apply hx
    cases hfar : far n
    · rw [hfar, if_neg (by simp)] at e
      omega
    · rw [hfar, if_pos rfl] at e
      omega
  unfold bs
  by_cases c : co n = true
  · rw [if_pos c]
    by_cases k : rr n = 1800000
    · rw [k]; exact third_c
    · exact (margin (rr n) (by omega) (by omega) (by omega)).2
  · rw [if_neg c]
    have k : rr n ≠ 1800000 := by
      intro k
      rw [k] at e
      apply hx
      have c : co n = false := by simpa using c
      rw [hc] at c
      cases hfar : far n
      · rw [hfar, if_neg (by simp)] at e
        rw [hfar, Bool.xor_false] at c
        have := of_decide_eq_false c
        omega
      · rw [hfar, if_pos rfl] at e
        rw [hfar, Bool.xor_true] at c
        have : qd n % 2 = 1 := by simpa using c
        omega
    exact (margin (rr n) (by omega) (by omega) (by omega)).1
theorem mg_sgn (n : Int) (h : ex n = false) : Mg (sgn n (bs n)) := by
  have := mg_bs n h
  unfold sgn
  split
  · exact this.neg
  · exact this
theorem floor_eq {v F : Int} (h1 : F * 4294967296 ≤ v) (h2 : v < (F + 1) * 4294967296) : v / 4294967296 = F := by omega
/-- a number near to 2^62 times a sine, rounded down -/
theorem fl_of (n : Int) (h : ex n = false) (v : Int) (d : Nat) (hd : d ≤ 1378) (hv : -(d : Rat) ≤ (v : Rat) - p62 * sgn n (bs n) ∧ (v : Rat) - p62 * sgn n (bs n) ≤ (d : Rat)) :
    v / 4294967296 = fl n ∧ ((fl n : Rat) + dl ≤ 1073741824 * sgn n (bs n) ∧ 1073741824 * sgn n (bs n) ≤ (fl n : Rat) + 1 - dl) := by
  have key : ∀ (F : Int), (F : Rat) + dl ≤ 1073741824 * sgn n (bs n) → 1073741824 * sgn n (bs n) ≤ (F : Rat) + 1 - dl → ∀ (v : Int) (d : Nat), d ≤ 1378 → -(d : Rat) ≤ (v : Rat) - p62 * sgn n (bs n) → (v : Rat) - p62 * sgn n (bs n) ≤ (d : Rat) → v / 4294967296 = F := by
    intro F f1 f2 v d hd v1 v2
    have hp : p62 = 4294967296 * 1073741824 := by decide +kernel
    have hdl : 4294967296 * dl = 1379 := by decide +kernel
    have hd' : (d : Rat) ≤ 1378 := (Rat.natCast_le_natCast (a := d) (b := 1378)).2 hd
    rw [hp] at v1 v2
    have a1 : ((F * 4294967296 : Int) : Rat) ≤ ((v : Int) : Rat) := by
      rw [Rat.intCast_mul]
      have : ((4294967296 : Int) : Rat) = 4294967296 := rfl
      rw [this]
      grind
    have a2 : ((v + 1 : Int) : Rat) ≤ (((F + 1) * 4294967296 : Int) : Rat) := by
      rw [Rat.intCast_mul, Rat.intCast_add, Rat.intCast_add]
      have : ((4294967296 : Int) : Rat) = 4294967296 := rfl
      have h1 : ((1 : Int) : Rat) = 1 := rfl
      rw [this, h1]
      grind
    have b1 := Rat.intCast_le_intCast.1 a1
    have b2 := Rat.intCast_le_intCast.1 a2
    exact floor_eq b1 (by omega)
  obtain ⟨F, f1, f2⟩ := mg_sgn n h
  have e1 : qk n / 4294967296 = F := key F f1 f2 (qk n) 140 (by omega) (qk_near n).1 (qk_near n).2
  have e2 : fl n = F := by unfold fl; rw [if_neg (by rw [h]; simp)]; exact e1
  rw [e2]
  exact ⟨key F f1 f2 v d hd hv.1 hv.2, f1, f2⟩
/-- the reference's first test always decides -/
theorem qk_decides (n : Int) (h : ex n = false) : (qk n - 256) / 4294967296 = fl n ∧ (qk n + 256) / 4294967296 = fl n ∧ qk n / 4294967296 = fl n := by
  obtain ⟨q1, q2⟩ := qk_near n
  have c : ((256 : Int) : Rat) = 256 := rfl
  have d1 : ((396 : Nat) : Rat) = 396 := rfl
  refine ⟨(fl_of n h _ 396 (by omega) ?_).1, (fl_of n h _ 396 (by omega) ?_).1, (fl_of n h _ 140 (by omega) ⟨q1, q2⟩).1⟩
  · rw [Rat.intCast_sub, c, d1]; constructor <;> grind
  · rw [Rat.intCast_add, c, d1]; constructor <;> grind
theorem nr_nine {x v : Rat} (h : -et ≤ x - v ∧ x - v ≤ et) : Nr 9 x v := by
  obtain ⟨t1, t2⟩ := h
  have p := et_pos
  unfold Nr
  have : ((9 : Nat) : Rat) = 9 := rfl
  rw [this]
  constructor <;> grind
/-- what the floor says of the sine: exact values -/
theorem ex_val (n : Int) (h : ex n = true) : Nr 9 (sgn n (bs n)) ((exV (mT n / 1800000) : Rat) / 1073741824) := by
  rw [ex_iff] at h
  obtain ⟨h0, h1, h2⟩ := h
  have hm := m_in n
  obtain ⟨k, hk⟩ : ∃ k, mT n / 1800000 = k := ⟨_, rfl⟩
  have em : mT n = 1800000 * k := by omega
  rw [hk] at h1 h2 ⊢
  have kk : k = 0 ∨ k = 1 ∨ k = 3 ∨ k = 5 ∨ k = 6 ∨ k = 7 ∨ k = 9 ∨ k = 11 := by omega
  have th : Nr 9 (sz 1800000) (1 / 2) := nr_nine third
  have val : ∀ (q r : Int), qd n = q → rd n = r → ∀ (f c : Bool) (s : Nat), far n = f → co n = c → rr n = s → sgn n (bs n) = if 2 ≤ q then -(if c = true then cz s else sz s) else (if c = true then cz s else sz s) := by
    intro q r hq hr f c s hf hc hs
    unfold sgn bs
    rw [hq, hc, hs]
  have parts : ∀ q r : Int, mT n = 5400000 * q + r → 0 ≤ r → r < 5400000 → qd n = q ∧ rd n = r := by
    intro q r e r0 r1
    unfold qd rd
    rw [e]
    omega
  have flags : ∀ (q r : Int), qd n = q ∧ rd n = r → far n = decide (2700000 < r) ∧ co n = xor (decide (q % 2 = 1)) (decide (2700000 < r)) ∧ rr n = (if 2700000 < r then 5400000 - r else r).toNat := by
    rintro q r ⟨hq, hr⟩
    have hf : far n = decide (2700000 < r) := by unfold far; rw [hr]
    refine ⟨hf, by unfold co; rw [hq, hf], ?_⟩
    unfold rr
    rw [hf, hr]
    by_cases c : 2700000 < r
    · rw [if_pos (by simpa using c), if_pos c]
    · rw [if_neg (by simpa using c), if_neg c]
  have c18 : (((1800000 : Nat)) : Int) = 1800000 := rfl
  have c0 : (((0 : Nat)) : Int) = 0 := rfl
  rcases kk with rfl | rfl | rfl | rfl | rfl | rfl | rfl | rfl
  · have p := parts 0 0 (by omega) (by omega) (by omega)
    obtain ⟨f1, f2, f3⟩ := flags _ _ p
    have g : (if 2700000 < (0 : Int) then 5400000 - (0 : Int) else 0).toNat = 0 := by decide
    rw [g] at f3
    have g1 : decide (2700000 < (0 : Int)) = false := by decide
    have g2 : xor (decide ((0 : Int) % 2 = 1)) (decide (2700000 < (0 : Int))) = false := by decide
    rw [g1] at f1
    rw [g2] at f2
    have e : ((exV 0 : Int) : Rat) / 1073741824 = 0 := by decide +kernel
    rw [val 0 0 p.1 p.2 false false 0 f1 f2 f3, e, if_neg (by omega), if_neg (by simp), c0]
    rw [sz_zero]
    exact Nr.refl _ _
  · have p := parts 0 1800000 (by omega) (by omega) (by omega)
    obtain ⟨f1, f2, f3⟩ := flags _ _ p
    have g : (if 2700000 < (1800000 : Int) then 5400000 - (1800000 : Int) else 1800000).toNat = 1800000 := by decide
    rw [g] at f3
    have g1 : decide (2700000 < (1800000 : Int)) = false := by decide
    have g2 : xor (decide ((0 : Int) % 2 = 1)) (decide (2700000 < (1800000 : Int))) = false := by decide
    rw [g1] at f1
    rw [g2] at f2
    have e : ((exV 1 : Int) : Rat) / 1073741824 = 1 / 2 := by decide +kernel
    rw [val 0 1800000 p.1 p.2 false false 1800000 f1 f2 f3, e, if_neg (by omega), if_neg (by simp), c18]
    exact th
  · have p := parts 1 0 (by omega) (by omega) (by omega)
    obtain ⟨f1, f2, f3⟩ := flags _ _ p
    have g : (if 2700000 < (0 : Int) then 5400000 - (0 : Int) else 0).toNat = 0 := by decide
    rw [g] at f3
    have g1 : decide (2700000 < (0 : Int)) = false := by decide
    have g2 : xor (decide ((1 : Int) % 2 = 1)) (decide (2700000 < (0 : Int))) = true := by decide
    rw [g1] at f1
    rw [g2] at f2
    have e : ((exV 3 : Int) : Rat) / 1073741824 = 1 := by decide +kernel
    rw [val 1 0 p.1 p.2 false true 0 f1 f2 f3, e, if_neg (by omega), if_pos rfl, c0]
    rw [cz_zero]
    exact Nr.refl _ _
  · have p := parts 1 3600000 (by omega) (by omega) (by omega)
    obtain ⟨f1, f2, f3⟩ := flags _ _ p
    have g : (if 2700000 < (3600000 : Int) then 5400000 - (3600000 : Int) else 3600000).toNat = 1800000 := by decide
    rw [g] at f3
    have g1 : decide (2700000 < (3600000 : Int)) = true := by decide
    have g2 : xor (decide ((1 : Int) % 2 = 1)) (decide (2700000 < (3600000 : Int))) = false := by decide
    rw [g1] at f1
    rw [g2] at f2
    have e : ((exV 5 : Int) : Rat) / 1073741824 = 1 / 2 := by decide +kernel
    rw [val 1 3600000 p.1 p.2 true false 1800000 f1 f2 f3, e, if_neg (by omega), if_neg (by simp), c18]
    exact th
  · have p := parts 2 0 (by omega) (by omega) (by omega)
    obtain ⟨f1, f2, f3⟩ := flags _ _ p
    have g : (if 2700000 < (0 : Int) then 5400000 - (0 : Int) else 0).toNat = 0 := by decide
    rw [g] at f3
    have g1 : decide (2700000 < (0 : Int)) = false := by decide
    have g2 : xor (decide ((2 : Int) % 2 = 1)) (decide (2700000 < (0 : Int))) = false := by decide
    rw [g1] at f1
    rw [g2] at f2
    have e : ((exV 6 : Int) : Rat) / 1073741824 = 0 := by decide +kernel
    rw [val 2 0 p.1 p.2 false false 0 f1 f2 f3, e, if_pos (by omega), if_neg (by simp), c0]
    rw [sz_zero]
    have z : -(0 : Rat) = 0 := by decide +kernel
    rw [z]
    exact Nr.refl _ _
  · have p := parts 2 1800000 (by omega) (by omega) (by omega)
    obtain ⟨f1, f2, f3⟩ := flags _ _ p
    have g : (if 2700000 < (1800000 : Int) then 5400000 - (1800000 : Int) else 1800000).toNat = 1800000 := by decide
    rw [g] at f3
    have g1 : decide (2700000 < (1800000 : Int)) = false := by decide
    have g2 : xor (decide ((2 : Int) % 2 = 1)) (decide (2700000 < (1800000 : Int))) = false := by decide
    rw [g1] at f1
    rw [g2] at f2
    have e : ((exV 7 : Int) : Rat) / 1073741824 = -(1 / 2) := by decide +kernel
    rw [val 2 1800000 p.1 p.2 false false 1800000 f1 f2 f3, e, if_pos (by omega), if_neg (by simp), c18]
    exact th.neg
  · have p := parts 3 0 (by omega) (by omega) (by omega)
    obtain ⟨f1, f2, f3⟩ := flags _ _ p
    have g : (if 2700000 < (0 : Int) then 5400000 - (0 : Int) else 0).toNat = 0 := by decide
    rw [g] at f3
    have g1 : decide (2700000 < (0 : Int)) = false := by decide
    have g2 : xor (decide ((3 : Int) % 2 = 1)) (decide (2700000 < (0 : Int))) = true := by decide
    rw [g1] at f1
    rw [g2] at f2
    have e : ((exV 9 : Int) : Rat) / 1073741824 = -1 := by decide +kernel
    rw [val 3 0 p.1 p.2 false true 0 f1 f2 f3, e, if_pos (by omega), if_pos rfl, c0]
    rw [cz_zero]
    exact Nr.refl _ _
  · have p := parts 3 3600000 (by omega) (by omega) (by omega)
    obtain ⟨f1, f2, f3⟩ := flags _ _ p
    have g : (if 2700000 < (3600000 : Int) then 5400000 - (3600000 : Int) else 3600000).toNat = 1800000 := by decide
    rw [g] at f3
    have g1 : decide (2700000 < (3600000 : Int)) = true := by decide
    have g2 : xor (decide ((3 : Int) % 2 = 1)) (decide (2700000 < (3600000 : Int))) = false := by decide
    rw [g1] at f1
    rw [g2] at f2
    have e : ((exV 11 : Int) : Rat) / 1073741824 = -(1 / 2) := by decide +kernel
    rw [val 3 3600000 p.1 p.2 true false 1800000 f1 f2 f3, e, if_pos (by omega), if_neg (by simp), c18]
    exact th.neg
/-- the sine of any angle, and its floor -/
def d2 : Rat := 1378 / 4294967296
def e2 : Rat := 1 / ((2 ^ 48 : Nat) : Rat)
theorem fl_ex (n : Int) (h : -4398046511104 ≤ n ∧ n ≤ 4398046511104) (k : ex n = true) : -e2 ≤ 1073741824 * sz n - (fl n : Rat) ∧ 1073741824 * sz n - (fl n : Rat) ≤ e2 := by
  have a := ((mod_near n h).1).trans ((sz_mod n).trans (ex_val n k))
  have f : fl n = exV (mT n / 1800000) := by unfold fl; rw [if_pos k]
  rw [← f] at a
  unfold Nr at a
  have b : 1073741824 * (((1628912 + (8 + 9) : Nat) : Rat) * et) ≤ e2 := by decide +kernel
  generalize ((1628912 + (8 + 9) : Nat) : Rat) * et = g at *
  constructor <;> grind
theorem fl_not (n : Int) (h : -4398046511104 ≤ n ∧ n ≤ 4398046511104) (k : ex n = false) : (fl n : Rat) + d2 ≤ 1073741824 * sz n ∧ 1073741824 * sz n ≤ (fl n : Rat) + 1 - d2 := by
  have a := ((mod_near n h).1).trans (sz_mod n)
  obtain ⟨q1, q2⟩ := qk_near n
  obtain ⟨-, m1, m2⟩ := fl_of n k (qk n) 140 (by omega) ⟨q1, q2⟩
  unfold Nr at a
  have b : 1073741824 * (((1628912 + 8 : Nat) : Rat) * et) ≤ dl - d2 := by decide +kernel
  generalize ((1628912 + 8 : Nat) : Rat) * et = g at *
  constructor <;> grind
end Go.Proofs.YtglmkpnnbgkndaaDoor.L6
