/- Trig: the program's sine over an arc is the one that is asked for. No run of the model here. -/
import Derived.Test.YtglmkpnnbgkndaaDoorTg18
namespace Go.Proofs.YtglmkpnnbgkndaaDoor.L6
set_option linter.unusedVariables false
set_option maxRecDepth 100000

theorem lo_hi_in (n : Int) (h : Ok n) : -1073741824 ≤ lo n ∧ hi n ≤ 1073741824 := by
  have f := fs n h
  obtain ⟨s1, s2⟩ := sz_in n
  obtain ⟨t1, t2, t3, t4, t5, t6, t7⟩ := tt_ok
  have c1 : ((1 : Int) : Rat) = 1 := rfl
  have cm : ((-1073741824 : Int) : Rat) = -1073741824 := rfl
  have cp : ((1073741824 : Int) : Rat) = 1073741824 := rfl
  rcases f with ⟨e, f1, f2⟩ | ⟨e, f1, f2⟩
  · rw [← e]
    generalize lo n = l at *
    constructor
    · exact int_le_of (by rw [cm]; grind)
    · exact int_le_of (by rw [cp]; grind)
  · rw [e]
    generalize lo n = l at *
    constructor
    · exact int_le_of (by rw [cm]; grind)
    · exact int_le_of (by rw [cp, Rat.intCast_add, c1]; grind)
/-- the multiples of a quarter from an arc's beginning on -/
def pn (a : Int) (i : Nat) : Int := a + (-a) % 5400000 + 5400000 * (i : Int)
def eL (a b : Int) : Nat → Int
  | 0 => min (lo a) (lo b)
  | i + 1 => min (eL a b i) (lo (pn a i))
def eH (a b : Int) : Nat → Int
  | 0 => max (hi a) (hi b)
  | i + 1 => max (eH a b i) (hi (pn a i))
theorem quarter_pt (n : Int) (j : Int) (h : n = 5400000 + 21600000 * j) : hi n = 1073741824 := by
  have m : mT n = 5400000 := by unfold mT; omega
  have e : ex n = true := by unfold ex; rw [m]; decide
  unfold hi
  rw [if_pos e]
  unfold fl
  rw [if_pos e, m]
  decide
theorem trough_pt (n : Int) (j : Int) (h : n = -5400000 + 21600000 * j) : lo n = -1073741824 := by
  have m : mT n = 16200000 := by unfold mT; omega
  have e : ex n = true := by unfold ex; rw [m]; decide
  show fl n = _
  unfold fl
  rw [if_pos e, m]
  decide
theorem eL_le (a b : Int) (k i : Nat) (h : i < k) : eL a b k ≤ lo (pn a i) := by
  induction k with
  | zero => omega
  | succ k ih =>
    show min (eL a b k) (lo (pn a k)) ≤ _
    by_cases c : i = k
    · subst c; omega
    · have := ih (by omega); omega
theorem eH_ge (a b : Int) (k i : Nat) (h : i < k) : hi (pn a i) ≤ eH a b k := by
  induction k with
  | zero => omega
  | succ k ih =>
    show _ ≤ max (eH a b k) (hi (pn a k))
    by_cases c : i = k
    · subst c; omega
    · have := ih (by omega); omega
theorem eL_min (a b m : Int) (k : Nat) (h0 : m ≤ lo a) (h1 : m ≤ lo b) (h : ∀ i, i < k → m ≤ lo (pn a i)) : m ≤ eL a b k := by
  induction k with
  | zero => show m ≤ min (lo a) (lo b); omega
  | succ k ih =>
    have := ih (fun i hi => h i (by omega))
    have := h k (by omega)
    show m ≤ min (eL a b k) (lo (pn a k))
    omega
theorem eH_max (a b m : Int) (k : Nat) (h0 : hi a ≤ m) (h1 : hi b ≤ m) (h : ∀ i, i < k → hi (pn a i) ≤ m) : eH a b k ≤ m := by
  induction k with
  | zero => show max (hi a) (hi b) ≤ m; omega
  | succ k ih =>
    have := ih (fun i hi => h i (by omega))
    have := h k (by omega)
    show max (eH a b k) (hi (pn a k)) ≤ m
    omega
theorem eL_down (a b : Int) (k : Nat) : eL a b k ≤ min (lo a) (lo b) := by
  induction k with
  | zero => exact Int.le_refl _
  | succ k ih => show min (eL a b k) (lo (pn a k)) ≤ _; omega
theorem eH_up (a b : Int) (k : Nat) : max (hi a) (hi b) ≤ eH a b k := by
  induction k with
  | zero => exact Int.le_refl _
  | succ k ih => show _ ≤ max (eH a b k) (hi (pn a k)); omega
theorem eL_eq (a b : Int) (ha : -3900000000000 ≤ a) (hb : b ≤ 3900000000000) (ab : a ≤ b) (k : Nat) (hk : k ≤ 4) (h1 : ∀ i, i < k → pn a i ≤ b) (h2 : k = 4 ∨ b < pn a k) : eL a b k = sL a b := by
  have okk : ∀ n, a ≤ n → n ≤ b → Ok n := fun n h1 h2 => by unfold Ok; omega
  have pa : ∀ i, a ≤ pn a i := fun i => by unfold pn; omega
  unfold sL
  by_cases c : has a b (-5400000) = true
  · rw [if_pos c]
    rw [has_iff] at c
    obtain ⟨t, ht⟩ : ∃ t, t = a + (-5400000 - a) % 21600000 := ⟨_, rfl⟩
    rw [← ht] at c
    obtain ⟨i, hi⟩ : ∃ i : Nat, t = pn a i ∧ i < 4 := by
      refine ⟨((t - (a + (-a) % 5400000)) / 5400000).toNat, ?_, ?_⟩
      · unfold pn; omega
      · omega
    obtain ⟨e, i4⟩ := hi
    have ik : i < k := by
      rcases h2 with h | h
      · omega
      · refine Classical.byContradiction fun n => ?_
        unfold pn at e h
        omega
    have l := eL_le a b k i ik
    rw [← e, trough_pt t ((t + 5400000) / 21600000) (by omega)] at l
    have m := eL_min a b (-1073741824) k (lo_hi_in a (okk a (by omega) ab)).1 (lo_hi_in b (okk b ab (by omega))).1 (fun i hi => (lo_hi_in _ (okk _ (pa i) (h1 i hi))).1)
    omega
  · rw [if_neg c]
    have c' : has a b (-5400000) = false := by simpa using c
    have m := eL_min a b (min (lo a) (lo b)) k (by omega) (by omega) (fun i hi => no_trough (by omega) (by omega) (pa i) (h1 i hi) c')
    have d := eL_down a b k
    omega
theorem eH_eq (a b : Int) (ha : -3900000000000 ≤ a) (hb : b ≤ 3900000000000) (ab : a ≤ b) (k : Nat) (hk : k ≤ 4) (h1 : ∀ i, i < k → pn a i ≤ b) (h2 : k = 4 ∨ b < pn a k) : eH a b k = sH a b := by
  have okk : ∀ n, a ≤ n → n ≤ b → Ok n := fun n h1 h2 => by unfold Ok; omega
  have pa : ∀ i, a ≤ pn a i := fun i => by unfold pn; omega
  unfold sH
  by_cases c : has a b 5400000 = true
  · rw [if_pos c]
    rw [has_iff] at c
    obtain ⟨t, ht⟩ : ∃ t, t = a + (5400000 - a) % 21600000 := ⟨_, rfl⟩
    rw [← ht] at c
    obtain ⟨i, hi⟩ : ∃ i : Nat, t = pn a i ∧ i < 4 := by
      refine ⟨((t - (a + (-a) % 5400000)) / 5400000).toNat, ?_, ?_⟩
      · unfold pn; omega
      · omega
    obtain ⟨e, i4⟩ := hi
    have ik : i < k := by
      rcases h2 with h | h
      · omega
      · refine Classical.byContradiction fun n => ?_
        unfold pn at e h
        omega
    have l := eH_ge a b k i ik
    rw [← e, quarter_pt t ((t - 5400000) / 21600000) (by omega)] at l
    have m := eH_max a b 1073741824 k (lo_hi_in a (okk a (by omega) ab)).2 (lo_hi_in b (okk b ab (by omega))).2 (fun i hi => (lo_hi_in _ (okk _ (pa i) (h1 i hi))).2)
    omega
  · rw [if_neg c]
    have c' : has a b 5400000 = false := by simpa using c
    have m := eH_max a b (max (hi a) (hi b)) k (by omega) (by omega) (fun i hi => no_peak (by omega) (by omega) (pa i) (h1 i hi) c')
    have d := eH_up a b k
    omega
end Go.Proofs.YtglmkpnnbgkndaaDoor.L6
