/- Trig: enclosures over arcs, in plain numbers, and what the laws say of them. No run of the model here. -/
import Derived.Test.YtglmkpnnbgkndaaDoorTg14
namespace Go.Proofs.YtglmkpnnbgkndaaDoor.L6
set_option linter.unusedVariables false
set_option maxRecDepth 100000

/-- rounded down and up -/
def lo (n : Int) : Int := fl n
def hi (n : Int) : Int := if ex n = true then fl n else fl n + 1
def Fs (x : Rat) (l h : Int) : Prop := (l = h ∧ -e2 ≤ x - (l : Rat) ∧ x - (l : Rat) ≤ e2) ∨ (h = l + 1 ∧ (l : Rat) + d2 ≤ x ∧ x ≤ (l : Rat) + 1 - d2)
abbrev Ok (n : Int) : Prop := -4398046511104 ≤ n ∧ n ≤ 4398046511104
theorem fs (n : Int) (h : Ok n) : Fs (1073741824 * sz n) (lo n) (hi n) := by
  unfold lo hi
  cases k : ex n
  · rw [if_neg (by simp)]; exact .inr ⟨rfl, fl_not n h k⟩
  · rw [if_pos rfl]; exact .inl ⟨rfl, fl_ex n h k⟩
def tt : Rat := 1 / ((2 ^ 30 : Nat) : Rat)
theorem tt_ok : 2 * e2 + tt < d2 ∧ 0 ≤ e2 ∧ 0 ≤ tt ∧ d2 ≤ 1 / 4 ∧ tt ≤ 1 / 4 ∧ e2 ≤ 1 / 4 ∧ 0 ≤ d2 := by decide +kernel
theorem int_le_of {a b : Int} (h : (a : Rat) < (b : Rat) + 1) : a ≤ b := by
  refine Classical.byContradiction fun c => ?_
  have h1 : b + 1 ≤ a := by omega
  have h2 := Rat.intCast_le_intCast.2 h1
  rw [Rat.intCast_add] at h2
  have e : ((1 : Int) : Rat) = 1 := rfl
  rw [e] at h2
  grind
theorem Fs.mono {x y : Rat} {l h l' h' : Int} (a : Fs x l h) (b : Fs y l' h') (k : x ≤ y + tt) : l ≤ l' ∧ h ≤ h' := by
  obtain ⟨t1, t2, t3, t4, t5, t6, t7⟩ := tt_ok
  have c1 : ((1 : Int) : Rat) = 1 := rfl
  rcases a with ⟨a1, a2, a3⟩ | ⟨a1, a2, a3⟩ <;> rcases b with ⟨b1, b2, b3⟩ | ⟨b1, b2, b3⟩
  · subst a1 b1
    have : l ≤ l' := int_le_of (by grind)
    exact ⟨this, this⟩
  · subst a1 b1
    have : l ≤ l' := int_le_of (by grind)
    exact ⟨this, by omega⟩
  · subst a1 b1
    have : l + 1 ≤ l' := int_le_of (by rw [Rat.intCast_add, c1]; grind)
    exact ⟨by omega, this⟩
  · subst a1 b1
    have : l ≤ l' := int_le_of (by grind)
    exact ⟨this, by omega⟩
theorem Fs.neg {x : Rat} {l h : Int} (a : Fs x l h) : Fs (-x) (-h) (-l) := by
  have c1 : ((1 : Int) : Rat) = 1 := rfl
  rcases a with ⟨a1, a2, a3⟩ | ⟨a1, a2, a3⟩
  · subst a1
    refine .inl ⟨rfl, ?_, ?_⟩ <;> rw [Rat.intCast_neg] <;> grind
  · subst a1
    refine .inr ⟨by omega, ?_, ?_⟩ <;> rw [Rat.intCast_neg, Rat.intCast_add, c1] <;> grind
theorem Fs.eq {x y : Rat} {l h l' h' : Int} (a : Fs x l h) (b : Fs y l' h') (k : x ≤ y + tt) (k' : y ≤ x + tt) : l = l' ∧ h = h' := by
  have p := a.mono b k
  have q := b.mono a k'
  omega
theorem nr_tt {k : Nat} {x y : Rat} (h : Nr k x y) (hk : k ≤ 4000000) : 1073741824 * x ≤ 1073741824 * y + tt ∧ 1073741824 * y ≤ 1073741824 * x + tt := by
  have m := h.mono hk
  unfold Nr at m
  have b : 1073741824 * (((4000000 : Nat) : Rat) * et) ≤ tt := by decide +kernel
  generalize ((4000000 : Nat) : Rat) * et = g at *
  constructor <;> grind
theorem same {n m : Int} (hn : Ok n) (hm : Ok m) {k : Nat} (hk : k ≤ 4000000) (h : Nr k (sz n) (sz m)) : lo n = lo m ∧ hi n = hi m := by
  obtain ⟨a, b⟩ := nr_tt h hk
  exact (fs n hn).eq (fs m hm) a b
theorem opposite {n m : Int} (hn : Ok n) (hm : Ok m) {k : Nat} (hk : k ≤ 4000000) (h : Nr k (sz n) (-sz m)) : lo n = -hi m ∧ hi n = -lo m := by
  obtain ⟨a, b⟩ := nr_tt h hk
  have f := (fs m hm).neg
  have e : -(1073741824 * sz m) = 1073741824 * -sz m := by grind
  rw [e] at f
  exact (fs n hn).eq f a b
/-- the laws of turns -/
theorem lo_neg (n : Int) (h : Ok n) : lo (-n) = -hi n ∧ hi (-n) = -lo n :=
  opposite (by unfold Ok at *; omega) h (k := 0) (by omega) (by rw [sz_neg]; exact Nr.refl _ _)
theorem lo_half (n : Int) (h : Ok n) (h2 : Ok (n + 10800000)) : lo (n + 10800000) = -hi n ∧ hi (n + 10800000) = -lo n :=
  opposite h2 h (k := 4) (by omega) (half_add n).1
theorem mT_turns (n k : Int) : mT (n + k * 21600000) = mT n := by unfold mT; omega
theorem fl_turns (n k : Int) : fl (n + k * 21600000) = fl n ∧ ex (n + k * 21600000) = ex n := by
  have e := mT_turns n k
  have q : qd (n + k * 21600000) = qd n := by unfold qd; rw [e]
  have r : rd (n + k * 21600000) = rd n := by unfold rd; rw [e]
  have f : far (n + k * 21600000) = far n := by unfold far; rw [r]
  have c : co (n + k * 21600000) = co n := by unfold co; rw [q, f]
  have s : rr (n + k * 21600000) = rr n := by unfold rr; rw [f, r]
  have v : vk (n + k * 21600000) = vk n := by unfold vk; rw [c, s]
  have x : ex (n + k * 21600000) = ex n := by unfold ex; rw [e]
  have y : qk (n + k * 21600000) = qk n := by unfold qk; rw [q, v]
  exact ⟨by unfold fl; rw [x, y, e], x⟩
theorem lo_turns (n k : Int) : lo (n + k * 21600000) = lo n ∧ hi (n + k * 21600000) = hi n := by
  obtain ⟨a, b⟩ := fl_turns n k
  unfold lo hi
  rw [a, b]
  exact ⟨rfl, rfl⟩
/-- the cosine is even: a quarter less and a quarter more -/
theorem lo_even (n : Int) (h : Ok (5400000 - n)) (h2 : Ok (5400000 + n)) : lo (5400000 - n) = lo (5400000 + n) ∧ hi (5400000 - n) = hi (5400000 + n) := by
  have a := (quarter_sub n).1
  have b := (quarter_add n).1
  rw [show n + 5400000 = 5400000 + n by omega] at b
  exact same h h2 (k := 4) (by omega) (a.trans b.symm)
/-- does an arc have a direction -/
def has (a b n : Int) : Bool := decide (a + (n - a) % 21600000 ≤ b)
def sL (a b : Int) : Int := if has a b (-5400000) = true then -1073741824 else min (lo a) (lo b)
def sH (a b : Int) : Int := if has a b 5400000 = true then 1073741824 else max (hi a) (hi b)
theorem has_iff (a b n : Int) : has a b n = true ↔ a + (n - a) % 21600000 ≤ b := by unfold has; simp
theorem has_not (a b n : Int) : has a b n = false ↔ ¬ a + (n - a) % 21600000 ≤ b := by unfold has; rw [decide_eq_false_iff_not]
/-- between two troughs the sine is not less than at both ends -/
theorem no_trough {a b p : Int} (ha : -4000000000000 ≤ a) (hb : b ≤ 4000000000000) (h1 : a ≤ p) (h2 : p ≤ b) (h : has a b (-5400000) = false) : min (lo a) (lo b) ≤ lo p := by
  rw [has_not] at h
  have okk : ∀ n, a ≤ n → n ≤ b → Ok n := fun n h1 h2 => by unfold Ok; omega
  -- how far behind the trough
  obtain ⟨u, hu⟩ : ∃ u, (a + 5400000) % 21600000 = u := ⟨_, rfl⟩
  have u0 : 1 ≤ u ∧ b - a < 21600000 - u ∧ u < 21600000 := by omega
  have near : ∀ n, a ≤ n → n ≤ b → Nr 1628914 (sz n) (-cz (u + (n - a))) := by
    intro n k1 k2
    have q := (quarter_add n).2
    have m := (mod_near (n + 5400000) (by omega)).2
    rw [show (n + 5400000) % 21600000 = u + (n - a) by omega] at m
    have r := (q.symm.trans m).neg
    rw [show - -sz n = sz n by grind] at r
    exact r
  have flip : ∀ w : Int, Nr 8 (cz w) (cz (21600000 - w)) := by
    intro w
    have t := (turn_add (-w)).2
    rw [cz_neg, show -w + 21600000 = 21600000 - w by omega] at t
    exact t.symm
  have np := near p h1 h2
  by_cases c : u + (p - a) ≤ 10800000
  · have na := near a (by omega) (by omega)
    rw [show u + (a - a) = u by omega] at na
    have m := cz_le u (u + (p - a)) (by omega) (by omega) c
    obtain ⟨x1, x2⟩ := nr_tt np (by omega)
    obtain ⟨y1, y2⟩ := nr_tt na (by omega)
    have fin : 1073741824 * sz a ≤ 1073741824 * sz p + (tt + tt) := by grind
    have t3 : Nr 3257828 (sz a) (sz a) := Nr.refl _ _
    have := (fs a (okk a (by omega) (by omega))).mono (fs p (okk p h1 h2)) (by
      -- once more with both errors at once
      have q := na
      unfold Nr at np na
      have b : 1073741824 * (((1628914 : Nat) : Rat) * et + ((1628914 : Nat) : Rat) * et) ≤ tt := by decide +kernel
      generalize ((1628914 : Nat) : Rat) * et = g at *
      grind)
    omega
  · have nb := near b (by omega) (by omega)
    have fp := flip (u + (p - a))
    have fb := flip (u + (b - a))
    have m := cz_le (21600000 - (u + (b - a))) (21600000 - (u + (p - a))) (by omega) (by omega) (by omega)
    have := (fs b (okk b (by omega) (by omega))).mono (fs p (okk p h1 h2)) (by
      unfold Nr at np nb fp fb
      have b : 1073741824 * (((1628914 : Nat) : Rat) * et + ((1628914 : Nat) : Rat) * et + ((8 : Nat) : Rat) * et + ((8 : Nat) : Rat) * et) ≤ tt := by decide +kernel
      generalize ((1628914 : Nat) : Rat) * et = g at *
      generalize ((8 : Nat) : Rat) * et = g2 at *
      grind)
    omega
theorem no_peak {a b p : Int} (ha : -3900000000000 ≤ a) (hb : b ≤ 3900000000000) (h1 : a ≤ p) (h2 : p ≤ b) (h : has a b 5400000 = false) : hi p ≤ max (hi a) (hi b) := by
  have h' : has (a + 10800000) (b + 10800000) (-5400000) = false := by
    rw [has_not] at *
    omega
  have t := no_trough (a := a + 10800000) (b := b + 10800000) (p := p + 10800000) (by omega) (by omega) (by omega) (by omega) h'
  have ea := (lo_half a (by unfold Ok; omega) (by unfold Ok; omega)).1
  have eb := (lo_half b (by unfold Ok; omega) (by unfold Ok; omega)).1
  have ep := (lo_half p (by unfold Ok; omega) (by unfold Ok; omega)).1
  rw [ea, eb, ep] at t
  omega
end Go.Proofs.YtglmkpnnbgkndaaDoor.L6
