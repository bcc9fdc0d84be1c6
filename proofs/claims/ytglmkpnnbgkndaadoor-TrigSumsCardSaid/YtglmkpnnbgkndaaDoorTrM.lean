/- Trig: plain facts for TrigSquares and TrigSums: products of enclosures. -/
import Derived.Test.YtglmkpnnbgkndaaDoorTrL
namespace Go.Proofs.YtglmkpnnbgkndaaDoor
open Go.RowKit
set_option linter.unusedVariables false
set_option maxRecDepth 100000

def ee : Rat := 1 / ((2 ^ 40 : Nat) : Rat)
def dd : Rat := 1 / 64
def In (x : Rat) (l h : Int) : Prop := (l : Rat) - ee ≤ x ∧ x ≤ (h : Rat) + ee
def InD (x : Rat) (l h : Int) : Prop := (l : Rat) - dd ≤ x ∧ x ≤ (h : Rat) + dd
theorem ee_ok : L6.e2 + 1073741824 * (2 * L6.et) ≤ ee ∧ 0 ≤ L6.e2 ∧ 0 ≤ L6.et ∧ 0 ≤ ee ∧ 0 ≤ L6.d2 := by decide +kernel
theorem dd_ok : 1073741824 * ee + 1073741824 * ee + ee * ee ≤ dd ∧ 1073741824 * ee ≤ dd ∧ 0 ≤ dd := by decide +kernel
theorem in_of {x y : Rat} {l h : Int} {g : Rat} (f : L6.Fs x l h) (k : -g ≤ y - x ∧ y - x ≤ g) (hg : L6.e2 + g ≤ ee) (g0 : 0 ≤ g) : In y l h := by
  obtain ⟨-, e1, e3, e4, e5⟩ := ee_ok
  have c1 : ((1 : Int) : Rat) = 1 := rfl
  obtain ⟨k1, k2⟩ := k
  unfold In
  rcases f with ⟨f1, f2, f3⟩ | ⟨f1, f2, f3⟩
  · subst f1
    generalize L6.e2 = a at *
    generalize ee = b at *
    constructor <;> grind
  · subst f1
    rw [Rat.intCast_add, c1]
    generalize L6.e2 = a at *
    generalize ee = b at *
    generalize L6.d2 = d at *
    constructor <;> grind
theorem in_s (n : Int) (h : L6.Ok n) : In (1073741824 * L6.sz n) (L6.lo n) (L6.hi n) := by
  obtain ⟨e0, e1, e2, e4, e5⟩ := ee_ok
  refine in_of (g := 0) (L6.fs n h) ⟨by grind, by grind⟩ ?_ (by grind)
  generalize L6.e2 = a at *
  generalize L6.et = b at *
  generalize ee = c at *
  grind
theorem in_c (n : Int) (h : L6.Ok (n + 5400000)) : In (1073741824 * L6.cz n) (L6.lo (n + 5400000)) (L6.hi (n + 5400000)) := by
  obtain ⟨e0, e1, e2, e4, e5⟩ := ee_ok
  obtain ⟨⟨q1, q2⟩, -⟩ := L6.quarter_add n
  have t : ((2 : Nat) : Rat) = 2 := rfl
  rw [t] at q1 q2
  refine in_of (g := 1073741824 * (2 * L6.et)) (L6.fs _ h) ?_ e0 ?_
  · generalize L6.sz (n + 5400000) = x at *
    generalize L6.cz n = y at *
    generalize L6.et = b at *
    constructor <;> grind
  · generalize L6.et = b at *
    grind
theorem mul0 {a b : Rat} (h1 : 0 ≤ a) (h2 : 0 ≤ b) : 0 ≤ a * b := Rat.mul_nonneg h1 h2
/-- a product over a box is not greater than at a corner -/
theorem corner_hi {x y p q r s : Rat} (h1 : p ≤ x) (h2 : x ≤ q) (h3 : r ≤ y) (h4 : y ≤ s) : x * y ≤ p * r ∨ x * y ≤ p * s ∨ x * y ≤ q * r ∨ x * y ≤ q * s := by
  by_cases c : 0 ≤ y
  · have a := mul0 (show 0 ≤ q - x by grind) c
    by_cases d : 0 ≤ q
    · have b := mul0 d (show 0 ≤ s - y by grind)
      right; right; right; grind
    · have b := mul0 (show 0 ≤ -q by grind) (show 0 ≤ y - r by grind)
      right; right; left; grind
  · have a := mul0 (show 0 ≤ x - p by grind) (show 0 ≤ -y by grind)
    by_cases d : 0 ≤ p
    · have b := mul0 d (show 0 ≤ s - y by grind)
      right; left; grind
    · have b := mul0 (show 0 ≤ -p by grind) (show 0 ≤ y - r by grind)
      left; grind
theorem abs_mul {k b B E : Rat} (h1 : -B ≤ k) (h2 : k ≤ B) (h3 : -E ≤ b) (h4 : b ≤ E) : -(B * E) ≤ k * b ∧ k * b ≤ B * E := by
  have a1 := mul0 (show 0 ≤ B - k by grind) (show 0 ≤ E + b by grind)
  have a2 := mul0 (show 0 ≤ B + k by grind) (show 0 ≤ E - b by grind)
  have a3 := mul0 (show 0 ≤ B - k by grind) (show 0 ≤ E - b by grind)
  have a4 := mul0 (show 0 ≤ B + k by grind) (show 0 ≤ E + b by grind)
  constructor <;> grind
theorem near_mul {u v k m : Rat} (h1 : -1073741824 ≤ k) (h2 : k ≤ 1073741824) (h3 : -1073741824 ≤ m) (h4 : m ≤ 1073741824) (a1 : -ee ≤ u - k) (a2 : u - k ≤ ee) (b1 : -ee ≤ v - m) (b2 : v - m ≤ ee) : u * v ≤ k * m + dd := by
  have x := (abs_mul h1 h2 b1 b2).2
  have y := (abs_mul h3 h4 a1 a2).2
  have z := (abs_mul a1 a2 b1 b2).2
  have d := dd_ok.1
  generalize ee = e at *
  generalize dd = f at *
  grind
def mulL (l h l' h' : Int) : Int := min (min (l * l') (l * h')) (min (h * l') (h * h'))
def mulH (l h l' h' : Int) : Int := max (max (l * l') (l * h')) (max (h * l') (h * h'))
/-- bounds of whole numbers -/
abbrev B30 (l h : Int) : Prop := -1073741824 ≤ l ∧ l ≤ h ∧ h ≤ 1073741824
theorem cast30 {l : Int} (h1 : -1073741824 ≤ l) (h2 : l ≤ 1073741824) : (-1073741824 : Rat) ≤ (l : Rat) ∧ (l : Rat) ≤ 1073741824 :=
  ⟨by have := Rat.intCast_le_intCast.2 h1; exact this, by have := Rat.intCast_le_intCast.2 h2; exact this⟩
theorem le_cast {a b : Int} {x : Rat} (h : x ≤ (a : Rat) + dd) (k : a ≤ b) : x ≤ (b : Rat) + dd := by
  have := Rat.intCast_le_intCast.2 k
  generalize dd = f at *
  grind
theorem prod_hi {x y : Rat} {l h l' h' : Int} (a : In x l h) (b : In y l' h') (ka : B30 l h) (kb : B30 l' h') : x * y ≤ (mulH l h l' h' : Rat) + dd := by
  obtain ⟨a1, a2⟩ := a
  obtain ⟨b1, b2⟩ := b
  obtain ⟨k1, k2, k3⟩ := ka
  obtain ⟨m1, m2, m3⟩ := kb
  obtain ⟨L1, L2⟩ := cast30 k1 (by omega : l ≤ 1073741824)
  obtain ⟨H1, H2⟩ := cast30 (by omega : -1073741824 ≤ h) k3
  obtain ⟨L3, L4⟩ := cast30 m1 (by omega : l' ≤ 1073741824)
  obtain ⟨H3, H4⟩ := cast30 (by omega : -1073741824 ≤ h') m3
  have e0 := ee_ok.2.2.2.1
  rcases corner_hi a1 a2 b1 b2 with c | c | c | c
  · have n := near_mul L1 L2 L3 L4 (u := (l : Rat) - ee) (v := (l' : Rat) - ee) (by grind) (by grind) (by grind) (by grind)
    rw [← Rat.intCast_mul] at n
    exact Rat.le_trans c (le_cast n (by unfold mulH; omega))
  · have n := near_mul L1 L2 H3 H4 (u := (l : Rat) - ee) (v := (h' : Rat) + ee) (by grind) (by grind) (by grind) (by grind)
    rw [← Rat.intCast_mul] at n
    exact Rat.le_trans c (le_cast n (by unfold mulH; omega))
  · have n := near_mul H1 H2 L3 L4 (u := (h : Rat) + ee) (v := (l' : Rat) - ee) (by grind) (by grind) (by grind) (by grind)
    rw [← Rat.intCast_mul] at n
    exact Rat.le_trans c (le_cast n (by unfold mulH; omega))
  · have n := near_mul H1 H2 H3 H4 (u := (h : Rat) + ee) (v := (h' : Rat) + ee) (by grind) (by grind) (by grind) (by grind)
    rw [← Rat.intCast_mul] at n
    exact Rat.le_trans c (le_cast n (by unfold mulH; omega))
theorem In.neg {x : Rat} {l h : Int} (a : In x l h) : In (-x) (-h) (-l) := by
  obtain ⟨a1, a2⟩ := a
  unfold In
  rw [Rat.intCast_neg, Rat.intCast_neg]
  generalize ee = e at *
  constructor <;> grind
theorem mulH_neg (l h l' h' : Int) : mulH (-h) (-l) l' h' = -mulL l h l' h' := by
  unfold mulH mulL
  rw [Int.neg_mul, Int.neg_mul, Int.neg_mul, Int.neg_mul]
  omega
theorem prod_in {x y : Rat} {l h l' h' : Int} (a : In x l h) (b : In y l' h') (ka : B30 l h) (kb : B30 l' h') : InD (x * y) (mulL l h l' h') (mulH l h l' h') := by
  refine ⟨?_, prod_hi a b ka kb⟩
  have n := prod_hi a.neg b ⟨by omega, by omega, by omega⟩ kb
  rw [mulH_neg, Rat.intCast_neg] at n
  generalize dd = f at *
  grind
end Go.Proofs.YtglmkpnnbgkndaaDoor
