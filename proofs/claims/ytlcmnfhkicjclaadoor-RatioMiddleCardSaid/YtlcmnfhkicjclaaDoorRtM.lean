/- Sums and means of fitting numbers: no run of the model here, but for the two words on blocks of two cells. -/
import Derived.Test.YtlcmnfhkicjclaaDoorRtL
namespace Go.Proofs.YtlcmnfhkicjclaaDoor
open Go.RowKit
set_option linter.unusedVariables false

/-- a fitting number's pair -/
def pr (q : Rat) : Int × Int := (q.num, (q.den : Int))
def FitAll (qs : List Rat) : Prop := ∀ q ∈ qs, rfit q = true
theorem good_of {qs : List Rat} (h : FitAll qs) : badP (qs.map pr) = false := by
  unfold badP
  rw [List.any_eq_false]
  intro x hx
  obtain ⟨q, hq, rfl⟩ := List.mem_map.1 hx
  have := rok_of (h q hq)
  simp [pr, this]
theorem of_good (zs : List (Int × Int)) (h : badP zs = false) : ∃ qs, FitAll qs ∧ zs = qs.map pr := by
  unfold badP at h
  induction zs with
  | nil => exact ⟨[], fun q hq => by simp at hq, rfl⟩
  | cons x xs ih =>
    rw [List.any_cons, Bool.or_eq_false_iff] at h
    obtain ⟨qs, hq, e⟩ := ih h.2
    obtain ⟨q, h1, h2, h3⟩ := rok_rat (show rok x.1 x.2 = true by simpa using h.1)
    refine ⟨q :: qs, fun r hr => ?_, ?_⟩
    · rcases List.mem_cons.1 hr with rfl | hr
      · exact h1
      · exact hq r hr
    · rw [List.map_cons, ← e]
      congr 1
      unfold pr
      rw [← h2, ← h3]

/-- the sums of the first elements, as far as each fits -/
def sumE (s : Rat) : List Rat → Option Rat
  | [] => some s
  | x :: xs => if rfit (s + x) = true then sumE (s + x) xs else none
theorem sumE_fit {s x : Rat} {xs : List Rat} (h : rfit (s + x) = true) : sumE s (x :: xs) = sumE (s + x) xs := if_pos h
theorem sumE_big {s x : Rat} {xs : List Rat} (h : rfit (s + x) = false) : sumE s (x :: xs) = none := if_neg (by rw [h]; simp)
/-- the sum, divided by the number -/
def mnQ (s : Rat) (n : Nat) : Rat := s / ((n : Int) : Rat)
theorem mnQ_parts (s : Rat) (n : Nat) : Rat.divInt s.num ((s.den : Int) * (n : Int)) = mnQ s n := by
  have := div_parts s ((n : Int) : Rat)
  have e1 : (((n : Int) : Rat).den : Int) = 1 := rfl
  have e2 : ((n : Int) : Rat).num = (n : Int) := rfl
  rw [e1, e2, Int.mul_one] at this
  exact this
/-- Mean's answer -/
def mnN (o : Option Rat) (n : Nat) : Int := match o with | none => 0 | some s => rN (mnQ s n)
def mnD (o : Option Rat) (n : Nat) : Int := match o with | none => 0 | some s => rD (mnQ s n)
def mnE (o : Option Rat) (n : Nat) : Int := match o with | none => 5 | some s => rE (mnQ s n)
def mean (qs : List Rat) : Option Rat := match qs with | [] => none | q :: r => sumE q r

theorem At2.put {w : World} {b : Nat} {x y : Value} (h : At2 w b x y) (u v : Value) : At2 ((w.setCell ⟨b, 0, none⟩ u).setCell ⟨b, 1, none⟩ v) b u v := by
  obtain ⟨s0, s1⟩ := set2 h.c0 h.c1 u v
  exact ⟨(World.cell?_setCell_other _ _ _ v (by simp)).trans s0, s1, (World.frozen?_setCell _ _ _ _).trans ((World.frozen?_setCell _ _ _ _).trans h.f0), (World.frozen?_setCell _ _ _ _).trans ((World.frozen?_setCell _ _ _ _).trans h.f1), by simpa [World.setCell] using h.lt⟩
theorem At2.far {w : World} {b c : Nat} {x y : Value} (h : At2 w b x y) (hne : b ≠ c) (u v : Value) : At2 ((w.setCell ⟨c, 0, none⟩ u).setCell ⟨c, 1, none⟩ v) b x y :=
  ⟨(World.cell?_setCell_other _ _ _ _ (by simp; try omega)).trans ((World.cell?_setCell_other _ _ _ _ (by simp; try omega)).trans h.c0), (World.cell?_setCell_other _ _ _ _ (by simp; try omega)).trans ((World.cell?_setCell_other _ _ _ _ (by simp; try omega)).trans h.c1),
   (World.frozen?_setCell _ _ _ _).trans ((World.frozen?_setCell _ _ _ _).trans h.f0), (World.frozen?_setCell _ _ _ _).trans ((World.frozen?_setCell _ _ _ _).trans h.f1), by simpa [World.setCell] using h.lt⟩
end Go.Proofs.YtlcmnfhkicjclaaDoor
