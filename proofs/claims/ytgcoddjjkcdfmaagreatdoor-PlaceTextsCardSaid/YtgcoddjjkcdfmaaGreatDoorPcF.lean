/- Place: contracts of the program's isPart, Contains, Inside. -/
import Derived.Test.YtgcoddjjkcdfmaaGreatDoorPcD
import Derived.Test.YtgcoddjjkcdfmaaGreatDoorPcE
namespace Go.Proofs.YtgcoddjjkcdfmaaGreatDoor
open Go.RowKit
set_option linter.unusedVariables false
set_option maxRecDepth 100000

theorem good2 {a b c d : Int} (h : lonOk a b = true) (k : lonOk c d = true) : GoodL [(a, b), (c, d)] := by
  have := lon_bd h; have := lon_bd k
  intro p hp
  simp only [List.mem_cons, List.not_mem_nil, or_false] at hp
  rcases hp with rfl | rfl <;> simp only <;> omega
theorem row2 {w : World} {g : Nat} {a b c d : Int} (N : At4 w g (.int .i64 a) (.int .i64 b) (.int .i64 c) (.int .i64 d)) : RowP w g 0 [(a, b), (c, d)] := by
  intro j hj
  match j, hj with
  | 0, _ => exact ⟨N.c0, N.c1⟩
  | 1, _ => exact ⟨N.c2, N.c3⟩
theorem pAround2 (a b c d : Int) (h : lonOk a b = true) (k : lonOk c d = true) (g : Nat) (w : World) (H : HasAll w) (N : At4 w g (.int .i64 a) (.int .i64 b) (.int .i64 c) (.int .i64 d)) :
    Calls Tryz.prog 27 #[.slice (some ⟨g, 0, none⟩) 2 2] w fun e w' => e = .returned (.agg #[.int .i64 (arnd [(a, b), (c, d)]).1, .int .i64 (arnd [(a, b), (c, d)]).2]) ∧ Below w.heap.size w w' :=
  pAround g 0 2 2 [(a, b), (c, d)] w H rfl (by omega) (good2 h k) N.lt (row2 N)
theorem HasAll.drp {w : World} (h : HasAll w) : HasAll w.drew := h.below (Below.refl _ _).drew
theorem ainR_one (x a b : Int) (h : latOk a b = true) (hx : -5400000 ≤ x ∧ x ≤ 5400000) : ainR x x a b = decide (a ≤ x ∧ x ≤ b) := by
  have k := (latOk_iff _ _).1 h
  unfold ainR aok
  rw [Bool.eq_iff_iff]
  simp only [Bool.and_eq_true, decide_eq_true_iff]
  omega
def poleB (x : Int) : Bool := decide (x = -5400000 ∨ x = 5400000)
/-- does a valid place contain a valid point -/
def conB (a b c d x y : Int) : Bool := decide (a ≤ x ∧ x ≤ b) && (poleB x || partB y y c d)
def conE (a b c d x y : Int) : Int := if ptOk x y = true ∧ plOk a b c d = true then 0 else 1
def conV (a b c d x y : Int) : Bool := decide (ptOk x y = true ∧ plOk a b c d = true) && conB a b c d x y
theorem lon_one {y : Int} (h : -10800000 ≤ y ∧ y < 10800000) : lonOk y y = true := by rw [lonOk_iff]; omega
def insB (a b c d e f g h : Int) : Bool := plOk a b c d && (plOk e f g h && (decide (e ≤ a ∧ b ≤ f) && partB c d g h))
theorem ainR_two (a b e f : Int) (h : latOk a b = true) (k : latOk e f = true) : ainR a b e f = decide (e ≤ a ∧ b ≤ f) := by
  have h := (latOk_iff _ _).1 h
  have k := (latOk_iff _ _).1 k
  unfold ainR aok
  rw [Bool.eq_iff_iff]
  simp only [Bool.and_eq_true, decide_eq_true_iff]
  omega
end Go.Proofs.YtgcoddjjkcdfmaaGreatDoor
