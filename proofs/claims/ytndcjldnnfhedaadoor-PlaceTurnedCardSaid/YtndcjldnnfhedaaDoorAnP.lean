/- Angle: arcs as plain functions of integers, and what the laws say of them: no run of the model here. -/
import Derived.Test.YtndcjldnnfhedaaDoorFxQ
namespace Go.Proofs.YtndcjldnnfhedaaDoor
set_option linter.unusedVariables false

/-- is an arc valid -/
def aok (a b : Int) : Bool := decide (-1099511627776 ≤ a ∧ b ≤ 1099511627776 ∧ a ≤ b)
theorem aok_iff (a b : Int) : aok a b = true ↔ (-1099511627776 ≤ a ∧ b ≤ 1099511627776 ∧ a ≤ b) := by unfold aok; simp
theorem aok_not (a b : Int) : aok a b = false ↔ ¬ (-1099511627776 ≤ a ∧ b ≤ 1099511627776 ∧ a ≤ b) := by unfold aok; rw [decide_eq_false_iff_not]
theorem aok_mk {a b : Int} (h1 : -1099511627776 ≤ a) (h2 : b ≤ 1099511627776) (h3 : a ≤ b) : aok a b = true := (aok_iff _ _).2 ⟨h1, h2, h3⟩
/-- the same direction, from 0 to a turn, and around 0 -/
def wrapN (n : Int) : Int := n % 21600000
def signN (n : Int) : Int := if 10800000 ≤ n % 21600000 then n % 21600000 - 21600000 else n % 21600000
theorem wrapN_in (n : Int) : 0 ≤ wrapN n ∧ wrapN n < 21600000 := by unfold wrapN; omega
theorem signN_in (n : Int) : -10800000 ≤ signN n ∧ signN n < 10800000 := by unfold signN; split <;> omega
theorem signN_wrapN (n : Int) : signN n = wrapN n ∨ signN n = wrapN n - 21600000 := by unfold signN wrapN; split <;> omega
/-- the arc, or ErrBig -/
def afit (l h : Int) : Fx := if aok l h = true then ⟨l, h, 0⟩ else ⟨0, 0, 5⟩
theorem afit_yes {l h : Int} (k : aok l h = true) : afit l h = ⟨l, h, 0⟩ := if_pos k
theorem afit_no {l h : Int} (k : aok l h = false) : afit l h = ⟨0, 0, 5⟩ := if_neg (by rw [k]; simp)
def aaddR (a b c d : Int) : Fx := afit (a + c) (b + d)
def asubR (a b c d : Int) : Fx := afit (a - d) (b - c)
def anegR (a b : Int) : Fx := ⟨-b, -a, 0⟩
def tmL (a b n d : Int) : Int := if n < 0 then -b * -n / d else a * n / d
def tmH (a b n d : Int) : Int := if n < 0 then cdiv (-a * -n) d else cdiv (b * n) d
def tmOk (n d : Int) : Bool := decide (-1048576 ≤ n ∧ n ≤ 1048576 ∧ 1 ≤ d ∧ d ≤ 1048576)
theorem tmOk_iff (n d : Int) : tmOk n d = true ↔ (-1048576 ≤ n ∧ n ≤ 1048576 ∧ 1 ≤ d ∧ d ≤ 1048576) := by unfold tmOk; simp
theorem tmOk_not (n d : Int) : tmOk n d = false ↔ ¬ (-1048576 ≤ n ∧ n ≤ 1048576 ∧ 1 ≤ d ∧ d ≤ 1048576) := by unfold tmOk; rw [decide_eq_false_iff_not]
def atimesR (a b n d : Int) : Fx := if tmOk n d = true then afit (tmL a b n d) (tmH a b n d) else ⟨0, 0, 2⟩
def ahullR (a b c d : Int) : Fx := ⟨min a c, max b d, 0⟩
def ameets (a b c d : Int) : Bool := decide (a ≤ d ∧ c ≤ b)
def ameetR (a b c d : Int) : Fx := if ameets a b c d = true then ⟨max a c, min b d, 0⟩ else ⟨0, 0, 23⟩
def ainR (a b c d : Int) : Bool := aok a b && aok c d && decide (c ≤ a ∧ b ≤ d)
theorem ainR_yes {a b c d : Int} (h : aok a b = true) (k : aok c d = true) (h1 : c ≤ a) (h2 : b ≤ d) : ainR a b c d = true := by unfold ainR; rw [h, k]; simp [h1, h2]
/-- the direction form -/
def trL (a b : Int) : Int := if 21600000 ≤ b - a then 0 else a % 21600000
def trH (a b : Int) : Int := if 21600000 ≤ b - a then 21600000 else a % 21600000 + (b - a)
def aturnR (a b : Int) : Fx := ⟨trL a b, trH a b, 0⟩
theorem tr_in {a b : Int} (h : a ≤ b) : 0 ≤ trL a b ∧ trL a b < 21600000 ∧ trL a b ≤ trH a b ∧ trH a b - trL a b ≤ 21600000 := by
  unfold trL trH; split <;> omega
/-- do two direction forms meet, one of them moved by so many turns -/
def agK (a b c d k : Int) : Bool := ameets (trL a b) (trH a b) (trL c d + k) (trH c d + k)
def agR (a b c d : Int) : Bool := agK a b c d (-21600000) || (agK a b c d 0 || agK a b c d 21600000)
theorem agK_iff (a b c d k : Int) : agK a b c d k = true ↔ (trL a b ≤ trH c d + k ∧ trL c d + k ≤ trH a b) := by unfold agK ameets; simp
theorem agR_iff (a b c d : Int) : agR a b c d = true ↔ (agK a b c d (-21600000) = true ∨ agK a b c d 0 = true ∨ agK a b c d 21600000 = true) := by unfold agR; simp [Bool.or_eq_true]
theorem agR_comm (a b c d : Int) : agR a b c d = agR c d a b := by
  rw [Bool.eq_iff_iff, agR_iff, agR_iff]
  simp only [agK_iff]
  omega
theorem tr_move (a b t : Int) : trL (a + t * 21600000) (b + t * 21600000) = trL a b ∧ trH (a + t * 21600000) (b + t * 21600000) = trH a b := by
  unfold trL trH
  rw [show b + t * 21600000 - (a + t * 21600000) = b - a by omega, show (a + t * 21600000) % 21600000 = a % 21600000 by omega]
  exact ⟨rfl, rfl⟩
theorem agR_move (a b c d t : Int) : agR (a + t * 21600000) (b + t * 21600000) c d = agR a b c d := by
  unfold agR agK
  rw [(tr_move a b t).1, (tr_move a b t).2]
theorem tr_form {a b : Int} (h : a ≤ b) : trL (trL a b) (trH a b) = trL a b ∧ trH (trL a b) (trH a b) = trH a b := by
  unfold trL trH
  by_cases k : 21600000 ≤ b - a
  · simp only [if_pos k]; decide
  · simp only [if_neg k]
    rw [if_neg (by omega), if_neg (by omega)]
    omega
theorem agR_self {a b : Int} (h : a ≤ b) : agR a b a b = true := by
  rw [agR_iff]; refine .inr (.inl ?_)
  rw [agK_iff]
  have := tr_in h
  omega
theorem agR_form {a b : Int} (h : a ≤ b) : agR a b (trL a b) (trH a b) = true := by
  have k := agR_self h
  rw [agR_iff] at *
  simp only [agK_iff] at *
  rw [(tr_form h).1, (tr_form h).2]
  exact k
theorem agR_part {a b z : Int} (h1 : a ≤ z) (h2 : z ≤ b) : agR a b z z = true := by
  rw [agR_iff]
  simp only [agK_iff]
  unfold trL trH
  rw [if_neg (show ¬ 21600000 ≤ z - z by omega), if_neg (show ¬ 21600000 ≤ z - z by omega)]
  by_cases k : 21600000 ≤ b - a
  · simp only [if_pos k]; omega
  · simp only [if_neg k]; omega
/-- divided, and multiplied again -/
theorem tm_one {a b d : Int} (hd : 0 < d) : tmL a b 1 d = a / d ∧ tmH a b 1 d = cdiv b d := by
  unfold tmL tmH
  rw [if_neg (by omega), if_neg (by omega), Int.mul_one, Int.mul_one]
  exact ⟨rfl, rfl⟩
theorem tm_back {a b d : Int} (hd : 0 ≤ d) : tmL a b d 1 = a * d ∧ tmH a b d 1 = b * d := by
  unfold tmL tmH
  rw [if_neg (by omega), if_neg (by omega), Int.ediv_one]
  exact ⟨rfl, by unfold cdiv; rw [Int.ediv_one]; omega⟩
theorem tm_bounds {a b d : Int} (hd : 0 < d) : a / d * d ≤ a ∧ a < a / d * d + d ∧ b ≤ cdiv b d * d ∧ cdiv b d * d < b + d := by
  have h1 := (le_fl (L := a / d) (x := a) hd).1 (Int.le_refl _)
  have h2 := (fl_lt (L := a / d + 1) (x := a) hd).1 (by omega)
  have h3 := (ce_le (H := cdiv b d) (x := b) hd).1 (Int.le_refl _)
  have h4 := (lt_ce (H := cdiv b d - 1) (x := b) hd).1 (by omega)
  rw [Int.add_mul, Int.one_mul] at h2
  rw [Int.sub_mul, Int.one_mul] at h4
  exact ⟨h1, h2, h3, by omega⟩
end Go.Proofs.YtndcjldnnfhedaaDoor
