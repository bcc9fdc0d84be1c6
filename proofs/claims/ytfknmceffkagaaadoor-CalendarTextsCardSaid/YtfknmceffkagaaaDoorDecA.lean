/- Contracts of the small integer functions of decimal and of its reference: they return what plain integer arithmetic says, and write nothing. -/
import Derived.Test.YtfknmceffkagaaaDoorRows
import Derived.WalkKit
import Derived.WalkSpells
import Derived.WalkLawsBesides
import Derived.Lib.Hide
import Derived.Deep.QuietTactic
import Derived.BigQuiet
namespace Go.Proofs.YtfknmceffkagaaaDoor.dc
open Go.RowKit
set_option linter.unusedVariables false

def fitsB (n : Int) : Bool := decide (-1152921504606846976 ≤ n ∧ n ≤ 1152921504606846976)
theorem fits_iff (n : Int) : fitsB n = true ↔ (-1152921504606846976 ≤ n ∧ n ≤ 1152921504606846976) := by unfold fitsB; simp
theorem fits_not (n : Int) : fitsB n = false ↔ ¬ (-1152921504606846976 ≤ n ∧ n ≤ 1152921504606846976) := by unfold fitsB; simp

theorem ret_bool {a b : Bool} (h : a = b) : Ending.returned (.bool a) = .returned (.bool b) := by rw [h]
theorem ret_int {k : IntKind} {a b : Int} (h : a = b) : Ending.returned (.int k a) = .returned (.int k b) := by rw [h]

theorem fits_any (n : Int) (w : World) :
    Calls Tryd.prog 55 #[.int .i64 n] w fun e w' => e = .returned (.bool (fitsB n)) ∧ w = w' := by
  by_cases h1 : -1152921504606846976 ≤ n
  · by_cases h2 : n ≤ 1152921504606846976
    · go_enter Tryd.func55, Tryd.ntmps55
      go_wp2
      go_ret
      exact ⟨ret_bool (by unfold fitsB; simp; omega), rfl⟩
    · go_enter Tryd.func55, Tryd.ntmps55
      go_wp2
      go_ret
      exact ⟨ret_bool (by unfold fitsB; simp; omega), rfl⟩
  · go_enter Tryd.func55, Tryd.ntmps55
    go_wp2
    go_ret
    exact ⟨ret_bool (by unfold fitsB; simp; omega), rfl⟩

/-- the number of the multiple of u to which n rounds: floor of (2 n + u) / (2 u) -/
def near (n u : Int) : Int := (2 * n + u) / (2 * u)

theorem near_tdiv_neg (n u : Int) (hu : 1 ≤ u) (h : (2 * n + u).tmod (2 * u) < 0) : (2 * n + u).tdiv (2 * u) - 1 = near n u := by
  unfold near
  generalize hD : 2 * u = D at *
  generalize hN : 2 * n + u = M at *
  have hD1 : 1 ≤ D := by omega
  have e := Int.mul_tdiv_add_tmod M D
  have hlt := Int.tmod_lt_of_pos M (show 0 < D by omega)
  have hgt : -D < M.tmod D := by
    have := Int.lt_tmod_of_pos M (show 0 < D by omega)
    exact this
  generalize M.tdiv D = q at *
  generalize M.tmod D = r at *
  symm
  rw [Int.ediv_eq_iff_of_pos (by omega)]
  constructor
  · rw [Int.sub_mul]; rw [Int.mul_comm]; omega
  · rw [Int.sub_mul, Int.mul_comm]; omega
theorem near_tdiv_pos (n u : Int) (hu : 1 ≤ u) (h : ¬ (2 * n + u).tmod (2 * u) < 0) : (2 * n + u).tdiv (2 * u) = near n u := by
  unfold near
  generalize hD : 2 * u = D at *
  generalize hN : 2 * n + u = M at *
  have hD1 : 1 ≤ D := by omega
  have e := Int.mul_tdiv_add_tmod M D
  have hlt := Int.tmod_lt_of_pos M (show 0 < D by omega)
  generalize M.tdiv D = q at *
  generalize M.tmod D = r at *
  symm
  rw [Int.ediv_eq_iff_of_pos (by omega)]
  constructor
  · rw [Int.mul_comm]; omega
  · rw [Int.mul_comm]; omega

theorem near_le (n u : Int) (hu : 1 ≤ u) (b : Int) (hb : 0 ≤ b) (h : n ≤ b) : near n u ≤ b := by
  unfold near
  have : (2 * n + u) / (2 * u) < b + 1 := by
    rw [Int.ediv_lt_iff_lt_mul (by omega)]
    have h1 : b * 1 ≤ b * u := Int.mul_le_mul_of_nonneg_left hu hb
    have e : (b + 1) * (2 * u) = 2 * (b * u) + 2 * u := by rw [Int.add_mul, Int.mul_left_comm]; omega
    omega
  omega
theorem near_ge (n u : Int) (hu : 1 ≤ u) (b : Int) (hb : b ≤ 0) (h : b ≤ n) : b ≤ near n u := by
  unfold near
  rw [Int.le_ediv_iff_mul_le (by omega)]
  have h1 : (-b) * 1 ≤ (-b) * u := Int.mul_le_mul_of_nonneg_left hu (by omega)
  have e : b * (2 * u) = - (2 * ((-b) * u)) := by rw [Int.mul_left_comm, Int.neg_mul]; omega
  omega
theorem near_mono (n m u : Int) (hu : 1 ≤ u) (h : n ≤ m) : near n u ≤ near m u := by
  unfold near
  exact Int.ediv_le_ediv (by omega) (by omega)
/-- what rounding means: the number lies in the half-open interval around the multiple -/
theorem near_spec (n u : Int) (hu : 1 ≤ u) : -u ≤ 2 * (n - u * near n u) ∧ 2 * (n - u * near n u) < u := by
  unfold near
  have h := Int.mul_ediv_add_emod (2 * n + u) (2 * u)
  have h1 := Int.emod_nonneg (2 * n + u) (show 2 * u ≠ 0 by omega)
  have h2 := Int.emod_lt_of_pos (2 * n + u) (show 0 < 2 * u by omega)
  rw [Int.mul_assoc] at h
  constructor <;> omega
theorem near_unique (n u q : Int) (hu : 1 ≤ u) (h1 : -u ≤ 2 * (n - u * q)) (h2 : 2 * (n - u * q) < u) : near n u = q := by
  unfold near
  rw [Int.ediv_eq_iff_of_pos (by omega)]
  have e : q * (2 * u) = 2 * (u * q) := by rw [Int.mul_left_comm, Int.mul_comm q u]
  omega

/-- the first error of Round but ErrWide -/
def rErr (lo hi u : Int) : Int := if u < 1 ∨ 1099511627776 < u then 2 else if fitsB lo = false ∨ fitsB hi = false then 5 else if hi < lo then 1 else 0
theorem rErr_ok {lo hi u : Int} (h : rErr lo hi u = 0) : 1 ≤ u ∧ u ≤ 1099511627776 ∧ fitsB lo = true ∧ fitsB hi = true ∧ lo ≤ hi := by
  unfold rErr at h
  split at h
  · simp at h
  split at h
  · simp at h
  split at h
  · simp at h
  rename_i a b c
  simp at b
  exact ⟨by omega, by omega, b.1, b.2, by omega⟩

/-- what Round returns -/
def rdVal (lo hi u : Int) : Int := if rErr lo hi u = 0 ∧ near lo u = near hi u then near lo u else 0
def rdErr (lo hi u : Int) : Int := if rErr lo hi u = 0 then (if near lo u = near hi u then 0 else 24) else rErr lo hi u

/-! the reference -/
end Go.Proofs.YtfknmceffkagaaaDoor.dc
