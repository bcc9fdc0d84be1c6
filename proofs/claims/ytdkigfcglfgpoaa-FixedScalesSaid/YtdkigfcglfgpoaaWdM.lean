/- Plain numbers under package wide: values, carries, quotients, roots: no run of the model here. -/
import Derived.Test.YtdkigfcglfgpoaaDivP
namespace Go.Proofs.Ytdkigfcglfgpoaa.wd
set_option linter.unusedVariables false

/-- the value of a wide integer -/
def wv (h l : Int) : Int := h * 1152921504606846976 + l
/-- does a wide integer keep the bounds of Hi and Lo -/
def wok (h l : Int) : Bool := decide (-1152921504606846976 ≤ h ∧ h < 1152921504606846976 ∧ 0 ≤ l ∧ l < 1152921504606846976)
theorem wok_iff (h l : Int) : wok h l = true ↔ (-1152921504606846976 ≤ h ∧ h < 1152921504606846976 ∧ 0 ≤ l ∧ l < 1152921504606846976) := by unfold wok; simp
theorem wok_not (h l : Int) : wok h l = false ↔ ¬ (-1152921504606846976 ≤ h ∧ h < 1152921504606846976 ∧ 0 ≤ l ∧ l < 1152921504606846976) := by unfold wok; rw [decide_eq_false_iff_not]
/-- upper and lower part of a number -/
def wh (n : Int) : Int := n / 1152921504606846976
def wl (n : Int) : Int := n % 1152921504606846976
theorem wv_parts (n : Int) : wv (wh n) (wl n) = n := by unfold wv wh wl; omega
theorem wl_bd (n : Int) : 0 ≤ wl n ∧ wl n < 1152921504606846976 := by unfold wl; omega
/-- does a number fit -/
def wfit (n : Int) : Bool := decide (-1152921504606846976 ≤ wh n ∧ wh n < 1152921504606846976)
theorem wfit_iff (n : Int) : wfit n = true ↔ (-1152921504606846976 ≤ wh n ∧ wh n < 1152921504606846976) := by unfold wfit; simp
theorem wfit_not (n : Int) : wfit n = false ↔ ¬ (-1152921504606846976 ≤ wh n ∧ wh n < 1152921504606846976) := by unfold wfit; rw [decide_eq_false_iff_not]
theorem wok_parts (n : Int) : wok (wh n) (wl n) = wfit n := by
  have := wl_bd n
  cases hf : wfit n
  · rw [wok_not]; rw [wfit_not] at hf; omega
  · rw [wok_iff]; rw [wfit_iff] at hf; omega
theorem parts_wv (h l : Int) (hk : wok h l = true) : wh (wv h l) = h ∧ wl (wv h l) = l := by
  rw [wok_iff] at hk; unfold wh wl wv; omega
theorem fit_wv (h l : Int) (hk : wok h l = true) : wfit (wv h l) = true := by
  rw [wfit_iff, (parts_wv h l hk).1]; rw [wok_iff] at hk; omega
theorem wv_inj {h l h' l' : Int} (hk : wok h l = true) (hk' : wok h' l' = true) (e : wv h l = wv h' l') : h = h' ∧ l = l' := by
  have a := parts_wv h l hk
  have b := parts_wv h' l' hk'
  rw [e] at a
  exact ⟨a.1.symm.trans b.1, a.2.symm.trans b.2⟩
theorem wh_add (h l : Int) : wh (wv h l) = h + l / 1152921504606846976 := by unfold wh wv; omega
theorem wl_add (h l : Int) : wl (wv h l) = l % 1152921504606846976 := by unfold wl wv; omega

/-- Cmp's answer -/
def wcmp (h l h' l' : Int) : Int := if h < h' then -1 else if h' < h then 1 else if l < l' then -1 else if l' < l then 1 else 0
theorem wcmp_spec (h l h' l' : Int) (hk : wok h l = true) (hk' : wok h' l' = true) :
    wcmp h l h' l' = if wv h l < wv h' l' then -1 else if wv h' l' < wv h l then 1 else 0 := by
  rw [wok_iff] at hk hk'
  unfold wcmp wv
  by_cases a : h < h'
  · rw [if_pos a, if_pos (by omega)]
  · rw [if_neg a]
    by_cases b : h' < h
    · rw [if_pos b, if_neg (by omega), if_pos (by omega)]
    · rw [if_neg b]
      by_cases c : l < l'
      · rw [if_pos c, if_pos (by omega)]
      · rw [if_neg c]
        by_cases d : l' < l
        · rw [if_pos d, if_neg (by omega), if_pos (by omega)]
        · rw [if_neg d, if_neg (by omega), if_neg (by omega)]
def sgn (n : Int) : Int := if n < 0 then -1 else if 0 < n then 1 else 0
theorem wcmp_sgn (h l h' l' : Int) (hk : wok h l = true) (hk' : wok h' l' = true) : wcmp h l h' l' = sgn (wv h l - wv h' l') := by
  rw [wcmp_spec h l h' l' hk hk']; unfold sgn
  generalize wv h l = a; generalize wv h' l' = b
  by_cases c : a < b
  · rw [if_pos c, if_pos (by omega)]
  · rw [if_neg c, if_neg (by omega : ¬ a - b < 0)]
    by_cases d : b < a
    · rw [if_pos d, if_pos (by omega)]
    · rw [if_neg d, if_neg (by omega)]

/-- the quotient rounded down, and up, for any divisor but 0 -/
def qdn (n b : Int) : Int := if 0 < b then n / b else (-n) / (-b)
def qup (n b : Int) : Int := -(qdn (-n) b)
/-- is a number an int -/
def isI (n : Int) : Bool := decide (-9223372036854775808 ≤ n ∧ n ≤ 9223372036854775807)
theorem isI_iff (n : Int) : isI n = true ↔ (-9223372036854775808 ≤ n ∧ n ≤ 9223372036854775807) := by unfold isI; simp
theorem isI_not (n : Int) : isI n = false ↔ ¬ (-9223372036854775808 ≤ n ∧ n ≤ 9223372036854775807) := by unfold isI; rw [decide_eq_false_iff_not]

/-- division of absolute values, and the step of a rounding -/
theorem ediv_of_nat (N B : Nat) (hB : 0 < B) : ((N : Int) / (B : Int)) = ((N / B : Nat) : Int) ∧ ((-(N : Int)) / (B : Int)) = -(((N / B : Nat) : Int) + if N % B = 0 then 0 else 1) := by
  refine ⟨(Int.natCast_ediv N B).symm ▸ rfl, ?_⟩
  have h := Nat.div_add_mod N B
  have hr := Nat.mod_lt N hB
  have hc : (N : Int) = (B : Int) * ((N / B : Nat) : Int) + ((N % B : Nat) : Int) := by
    rw [← Int.natCast_mul, ← Int.natCast_add, h]
  generalize N / B = q at *
  generalize N % B = r at *
  rw [Int.ediv_eq_iff_of_pos (by omega)]
  by_cases z : r = 0
  · rw [if_pos z]
    have e1 : -((q : Int) + 0) * (B : Int) = -((B : Int) * (q : Int)) := by rw [Int.add_zero, Int.neg_mul, Int.mul_comm]
    rw [e1]; omega
  · rw [if_neg z]
    have e1 : -((q : Int) + 1) * (B : Int) = -((B : Int) * (q : Int)) - (B : Int) := by rw [Int.neg_mul, Int.add_mul, Int.mul_comm (B : Int)]; omega
    rw [e1]; omega
end Go.Proofs.Ytdkigfcglfgpoaa.wd
