/- The reference of many digits: digits, sums, comparisons, integers. -/
import Derived.Test.YtndcjldnnfhedaaDoorRows
import Derived.WalkKit
import Derived.WalkSpells
import Derived.WalkLawsBesides
import Derived.Lib.Hide
import Derived.Below
import Derived.Laws.OwnMore
import Derived.Maps.AppendAt
import Derived.Laws.AppendOwnNone
import Derived.Deep.AppendLies
import Derived.Deep.Draws
import Derived.RegionTactic
import Derived.OwnWalk
import Derived.Deep.QuietTactic
import Derived.BigQuiet
import Derived.LoopTactic
/- Plain numbers under math/bits.Div64 (the schoolbook division by digits of 32 bits): no run of the model here. -/
namespace Go.Proofs.YtndcjldnnfhedaaDoor.wd2
set_option maxRecDepth 100000
set_option linter.unusedVariables false

/-- the state of the search for a digit of the quotient: q is at least the digit Q, and q a + r = u -/
structure Dg (u a b d q r : Nat) : Prop where
  e : q * a + r = u
  ge : (u * 4294967296 + d) / (a * 4294967296 + b) ≤ q
  le : q ≤ 4294967297

theorem dg_start (u a b d : Nat) (ha : 2147483648 ≤ a) (hb : b < 4294967296) (hd : d < 4294967296) (hu : u < a * 4294967296 + b) : Dg u a b d (u / a) (u - u / a * a) := by
  have h1 : u / a * a ≤ u := Nat.div_mul_le_self u a
  refine ⟨by omega, ?_, ?_⟩
  · rw [Nat.le_div_iff_mul_le (by omega)]
    have h2 := Nat.div_mul_le_self (u * 4294967296 + d) (a * 4294967296 + b)
    generalize (u * 4294967296 + d) / (a * 4294967296 + b) = Q at *
    have e : Q * (a * 4294967296 + b) = Q * a * 4294967296 + Q * b := by rw [Nat.mul_add, Nat.mul_assoc]
    rw [e] at h2
    generalize Q * a = x at *
    generalize Q * b = y at *
    omega
  · have : u / a < 4294967298 := by
      rw [Nat.div_lt_iff_lt_mul (by omega)]
      omega
    omega

theorem dg_lt (u a b d : Nat) (hd : d < 4294967296) (hu : u < a * 4294967296 + b) : (u * 4294967296 + d) / (a * 4294967296 + b) < 4294967296 := by
  rw [Nat.div_lt_iff_lt_mul (by omega)]
  omega

theorem dg_stop {u a b d q r : Nat} (h : Dg u a b d q r) (ha : 0 < a) (h2 : q * b ≤ 4294967296 * r + d) : q = (u * 4294967296 + d) / (a * 4294967296 + b) := by
  refine Nat.le_antisymm ?_ h.ge
  rw [Nat.le_div_iff_mul_le (by omega)]
  have e : q * (a * 4294967296 + b) = q * a * 4294967296 + q * b := by rw [Nat.mul_add, Nat.mul_assoc]
  have he := h.e
  rw [e]
  generalize q * a = x at *
  generalize q * b = y at *
  omega

theorem dg_gt {u a b d q r : Nat} (h : Dg u a b d q r) (ha : 0 < a) (hd : d < 4294967296) (hu : u < a * 4294967296 + b) (h2 : 4294967296 ≤ q ∨ 4294967296 * r + d < q * b) : (u * 4294967296 + d) / (a * 4294967296 + b) < q := by
  rcases h2 with h2 | h2
  · have := dg_lt u a b d hd hu; omega
  · rw [Nat.div_lt_iff_lt_mul (by omega)]
    have e : q * (a * 4294967296 + b) = q * a * 4294967296 + q * b := by rw [Nat.mul_add, Nat.mul_assoc]
    have he := h.e
    rw [e]
    generalize q * a = x at *
    generalize q * b = y at *
    omega

theorem dg_more {u a b d q r : Nat} (h : Dg u a b d q r) (ha : 0 < a) (hd : d < 4294967296) (hu : u < a * 4294967296 + b) (h2 : 4294967296 ≤ q ∨ 4294967296 * r + d < q * b) : 1 ≤ q ∧ Dg u a b d (q - 1) (r + a) := by
  have hg := dg_gt h ha hd hu h2
  have h1 : 1 ≤ q := Nat.lt_of_le_of_lt (Nat.zero_le _) hg
  refine ⟨h1, ?_, Nat.le_sub_one_of_lt hg, by have := h.le; omega⟩
  obtain ⟨p, rfl⟩ : ∃ p, q = p + 1 := ⟨q - 1, by omega⟩
  have he := h.e
  rw [Nat.add_mul] at he
  show p * a + (r + a) = u
  omega

theorem dg_break {u a b d q r : Nat} (h : Dg u a b d q r) (ha : 0 < a) (hb : b < 4294967296) (hq : q ≤ 4294967296) (hr : 4294967296 ≤ r) : q = (u * 4294967296 + d) / (a * 4294967296 + b) := by
  refine dg_stop h ha ?_
  have h1 : q * b ≤ 4294967296 * b := Nat.mul_le_mul_right b hq
  omega

/-- the remainder behind a digit -/
theorem dg_rest (u y d : Nat) (hy : 0 < y) (B : Nat) : u * B + d - (u * B + d) / y * y = (u * B + d) % y := by
  have h := Nat.div_add_mod (u * B + d) y
  rw [Nat.mul_comm] at h
  omega

theorem two_digits_aux (m d0 y B : Nat) (hy : 0 < y) :
    m / y * B + (m % y * B + d0) / y = (m * B + d0) / y ∧ (m % y * B + d0) % y = (m * B + d0) % y := by
  have h := Nat.div_add_mod m y
  have e : m * B + d0 = y * (m / y * B) + (m % y * B + d0) := by
    conv => lhs; rw [← h]
    rw [Nat.add_mul, Nat.mul_assoc]; omega
  constructor
  · rw [e, Nat.mul_add_div hy]
  · rw [e, Nat.mul_add_mod]
/-- both digits together -/
theorem two_digits (u d1 d0 y : Nat) (hy : 0 < y) :
    (u * 4294967296 + d1) / y * 4294967296 + ((u * 4294967296 + d1) % y * 4294967296 + d0) / y = ((u * 4294967296 + d1) * 4294967296 + d0) / y ∧
    ((u * 4294967296 + d1) % y * 4294967296 + d0) % y = ((u * 4294967296 + d1) * 4294967296 + d0) % y :=
  two_digits_aux _ d0 y _ hy

/-- the shift of dividend and divisor by k = 2^s -/
theorem shifted (N y k : Nat) (hk : 0 < k) : N * k / (y * k) = N / y ∧ (N * k) % (y * k) / k = N % y := by
  constructor
  · exact Nat.mul_div_mul_right N y hk
  · rw [Nat.mul_mod_mul_right, Nat.mul_div_cancel _ hk]

/-- the upper word of the shifted dividend -/
theorem shift_high (hi lo s : Nat) (hs : s ≤ 63) (hlo : lo < 18446744073709551616) :
    (hi * 18446744073709551616 + lo) * 2 ^ s = (hi * 2 ^ s + lo / 2 ^ (64 - s)) * 18446744073709551616 + lo * 2 ^ s % 18446744073709551616 ∧ lo / 2 ^ (64 - s) < 2 ^ s := by
  have e : (18446744073709551616 : Nat) = 2 ^ (64 - s) * 2 ^ s := by rw [← Nat.pow_add]; rw [show 64 - s + s = 64 by omega]
  have hp : 0 < 2 ^ s := Nat.pow_pos (by omega)
  have hp2 : 0 < 2 ^ (64 - s) := Nat.pow_pos (by omega)
  constructor
  · have h := Nat.div_add_mod lo (2 ^ (64 - s))
    have e2 : lo * 2 ^ s % 18446744073709551616 = lo % 2 ^ (64 - s) * 2 ^ s := by
      rw [e, Nat.mul_mod_mul_right]
    have e3 : lo * 2 ^ s = lo / 2 ^ (64 - s) * 18446744073709551616 + lo % 2 ^ (64 - s) * 2 ^ s := by
      conv => lhs; rw [← h]
      rw [Nat.add_mul, e]
      rw [Nat.mul_comm (2 ^ (64 - s)) (lo / 2 ^ (64 - s)), Nat.mul_assoc]
    rw [Nat.add_mul, e2, Nat.add_mul, e3]
    have : hi * 18446744073709551616 * 2 ^ s = hi * 2 ^ s * 18446744073709551616 := by rw [Nat.mul_right_comm]
    omega
  · rw [Nat.div_lt_iff_lt_mul hp2, Nat.mul_comm, ← e]; exact hlo
end Go.Proofs.YtndcjldnnfhedaaDoor.wd2

/- Plain numbers under package wide: values, carries, quotients, roots: no run of the model here. -/
namespace Go.Proofs.YtndcjldnnfhedaaDoor.wd2
set_option maxRecDepth 100000
set_option linter.unusedVariables false

/-- the value of a wide integer -/
def wv (h l : Int) : Int := h * 1152921504606846976 + l
/-- does a wide integer keep the bounds of Hi and Lo -/
def wok (h l : Int) : Bool := decide (-1152921504606846976 ≤ h ∧ h < 1152921504606846976 ∧ 0 ≤ l ∧ l < 1152921504606846976)
theorem wok_iff (h l : Int) : wok h l = true ↔ (-1152921504606846976 ≤ h ∧ h < 1152921504606846976 ∧ 0 ≤ l ∧ l < 1152921504606846976) := by unfold wok; simp
theorem wok_not (h l : Int) : wok h l = false ↔ ¬ (-1152921504606846976 ≤ h ∧ h < 1152921504606846976 ∧ 0 ≤ l ∧ l < 1152921504606846976) := by unfold wok; rw [decide_eq_false_iff_not]
/-- upper and lower part of a number -/
def wh (n : Int) : Int := n / 1152921504606846976
def wl (n : Int) : Int := n % 1152921504606846976
theorem wv_parts (n : Int) : wv (wh n) (wl n) = n := by unfold wv wh wl; omega
theorem wl_bd (n : Int) : 0 ≤ wl n ∧ wl n < 1152921504606846976 := by unfold wl; omega
/-- does a number fit -/
def wfit (n : Int) : Bool := decide (-1152921504606846976 ≤ wh n ∧ wh n < 1152921504606846976)
theorem wfit_iff (n : Int) : wfit n = true ↔ (-1152921504606846976 ≤ wh n ∧ wh n < 1152921504606846976) := by unfold wfit; simp
theorem wfit_not (n : Int) : wfit n = false ↔ ¬ (-1152921504606846976 ≤ wh n ∧ wh n < 1152921504606846976) := by unfold wfit; rw [decide_eq_false_iff_not]
theorem wok_parts (n : Int) : wok (wh n) (wl n) = wfit n := by
  have := wl_bd n
  cases hf : wfit n
  · rw [wok_not]; rw [wfit_not] at hf; omega
  · rw [wok_iff]; rw [wfit_iff] at hf; omega
theorem parts_wv (h l : Int) (hk : wok h l = true) : wh (wv h l) = h ∧ wl (wv h l) = l := by
  rw [wok_iff] at hk; unfold wh wl wv; omega
theorem fit_wv (h l : Int) (hk : wok h l = true) : wfit (wv h l) = true := by
  rw [wfit_iff, (parts_wv h l hk).1]; rw [wok_iff] at hk; omega
theorem wv_inj {h l h' l' : Int} (hk : wok h l = true) (hk' : wok h' l' = true) (e : wv h l = wv h' l') : h = h' ∧ l = l' := by
  have a := parts_wv h l hk
  have b := parts_wv h' l' hk'
  rw [e] at a
  exact ⟨a.1.symm.trans b.1, a.2.symm.trans b.2⟩
theorem wh_add (h l : Int) : wh (wv h l) = h + l / 1152921504606846976 := by unfold wh wv; omega
theorem wl_add (h l : Int) : wl (wv h l) = l % 1152921504606846976 := by unfold wl wv; omega

/-- Cmp's answer -/
def wcmp (h l h' l' : Int) : Int := if h < h' then -1 else if h' < h then 1 else if l < l' then -1 else if l' < l then 1 else 0
theorem wcmp_spec (h l h' l' : Int) (hk : wok h l = true) (hk' : wok h' l' = true) :
    wcmp h l h' l' = if wv h l < wv h' l' then -1 else if wv h' l' < wv h l then 1 else 0 := by
  rw [wok_iff] at hk hk'
  unfold wcmp wv
  by_cases a : h < h'
  · rw [if_pos a, if_pos (by omega)]
  · rw [if_neg a]
    by_cases b : h' < h
    · rw [if_pos b, if_neg (by omega), if_pos (by omega)]
    · rw [if_neg b]
      by_cases c : l < l'
      · rw [if_pos c, if_pos (by omega)]
      · rw [if_neg c]
        by_cases d : l' < l
        · rw [if_pos d, if_neg (by omega), if_pos (by omega)]
        · rw [if_neg d, if_neg (by omega), if_neg (by omega)]
def sgn (n : Int) : Int := if n < 0 then -1 else if 0 < n then 1 else 0
theorem wcmp_sgn (h l h' l' : Int) (hk : wok h l = true) (hk' : wok h' l' = true) : wcmp h l h' l' = sgn (wv h l - wv h' l') := by
  rw [wcmp_spec h l h' l' hk hk']; unfold sgn
  generalize wv h l = a; generalize wv h' l' = b
  by_cases c : a < b
  · rw [if_pos c, if_pos (by omega)]
  · rw [if_neg c, if_neg (by omega : ¬ a - b < 0)]
    by_cases d : b < a
    · rw [if_pos d, if_pos (by omega)]
    · rw [if_neg d, if_neg (by omega)]

/-- the quotient rounded down, and up, for any divisor but 0 -/
def qdn (n b : Int) : Int := if 0 < b then n / b else (-n) / (-b)
def qup (n b : Int) : Int := -(qdn (-n) b)
/-- is a number an int -/
def isI (n : Int) : Bool := decide (-9223372036854775808 ≤ n ∧ n ≤ 9223372036854775807)
theorem isI_iff (n : Int) : isI n = true ↔ (-9223372036854775808 ≤ n ∧ n ≤ 9223372036854775807) := by unfold isI; simp
theorem isI_not (n : Int) : isI n = false ↔ ¬ (-9223372036854775808 ≤ n ∧ n ≤ 9223372036854775807) := by unfold isI; rw [decide_eq_false_iff_not]

/-- division of absolute values, and the step of a rounding -/
theorem ediv_of_nat (N B : Nat) (hB : 0 < B) : ((N : Int) / (B : Int)) = ((N / B : Nat) : Int) ∧ ((-(N : Int)) / (B : Int)) = -(((N / B : Nat) : Int) + if N % B = 0 then 0 else 1) := by
  refine ⟨(Int.natCast_ediv N B).symm ▸ rfl, ?_⟩
  have h := Nat.div_add_mod N B
  have hr := Nat.mod_lt N hB
  have hc : (N : Int) = (B : Int) * ((N / B : Nat) : Int) + ((N % B : Nat) : Int) := by
    rw [← Int.natCast_mul, ← Int.natCast_add, h]
  generalize N / B = q at *
  generalize N % B = r at *
  rw [Int.ediv_eq_iff_of_pos (by omega)]
  by_cases z : r = 0
  · rw [if_pos z]
    have e1 : -((q : Int) + 0) * (B : Int) = -((B : Int) * (q : Int)) := by rw [Int.add_zero, Int.neg_mul, Int.mul_comm]
    rw [e1]; omega
  · rw [if_neg z]
    have e1 : -((q : Int) + 1) * (B : Int) = -((B : Int) * (q : Int)) - (B : Int) := by rw [Int.neg_mul, Int.add_mul, Int.mul_comm (B : Int)]; omega
    rw [e1]; omega
end Go.Proofs.YtndcjldnnfhedaaDoor.wd2

/- Plain numbers: digits of base 2^28, the least one first: no run of the model here. -/
namespace Go.Proofs.YtndcjldnnfhedaaDoor.wd2
set_option maxRecDepth 100000
set_option linter.unusedVariables false

/-- powers of the base -/
def pw : Nat → Nat
  | 0 => 1
  | k + 1 => 268435456 * pw k
theorem pw_pos (k : Nat) : 0 < pw k := by induction k with | zero => exact Nat.one_pos | succ n ih => unfold pw; omega
theorem pw_add (a b : Nat) : pw (a + b) = pw a * pw b := by
  induction a with
  | zero => rw [Nat.zero_add]; show pw b = 1 * pw b; rw [Nat.one_mul]
  | succ n ih => rw [Nat.add_right_comm]; show 268435456 * pw (n + b) = 268435456 * pw n * pw b; rw [ih, Nat.mul_assoc]
theorem pw_mono {a b : Nat} (h : a ≤ b) : pw a ≤ pw b := by
  obtain ⟨c, rfl⟩ : ∃ c, b = a + c := ⟨b - a, by omega⟩
  rw [pw_add]; exact Nat.le_mul_of_pos_right _ (pw_pos c)
theorem pw_lt_base {a b : Nat} (h : pw a < pw b) : a < b := by
  rcases Nat.lt_or_ge a b with h1 | h1
  · exact h1
  · have := pw_mono h1; omega
/-- the value of digits -/
def val : List Nat → Nat
  | [] => 0
  | d :: l => d + 268435456 * val l
/-- digits are less than the base -/
def Dok (l : List Nat) : Prop := ∀ d ∈ l, d < 268435456
theorem Dok.cons {d : Nat} {l : List Nat} : Dok (d :: l) ↔ d < 268435456 ∧ Dok l := by unfold Dok; simp
theorem Dok.nil : Dok [] := by intro d h; simp at h
theorem Dok.append {l m : List Nat} : Dok (l ++ m) ↔ Dok l ∧ Dok m := by
  unfold Dok; constructor
  · intro h; exact ⟨fun d hd => h d (by simp [hd]), fun d hd => h d (by simp [hd])⟩
  · rintro ⟨h1, h2⟩ d hd; rcases List.mem_append.1 hd with h | h; exact h1 d h; exact h2 d h
theorem Dok.take {l : List Nat} (h : Dok l) (k : Nat) : Dok (l.take k) := fun d hd => h d (List.mem_of_mem_take hd)
theorem Dok.drop {l : List Nat} (h : Dok l) (k : Nat) : Dok (l.drop k) := fun d hd => h d (List.mem_of_mem_drop hd)
theorem Dok.get {l : List Nat} (h : Dok l) (k : Nat) : l.getD k 0 < 268435456 := by
  rw [List.getD_eq_getElem?_getD]
  rcases Nat.lt_or_ge k l.length with hk | hk
  · rw [List.getElem?_eq_getElem hk]; exact h _ (List.getElem_mem hk)
  · rw [List.getElem?_eq_none hk]; simp
theorem val_append (l m : List Nat) : val (l ++ m) = val l + pw l.length * val m := by
  induction l with
  | nil => simp [val, pw]
  | cons d t ih => simp only [List.cons_append, val, List.length_cons, pw, ih, Nat.mul_add, Nat.mul_assoc]; omega
theorem val_snoc (l : List Nat) (d : Nat) : val (l ++ [d]) = val l + pw l.length * d := by rw [val_append]; simp [val]
theorem val_lt {l : List Nat} (h : Dok l) : val l < pw l.length := by
  induction l with
  | nil => simp [val, pw]
  | cons d t ih =>
    rw [Dok.cons] at h
    have := ih h.2
    simp only [val, List.length_cons, pw]; omega
theorem val_take_succ (l : List Nat) (k : Nat) (h : k < l.length) : val (l.take (k + 1)) = val (l.take k) + pw k * l.getD k 0 := by
  rw [List.take_succ_eq_append_getElem h, val_snoc, List.length_take, Nat.min_eq_left (by omega), List.getD_eq_getElem?_getD, List.getElem?_eq_getElem h]; rfl
theorem val_take_all (l : List Nat) (k : Nat) (h : l.length ≤ k) : val (l.take k) = val l := by rw [List.take_of_length_le h]
theorem val_take_drop (l : List Nat) (k : Nat) (h : k ≤ l.length) : val l = val (l.take k) + pw k * val (l.drop k) := by
  conv => lhs; rw [← List.take_append_drop k l]
  rw [val_append, List.length_take, Nat.min_eq_left h]
theorem val_drop_succ (l : List Nat) (k : Nat) (h : k < l.length) : val (l.drop k) = l.getD k 0 + 268435456 * val (l.drop (k + 1)) := by
  rw [List.drop_eq_getElem_cons h, List.getD_eq_getElem?_getD, List.getElem?_eq_getElem h]; rfl
theorem val_take_mono (l : List Nat) (k : Nat) : val (l.take k) ≤ val l := by
  rcases Nat.le_total k l.length with h | h
  · have := val_take_drop l k h; omega
  · rw [val_take_all l k h]; exact Nat.le_refl _
theorem val_set (l : List Nat) (p x : Nat) (h : p < l.length) : val (l.set p x) + pw p * l.getD p 0 = val l + pw p * x := by
  induction l generalizing p with
  | nil => simp at h
  | cons d t ih =>
    cases p with
    | zero => simp [val, pw]; omega
    | succ q =>
      have hq : q < t.length := by simpa using h
      have := ih q hq
      simp only [List.set_cons_succ, val, pw, List.getD_cons_succ, Nat.mul_assoc]
      omega
theorem Dok.set {l : List Nat} (h : Dok l) (p : Nat) {x : Nat} (hx : x < 268435456) : Dok (l.set p x) := by
  intro d hd
  rcases List.mem_or_eq_of_mem_set hd with h1 | h1
  · exact h d h1
  · rw [h1]; exact hx

/-- the digits of a number, without zeros at the end -/
def dgs (n : Nat) : List Nat := if h : n = 0 then [] else (n % 268435456) :: dgs (n / 268435456)
termination_by n
decreasing_by exact Nat.div_lt_self (Nat.pos_of_ne_zero h) (by omega)
theorem dgs_zero : dgs 0 = [] := by rw [dgs]; rfl
theorem dgs_pos (n : Nat) (h : n ≠ 0) : dgs n = (n % 268435456) :: dgs (n / 268435456) := by rw [dgs, dif_neg h]
/-- digits without zeros at the end -/
structure Can (l : List Nat) : Prop where
  ok : Dok l
  top : l = [] ∨ pw (l.length - 1) ≤ val l
theorem can_nil : Can [] := ⟨Dok.nil, .inl rfl⟩
theorem dgs_spec (n : Nat) : Can (dgs n) ∧ val (dgs n) = n := by
  induction n using Nat.strongRecOn with
  | ind n ih =>
    by_cases h : n = 0
    · subst h; rw [dgs_zero]; exact ⟨can_nil, rfl⟩
    · obtain ⟨c, e⟩ := ih (n / 268435456) (Nat.div_lt_self (Nat.pos_of_ne_zero h) (by omega))
      rw [dgs_pos n h]
      have ev : val (n % 268435456 :: dgs (n / 268435456)) = n := by simp only [val, e]; omega
      refine ⟨⟨Dok.cons.2 ⟨Nat.mod_lt _ (by omega), c.ok⟩, .inr ?_⟩, ev⟩
      rw [ev]
      rcases c.top with h1 | h1
      · rw [h1]; simp [pw]; omega
      · rw [e] at h1
        simp only [List.length_cons, Nat.add_sub_cancel]
        rcases hl : dgs (n / 268435456) with _ | ⟨d, t⟩
        · simp [pw]; omega
        · rw [hl] at h1
          simp only [List.length_cons, Nat.add_sub_cancel] at h1
          simp only [List.length_cons, pw]
          omega
theorem val_dgs (n : Nat) : val (dgs n) = n := (dgs_spec n).2
theorem can_dgs (n : Nat) : Can (dgs n) := (dgs_spec n).1
theorem can_unique (l : List Nat) (c : Can l) : l = dgs (val l) := by
  induction l with
  | nil => rw [show val [] = 0 from rfl, dgs_zero]
  | cons d t ih =>
    have hd := Dok.cons.1 c.ok
    have hp : 0 < val (d :: t) := by
      rcases c.top with h | h
      · simp at h
      · exact Nat.lt_of_lt_of_le (pw_pos _) h
    rw [dgs_pos _ (by omega)]
    have e1 : val (d :: t) % 268435456 = d := by have := hd.1; simp only [val]; omega
    have e2 : val (d :: t) / 268435456 = val t := by have := hd.1; simp only [val]; omega
    rw [e1, e2]
    have ct : Can t := by
      refine ⟨hd.2, ?_⟩
      rcases t with _ | ⟨x, s⟩
      · exact .inl rfl
      · right
        rcases c.top with h | h
        · simp at h
        · have := hd.1
          simp only [List.length_cons, Nat.add_sub_cancel, pw] at h ⊢
          simp only [val] at h ⊢
          omega
    rw [← ih ct]
theorem can_eq {l : List Nat} (c : Can l) {n : Nat} (h : val l = n) : l = dgs n := by rw [← h]; exact can_unique l c
/-- lengths tell the order -/
theorem can_len_lt {l m : List Nat} (cl : Can l) (cm : Can m) (h : l.length < m.length) : val l < val m := by
  have h1 := val_lt cl.ok
  rcases cm.top with h2 | h2
  · rw [h2] at h; simp at h
  · have := pw_mono (show l.length ≤ m.length - 1 by omega); omega
theorem can_pos {l : List Nat} (c : Can l) (h : l ≠ []) : 0 < val l := by
  rcases c.top with h2 | h2
  · exact absurd h2 h
  · exact Nat.lt_of_lt_of_le (pw_pos _) h2
theorem dgs_len_le (n k : Nat) (h : n < pw k) : (dgs n).length ≤ k := by
  rcases (can_dgs n).top with h1 | h1
  · rw [h1]; simp
  · rw [val_dgs] at h1
    have := pw_lt_base (Nat.lt_of_le_of_lt h1 h); omega
/-- a prefix whose last digit is not 0 is without zeros at the end -/
theorem can_take {l : List Nat} (h : Dok l) (k : Nat) (hk : k ≤ l.length) (hz : k = 0 ∨ l.getD (k - 1) 0 ≠ 0) : Can (l.take k) := by
  refine ⟨h.take k, ?_⟩
  rcases Nat.eq_zero_or_pos k with h0 | h0
  · subst h0; left; simp
  · right
    rcases hz with h1 | hz
    · omega
    · obtain ⟨j, rfl⟩ : ∃ j, k = j + 1 := ⟨k - 1, by omega⟩
      rw [val_take_succ l j (by omega), List.length_take, Nat.min_eq_left hk]
      simp only [Nat.add_sub_cancel] at hz ⊢
      have : pw j * 1 ≤ pw j * l.getD j 0 := Nat.mul_le_mul_left _ (Nat.pos_of_ne_zero hz)
      omega
end Go.Proofs.YtndcjldnnfhedaaDoor.wd2

/- Plain numbers: what a round of each loop of the reference's arithmetic of digits does: no run of the model here. -/
namespace Go.Proofs.YtndcjldnnfhedaaDoor.wd2
set_option maxRecDepth 100000
set_option linter.unusedVariables false

theorem can_getLast {l : List Nat} (c : Can l) (h : l ≠ []) : l.getD (l.length - 1) 0 ≠ 0 := by
  intro e
  have hp : 0 < l.length := List.length_pos_iff.2 h
  have h1 := val_take_succ l (l.length - 1) (by omega)
  rw [show l.length - 1 + 1 = l.length by omega, List.take_length, e, Nat.mul_zero, Nat.add_zero] at h1
  have h2 := val_lt (c.ok.take (l.length - 1))
  rw [List.length_take, Nat.min_eq_left (by omega)] at h2
  rcases c.top with h3 | h3
  · exact h h3
  · omega

/-- digits from k on are 0 if the value is less than the k-th power -/
theorem digit_zero {l : List Nat} {k : Nat} (h : val l < pw k) (j : Nat) (hj : k ≤ j) : l.getD j 0 = 0 := by
  rcases Nat.lt_or_ge j l.length with h1 | h1
  · have e := val_take_succ l j h1
    have m := val_take_mono l (j + 1)
    have p := pw_mono hj
    rcases Nat.eq_zero_or_pos (l.getD j 0) with z | z
    · exact z
    · have : pw j * 1 ≤ pw j * l.getD j 0 := Nat.mul_le_mul_left _ z
      omega
  · rw [List.getD_eq_getElem?_getD, List.getElem?_eq_none h1]; rfl

-- Order
theorem ord_lt {a b : List Nat} (ha : Dok a) (hb : Dok b) (hl : a.length = b.length) (i : Nat) (hi : i < a.length) (he : a.drop (i + 1) = b.drop (i + 1)) (h : a.getD i 0 < b.getD i 0) : val a < val b := by
  have e1 := val_take_drop a i (by omega)
  have e2 := val_take_drop b i (by omega)
  have f1 := val_drop_succ a i hi
  have f2 := val_drop_succ b i (by omega)
  rw [he] at f1
  have l1 := val_lt (ha.take i)
  rw [List.length_take, Nat.min_eq_left (by omega)] at l1
  have : val (a.drop i) + 1 ≤ val (b.drop i) := by omega
  have := Nat.mul_le_mul_left (pw i) this
  rw [Nat.mul_add] at this
  omega
theorem drop_step {a b : List Nat} (hl : a.length = b.length) (i : Nat) (hi : i < a.length) (he : a.drop (i + 1) = b.drop (i + 1)) (h : a.getD i 0 = b.getD i 0) : a.drop i = b.drop i := by
  rw [List.drop_eq_getElem_cons hi, List.drop_eq_getElem_cons (by omega : i < b.length), he]
  congr 1
  rw [List.getD_eq_getElem?_getD, List.getD_eq_getElem?_getD, List.getElem?_eq_getElem hi, List.getElem?_eq_getElem (by omega : i < b.length)] at h
  exact h
def ord (x y : Nat) : Int := if x < y then -1 else if y < x then 1 else 0
theorem ord_of_lt {x y : Nat} (h : x < y) : ord x y = -1 := by unfold ord; rw [if_pos h]
theorem ord_of_gt {x y : Nat} (h : y < x) : ord x y = 1 := by unfold ord; rw [if_neg (by omega), if_pos h]
theorem ord_of_eq {x y : Nat} (h : x = y) : ord x y = 0 := by unfold ord; rw [if_neg (by omega), if_neg (by omega)]
theorem ord_le {x y : Nat} : ord x y ≤ 0 ↔ x ≤ y := by unfold ord; split; omega; split <;> omega
theorem ord_neg {x y : Nat} : ord x y < 0 ↔ x < y := by unfold ord; split; omega; split <;> omega
theorem ord_nn {x y : Nat} : 0 ≤ ord x y ↔ y ≤ x := by unfold ord; split; omega; split <;> omega
theorem ord_bd (x y : Nat) : -1 ≤ ord x y ∧ ord x y ≤ 1 := by unfold ord; split; omega; split <;> omega

-- Sum
structure SumI (a b : List Nat) (i carry : Nat) (O : List Nat) : Prop where
  len : O.length = i
  ok : Dok O
  eq : val O + pw i * carry = val (a.take i) + val (b.take i)
  c1 : carry ≤ 1
  top : i = 0 ∨ pw (i - 1) ≤ val a + val b
  small : i ≤ max a.length b.length ∨ carry = 0
theorem sumI_start (a b : List Nat) : SumI a b 0 0 [] := ⟨rfl, Dok.nil, by simp [val], by omega, .inl rfl, .inr rfl⟩
theorem take_over (l : List Nat) (i : Nat) : val (l.take (i + 1)) = val (l.take i) + pw i * l.getD i 0 := by
  rcases Nat.lt_or_ge i l.length with h | h
  · exact val_take_succ l i h
  · rw [val_take_all l (i + 1) (by omega), val_take_all l i h, List.getD_eq_getElem?_getD, List.getElem?_eq_none h]; rfl
theorem sumI_step {a b : List Nat} (ca : Can a) (cb : Can b) {i carry : Nat} {O : List Nat} (h : SumI a b i carry O) (hc : i < a.length ∨ i < b.length ∨ 0 < carry) :
    SumI a b (i + 1) ((carry + a.getD i 0 + b.getD i 0) / 268435456) (O ++ [(carry + a.getD i 0 + b.getD i 0) % 268435456]) := by
  have d1 := ca.ok.get i
  have d2 := cb.ok.get i
  have e1 := take_over a i
  have e2 := take_over b i
  have hc1 := h.c1
  have he := h.eq
  generalize a.getD i 0 = x at *
  generalize b.getD i 0 = y at *
  have hd := Nat.div_add_mod (carry + x + y) 268435456
  have hm := Nat.mod_lt (carry + x + y) (show 0 < 268435456 by omega)
  generalize hq : (carry + x + y) / 268435456 = q at *
  generalize (carry + x + y) % 268435456 = r at *
  have hq1 : q ≤ 1 := by omega
  have E : val (O ++ [r]) + pw (i + 1) * q = val (a.take (i + 1)) + val (b.take (i + 1)) := by
    rw [val_snoc, h.len, e1, e2, show pw (i + 1) = 268435456 * pw i from rfl]
    have : pw i * r + 268435456 * pw i * q = pw i * carry + pw i * x + pw i * y := by
      rw [← Nat.mul_add, ← Nat.mul_add, Nat.mul_comm 268435456 (pw i), Nat.mul_assoc, ← Nat.mul_add]
      congr 1; omega
    omega
  refine ⟨by simp [h.len], Dok.append.2 ⟨h.ok, Dok.cons.2 ⟨hm, Dok.nil⟩⟩, E, hq1, .inr ?_, ?_⟩
  · rw [Nat.add_sub_cancel]
    have t1 := val_take_mono a i
    have t2 := val_take_mono b i
    rcases hc with hc | hc | hc
    · rcases ca.top with z | z
      · rw [z] at hc; simp at hc
      · have := pw_mono (show i ≤ a.length - 1 by omega); omega
    · rcases cb.top with z | z
      · rw [z] at hc; simp at hc
      · have := pw_mono (show i ≤ b.length - 1 by omega); omega
    · have hc' : carry = 1 := by omega
      rw [hc', Nat.mul_one] at he
      omega
  · rcases Nat.lt_or_ge i (max a.length b.length) with z | z
    · exact .inl (by omega)
    · right
      have z1 : ¬ i < a.length := by omega
      have z2 : ¬ i < b.length := by omega
      rw [val_take_all a i (by omega), val_take_all a (i + 1) (by omega)] at e1
      rw [val_take_all b i (by omega), val_take_all b (i + 1) (by omega)] at e2
      have p := pw_pos i
      have x0 : x = 0 := by
        rcases Nat.eq_zero_or_pos x with h0 | h0
        · exact h0
        · have := Nat.mul_pos p h0; omega
      have y0 : y = 0 := by
        rcases Nat.eq_zero_or_pos y with h0 | h0
        · exact h0
        · have := Nat.mul_pos p h0; omega
      omega
theorem sumI_end {a b : List Nat} {i : Nat} {O : List Nat} (h : SumI a b i 0 O) (h1 : ¬ i < a.length) (h2 : ¬ i < b.length) : O = dgs (val a + val b) := by
  have e := h.eq
  rw [Nat.mul_zero, Nat.add_zero, val_take_all a i (by omega), val_take_all b i (by omega)] at e
  refine can_eq ⟨h.ok, ?_⟩ e
  rw [h.len, e]
  rcases h.top with h3 | h3
  · left; have := h.len; rw [h3] at this; exact List.eq_nil_of_length_eq_zero this
  · exact .inr h3

-- Less
structure LessI (a b : List Nat) (i borrow : Nat) (O : List Nat) : Prop where
  len : O.length = i
  ok : Dok O
  eq : val O + val (b.take i) = val (a.take i) + pw i * borrow
  b1 : borrow ≤ 1
theorem lessI_start (a b : List Nat) : LessI a b 0 0 [] := ⟨rfl, Dok.nil, by simp [val], by omega⟩
theorem lessI_step {a b : List Nat} (ha : Dok a) (hb : Dok b) {i borrow : Nat} {O : List Nat} (h : LessI a b i borrow O) (d b' : Nat)
    (hd : d + (borrow + b.getD i 0) = a.getD i 0 + 268435456 * b') (hd1 : d < 268435456) (hb' : b' ≤ 1) : LessI a b (i + 1) b' (O ++ [d]) := by
  have e1 := take_over a i
  have e2 := take_over b i
  have he := h.eq
  refine ⟨by simp [h.len], Dok.append.2 ⟨h.ok, Dok.cons.2 ⟨hd1, Dok.nil⟩⟩, ?_, hb'⟩
  rw [val_snoc, h.len, e1, e2, show pw (i + 1) = 268435456 * pw i from rfl]
  have := congrArg (pw i * ·) hd
  simp only [Nat.mul_add] at this
  rw [show 268435456 * pw i * b' = pw i * (268435456 * b') by rw [Nat.mul_comm 268435456, Nat.mul_assoc]]
  omega
theorem lessI_end {a b : List Nat} (ca : Dok a) (cb : Can b) (hv : val b ≤ val a) {borrow : Nat} {O : List Nat} (h : LessI a b a.length borrow O) : val O = val a - val b := by
  have hl : b.length ≤ a.length := by
    rcases Nat.lt_or_ge a.length b.length with z | z
    · have h1 := val_lt ca
      rcases cb.top with t | t
      · rw [t] at z; simp at z
      · have := pw_mono (show a.length ≤ b.length - 1 by omega); omega
    · exact z
  have e := h.eq
  rw [val_take_all b _ hl, val_take_all a _ (Nat.le_refl _)] at e
  have h2 := val_lt h.ok
  rw [h.len] at h2
  have hb1 := h.b1
  rcases Nat.eq_zero_or_pos borrow with z | z
  · rw [z, Nat.mul_zero] at e; omega
  · rw [show borrow = 1 by omega, Nat.mul_one] at e; omega

-- Times
structure TimI (a b : List Nat) (i : Nat) (O : List Nat) : Prop where
  len : O.length = a.length + b.length
  ok : Dok O
  eq : val O = val (a.take i) * val b
theorem val_replicate_zero (n : Nat) : val (List.replicate n 0) = 0 := by induction n with | zero => rfl | succ n ih => simp [List.replicate_succ, val, ih]
theorem dok_replicate_zero (n : Nat) : Dok (List.replicate n 0) := by intro d hd; have := List.eq_of_mem_replicate hd; omega
theorem timI_start (a b : List Nat) : TimI a b 0 (List.replicate (a.length + b.length) 0) := ⟨by simp, dok_replicate_zero _, by rw [val_replicate_zero]; simp [val]⟩
structure TimJ (a b : List Nat) (i k carry : Nat) (O : List Nat) : Prop where
  len : O.length = a.length + b.length
  ok : Dok O
  eq : val O + pw (i + k) * carry = val (a.take i) * val b + pw i * (a.getD i 0 * val (b.take k))
  top : O.getD (i + b.length) 0 = 0
  c1 : carry < 268435456
theorem timJ_start {a b : List Nat} (ha : Dok a) (hb : Dok b) {i : Nat} {O : List Nat} (hi : i < a.length) (h : TimI a b i O) : TimJ a b i 0 0 O := by
  refine ⟨h.len, h.ok, by rw [h.eq]; simp [val], ?_, by omega⟩
  refine digit_zero (k := i + b.length) ?_ _ (Nat.le_refl _)
  rw [h.eq, pw_add]
  have h1 := val_lt (ha.take i)
  rw [List.length_take, Nat.min_eq_left (by omega)] at h1
  have h2 := val_lt hb
  exact Nat.mul_lt_mul_of_lt_of_le h1 (Nat.le_of_lt h2) (Nat.lt_of_le_of_lt (Nat.zero_le _) h2)
theorem mul_digit {x y : Nat} (hx : x < 268435456) (hy : y < 268435456) : x * y ≤ 72057593501057025 := by
  have : x * y ≤ 268435455 * 268435455 := Nat.mul_le_mul (by omega) (by omega)
  omega
theorem timJ_step {a b : List Nat} (ha : Dok a) (hb : Dok b) {i k carry : Nat} {O : List Nat} (hi : i < a.length) (hk : k < b.length) (h : TimJ a b i k carry O) :
    TimJ a b i (k + 1) ((O.getD (i + k) 0 + a.getD i 0 * b.getD k 0 + carry) / 268435456) (O.set (i + k) ((O.getD (i + k) 0 + a.getD i 0 * b.getD k 0 + carry) % 268435456)) := by
  have hs := val_set O (i + k) ((O.getD (i + k) 0 + a.getD i 0 * b.getD k 0 + carry) % 268435456) (by rw [h.len]; omega)
  have d0 := h.ok.get (i + k)
  have d1 := mul_digit (ha.get i) (hb.get k)
  have he := h.eq
  have e2 := take_over b k
  have c1 := h.c1
  have hlen := h.len
  have hok := h.ok
  have htop := h.top
  obtain ⟨o, ho⟩ : ∃ o, o = O.getD (i + k) 0 := ⟨_, rfl⟩
  rw [← ho] at hs d0 ⊢
  obtain ⟨z, hz⟩ : ∃ z, z = a.getD i 0 * b.getD k 0 := ⟨_, rfl⟩
  rw [← hz] at hs d1 ⊢
  have hd := Nat.div_add_mod (o + z + carry) 268435456
  have hm := Nat.mod_lt (o + z + carry) (show 0 < 268435456 by omega)
  generalize hq : (o + z + carry) / 268435456 = q at *
  generalize hr : (o + z + carry) % 268435456 = r at *
  refine ⟨by rw [List.length_set]; exact hlen, hok.set _ hm, ?_, ?_, by omega⟩
  · rw [e2, Nat.mul_add, Nat.mul_add, show a.getD i 0 * (pw k * b.getD k 0) = pw k * z by rw [hz, Nat.mul_left_comm], ← Nat.mul_assoc (pw i) (pw k) z, ← pw_add, ← Nat.add_assoc (n := i), show pw (i + k + 1) = 268435456 * pw (i + k) from rfl]
    rw [← Nat.add_assoc, ← he]
    have : 268435456 * pw (i + k) * q = pw (i + k) * (268435456 * q) := by rw [Nat.mul_comm 268435456, Nat.mul_assoc]
    rw [this]
    have := congrArg (pw (i + k) * ·) hd
    simp only [Nat.mul_add] at this
    omega
  · rw [List.getD_eq_getElem?_getD, List.getElem?_set_ne (by omega), ← List.getD_eq_getElem?_getD]; exact htop
theorem timJ_end {a b : List Nat} {i carry : Nat} {O : List Nat} (hi : i < a.length) (h : TimJ a b i b.length carry O) : TimI a b (i + 1) (O.set (i + b.length) carry) := by
  have hs := val_set O (i + b.length) carry (by rw [h.len]; omega)
  rw [h.top, Nat.mul_zero, Nat.add_zero] at hs
  refine ⟨by rw [List.length_set]; exact h.len, h.ok.set _ h.c1, ?_⟩
  rw [hs, h.eq, val_take_all b _ (Nat.le_refl _), take_over, Nat.add_mul, ← Nat.mul_assoc]
theorem timI_end {a b : List Nat} {O : List Nat} (h : TimI a b a.length O) : val O = val a * val b := by rw [h.eq, List.take_length]

-- Over
structure OverI (a : List Nat) (vb i : Nat) (O : List Nat) (R : Nat) : Prop where
  len : O.length = a.length
  ok : Dok O
  lt : R < vb
  eq : val (a.drop i) = val (O.drop i) * vb + R
theorem overI_start (a : List Nat) (vb : Nat) (h : 0 < vb) : OverI a vb a.length (List.replicate a.length 0) 0 := ⟨by simp, dok_replicate_zero _, h, by simp [val]⟩
theorem overI_step {a : List Nat} {vb i : Nat} {O : List Nat} {R low : Nat} (h : OverI a vb (i + 1) O R) (hi : i < a.length) (hl : low < 268435456) (h1 : low * vb ≤ a.getD i 0 + 268435456 * R) (h2 : a.getD i 0 + 268435456 * R < (low + 1) * vb) :
    OverI a vb i (O.set i low) (a.getD i 0 + 268435456 * R - low * vb) := by
  have e1 := val_drop_succ a i hi
  have hl2 : i < (O.set i low).length := by rw [List.length_set, h.len]; exact hi
  have e2 := val_drop_succ (O.set i low) i hl2
  rw [List.drop_set_of_lt (show i < i + 1 by omega)] at e2
  have g : (O.set i low).getD i 0 = low := by rw [List.getD_eq_getElem?_getD, List.getElem?_set_self (by rw [h.len]; exact hi)]; rfl
  rw [g] at e2
  refine ⟨by rw [List.length_set]; exact h.len, h.ok.set _ hl, by rw [Nat.add_mul, Nat.one_mul] at h2; omega, ?_⟩
  have e3 := h.eq
  rw [e1, e2, e3, Nat.add_mul, Nat.mul_add, Nat.mul_assoc]
  omega
theorem overI_high {a : List Nat} {vb i : Nat} {O : List Nat} {R : Nat} (h : OverI a vb (i + 1) O R) (ha : Dok a) : a.getD i 0 + 268435456 * R < (268435455 + 1) * vb := by
  have h1 := ha.get i
  have h2 := h.lt
  show _ < 268435456 * vb
  omega
theorem overI_end {a : List Nat} {vb : Nat} {O : List Nat} {R : Nat} (h : OverI a vb 0 O R) : val O = val a / vb ∧ R = val a % vb := by
  have e := h.eq
  rw [List.drop_zero, List.drop_zero] at e
  have hl := h.lt
  have := Nat.div_mod_unique (a := val a) (b := vb) (c := R) (d := val O) (by omega)
  have k := this.2 ⟨by rw [e, Nat.mul_comm]; omega, hl⟩
  exact ⟨k.1.symm, k.2.symm⟩

theorem can_single {m : Nat} (h0 : m ≠ 0) (h : m < 268435456) : [m] = dgs m := by
  rw [dgs_pos m h0, Nat.mod_eq_of_lt h, Nat.div_eq_of_lt h, dgs_zero]
theorem val_single (m : Nat) : val [m] = m := by simp [val]
theorem dok_single {m : Nat} (h : m < 268435456) : Dok [m] := Dok.cons.2 ⟨h, Dok.nil⟩
theorem dgs_ne_nil {n : Nat} (h : n ≠ 0) : dgs n ≠ [] := by rw [dgs_pos n h]; simp
theorem dgs_nil_iff (n : Nat) : dgs n = [] ↔ n = 0 := ⟨fun h => Classical.byContradiction fun h' => dgs_ne_nil h' h, fun h => by rw [h]; exact dgs_zero⟩
theorem dgs_len_pos (n : Nat) : 0 < (dgs n).length ↔ n ≠ 0 := by rw [List.length_pos_iff, ne_eq, dgs_nil_iff]
/-- lengths of digits -/
theorem dgs_len_mono {m n : Nat} (h : m ≤ n) : (dgs m).length ≤ (dgs n).length := by
  refine dgs_len_le _ _ (Nat.lt_of_le_of_lt h ?_)
  have := val_lt (can_dgs n).ok
  rw [val_dgs] at this; exact this
theorem dgs_lt (n : Nat) : n < pw (dgs n).length := by have := val_lt (can_dgs n).ok; rw [val_dgs] at this; exact this
theorem dgs_len_mul (m n : Nat) : (dgs (m * n)).length ≤ (dgs m).length + (dgs n).length := by
  refine dgs_len_le _ _ ?_
  rw [pw_add]
  exact Nat.mul_lt_mul_of_lt_of_le (dgs_lt m) (Nat.le_of_lt (dgs_lt n)) (pw_pos _)
theorem dgs_len_add (m n : Nat) : (dgs (m + n)).length ≤ max (dgs m).length (dgs n).length + 1 := by
  refine dgs_len_le _ _ ?_
  have h1 := Nat.lt_of_lt_of_le (dgs_lt m) (pw_mono (show (dgs m).length ≤ max (dgs m).length (dgs n).length by omega))
  have h2 := Nat.lt_of_lt_of_le (dgs_lt n) (pw_mono (show (dgs n).length ≤ max (dgs m).length (dgs n).length by omega))
  show m + n < 268435456 * pw _
  omega
theorem dgs_len_ten {n : Nat} (h : n < 1942668892225729070919461906823518906642406839052139521251812409738904285205208498176) : (dgs n).length ≤ 10 := dgs_len_le n 10 h
theorem dgs_len_lt (n : Nat) (l : List Nat) (c : Dok l) (h : val l = n) : (dgs n).length ≤ l.length := dgs_len_le _ _ (by rw [← h]; exact val_lt c)
end Go.Proofs.YtndcjldnnfhedaaDoor.wd2

/- Slices of digits as they lie in memory, and the reference's Trim. -/
namespace Go.Proofs.YtndcjldnnfhedaaDoor.wd2
set_option maxRecDepth 100000
open Go.RowKit
set_option linter.unusedVariables false

theorem Tryd.infoI : (Tryd.prog.info? 3).map (fun i => (i.zero, i.size, i.bytes)) = some (some (.int .i64 0), 1, 8) := by kernel_rfl

def dv (d : Nat) : Value := .int .i64 (d : Int)

/-- a slice value whose cells are the digits of l; it lies in w -/
structure Dig (w : World) (A : Option Addr) (n c : Nat) (l : List Nat) : Prop where
  len : n = l.length
  cap : n ≤ c
  top : c ≤ maxLen
  nil_ : A = none → n = 0 ∧ c = 0
  at_ : ∀ ad, A = some ad → ∃ g, ad = ⟨g, 0, none⟩ ∧ g < w.heap.size ∧ ∀ j, j < l.length → w.cell? ⟨g, j, none⟩ = some (.int .i64 ((l.getD j 0 : Nat) : Int))

theorem Dig.nil (w : World) : Dig w none 0 0 [] := ⟨rfl, Nat.le_refl _, Nat.zero_le _, (fun _ => ⟨rfl, rfl⟩), (fun _ h => by cases h)⟩
theorem Dig.keep {w w' : World} {A : Option Addr} {n c : Nat} {l : List Nat} (h : Dig w A n c l) (hb : Below w.heap.size w w') : Dig w' A n c l :=
  ⟨h.len, h.cap, h.top, h.nil_, fun ad hn => by
    obtain ⟨g, e, hg, hc⟩ := h.at_ ad hn
    exact ⟨g, e, Nat.lt_of_lt_of_le hg hb.size, fun j hj => (hb.cell (p := ⟨g, j, none⟩) hg).trans (hc j hj)⟩⟩
theorem Dig.alloc {w : World} {A : Option Addr} {n c : Nat} {l : List Nat} (h : Dig w A n c l) (o : Obj) : Dig (w.alloc o) A n c l := h.keep ((Below.refl _ _).alloc (Nat.le_refl _) o)
theorem Dig.cell {w : World} {A : Option Addr} {n c : Nat} {l : List Nat} (h : Dig w A n c l) {k : Nat} (hk : k < l.length) :
    ∃ g, A = some ⟨g, 0, none⟩ ∧ g < w.heap.size ∧ w.cell? ⟨g, k, none⟩ = some (.int .i64 ((l.getD k 0 : Nat) : Int)) := by
  rcases A with _ | ad
  · have := (h.nil_ rfl).1; have := h.len; omega
  · obtain ⟨g, rfl, hg, hc⟩ := h.at_ ad rfl
    exact ⟨g, rfl, hg, hc k hk⟩
theorem own_shape {w : World} {base e size n : Nat} {v : Value} {xs : List Value} (h : w.ownsRow base e size v n xs) : ∃ A c, v = .slice A n c := by
  rcases h.2 with ⟨hv, hn⟩ | ⟨g, cap, cur, hv, _⟩
  · subst hn; exact ⟨_, _, hv⟩
  · exact ⟨_, _, hv⟩
theorem dig_of_own {w : World} {base e : Nat} {A : Option Addr} {n c : Nat} {l : List Nat} (h : w.ownsRow base e 1 (.slice A n c) n (l.map dv)) : Dig w A n c l := by
  have hl : n = l.length := by have := h.1; simpa using this.symm
  rcases id h.2 with ⟨hv, hn⟩ | ⟨g, cap, cur, hv, _, hgs, hnc, hcm, _⟩
  · injection hv with h1 h2 h3
    subst h1 h3
    exact ⟨hl, by omega, Nat.zero_le _, (fun _ => ⟨hn, rfl⟩), (fun _ h => by cases h)⟩
  · injection hv with h1 h2 h3
    subst h1 h3
    refine ⟨hl, hnc, hcm, (fun h => by cases h), fun ad he => ?_⟩
    injection he with he
    subst he
    refine ⟨g, rfl, (Array.getElem?_eq_some_iff.1 hgs).1, fun j hj => ?_⟩
    have := h.cellAt j (by omega)
    rw [this, List.getElem?_map, List.getElem?_eq_getElem hj, List.getD_eq_getElem?_getD, List.getElem?_eq_getElem hj]; rfl
theorem one_dv (l : List Nat) : ∀ u ∈ l.map dv, u.oneCell' = true := by
  intro u hu
  obtain ⟨d, _, rfl⟩ := List.mem_map.1 hu
  rfl
/-- the cells of the first k digits, for an append -/
theorem Dig.news {w : World} {g n c : Nat} {l : List Nat} (h : Dig w (some ⟨g, 0, none⟩) n c l) (k : Nat) : ∀ j u, ((l.take k).map dv)[j]? = some u → w.cell? ((⟨g, 0, none⟩ : Addr).add j) = some u := by
  intro j u hu
  obtain ⟨g', e, hg, hc⟩ := h.at_ _ rfl
  have hadd : (⟨g, 0, none⟩ : Addr).add j = ⟨g, j, none⟩ := by unfold Addr.add; split <;> simp_all
  injection e with e
  subst e
  rw [hadd]
  have hj : j < l.length := by
    rcases Nat.lt_or_ge j l.length with z | z
    · exact z
    · rw [List.getElem?_eq_none (by rw [List.length_map, List.length_take]; omega)] at hu; cases hu
  rw [hc j hj]
  rw [List.getElem?_map, List.getElem?_take] at hu
  split at hu
  · rw [List.getElem?_eq_getElem hj] at hu
    rw [List.getD_eq_getElem?_getD, List.getElem?_eq_getElem hj]; exact hu
  · cases hu

/-- the slice lies in a block that w has not -/
def Fr (w : World) (A : Option Addr) : Prop := ∀ ad, A = some ad → w.heap.size ≤ ad.block
theorem Fr.none_ (w : World) : Fr w none := fun _ h => by cases h
theorem Fr.under {w w1 : World} {A : Option Addr} (h : Fr w1 A) (hb : w.heap.size ≤ w1.heap.size) : Fr w A := fun ad e => Nat.le_trans hb (h ad e)
theorem fr_of_own {w w' : World} {base e n c : Nat} {A : Option Addr} {xs : List Value} (h : w'.ownsRow base e 1 (.slice A n c) n xs) (hb : w.heap.size ≤ base) : Fr w A := by
  intro ad e
  subst e
  have := (h.lt ad.block rfl).1
  omega
theorem Dig.far {w : World} {A : Option Addr} {n c : Nat} {l : List Nat} (h : Dig w A n c l) (p : Addr) (hp : ∀ ad, A = some ad → ad.block ≠ p.block) (u : Value) : Dig (w.setCell p u) A n c l :=
  ⟨h.len, h.cap, h.top, h.nil_, fun ad e => by
    obtain ⟨g, rfl, hg, hc⟩ := h.at_ ad e
    exact ⟨g, rfl, by simpa using hg, fun j hj => (World.cell?_setCell_other w _ _ u (fun e' => hp _ e (by rw [e']))).trans (hc j hj)⟩⟩
theorem Dig.single (w : World) (m : Nat) (T : Nat) : Dig (w.alloc (.cells #[.int .i64 (m : Int)] T)) (some ⟨w.heap.size, 0, none⟩) 1 1 [m] :=
  ⟨rfl, Nat.le_refl _, by unfold maxLen; omega, (fun h => by cases h), fun ad e => by
    injection e with e
    subst e
    refine ⟨_, rfl, by simp, fun j hj => ?_⟩
    have : j = 0 := by simp at hj; omega
    subst this
    rw [World.cell?_alloc_new]; rfl⟩

/-- what a function that returns digits leaves behind -/
def Ret (w : World) (L : List Nat) (e : Ending) (w' : World) : Prop := ∃ A n c, e = .returned (.slice A n c) ∧ Dig w' A n c L ∧ Fr w A ∧ Below w.heap.size w w'
theorem ret_of_own {w w' : World} {e n : Nat} {v : Value} {L : List Nat} (h : w'.ownsRow w.heap.size e 1 v n (L.map dv)) (hb : Below w.heap.size w w') : Ret w L (.returned v) w' := by
  obtain ⟨A, c, rfl⟩ := own_shape h
  exact ⟨A, n, c, rfl, dig_of_own h, fr_of_own h (Nat.le_refl _), hb⟩
theorem Ret.under {w w1 w2 : World} {L : List Nat} {e : Ending} (hb : Below w.heap.size w w1) (h : Ret w1 L e w2) : Ret w L e w2 := by
  obtain ⟨A, n, c, he, hd, hf, hb'⟩ := h
  exact ⟨A, n, c, he, hd, hf.under hb.size, hb.trans (hb'.mono hb.size)⟩

/-- append of digits that lie in memory, nil or not, onto a row of the call's own -/
theorem wpList_append_dig {P : Program} (w : World) {ops : Array Oper} {rest : List Oper} {o : Oper} {a : Act} {Q : Exit → Act → World → Prop} (hgd : o.guard = none) (s x : Operand) (t : TypeId)
    (ho : o.op = .call { callee := .builtin .append, args := #[s, x], argTypes := #[t, t] })
    (base : Nat) (e : TypeId) (i : TypeInfo) (z : Value) (ht : P.underlying t = some (.slice e)) (hi : P.info? e = some i) (hz : i.zero = some z)
    (hsize : i.size = 1) (hby : i.bytes = 8) (hzs : z.cells.size = 1)
    (v : Value) (n : Nat) (xs : List Value) (hs : a.eval s = v) (hown : w.ownsRow base e 1 v n xs)
    (A : Option Addr) (m c : Nat) (l : List Nat) (hx : a.eval x = .slice A m c) (hd : Dig w A m c l)
    (h63 : n + m ≤ maxLen) (hbytes : (n + m) * 8 ≤ 140737488355328) (hbase : base ≤ w.heap.size)
    (h : ∀ v' w', w'.ownsRow base e 1 v' (n + m) (xs ++ l.map dv) → w.grownBy w' v.ownBlock → wpList P ops Q rest (a.put o.dst v') w') : wpList P ops Q (o :: rest) a w := by
  rcases A with _ | ad
  · obtain ⟨rfl, rfl⟩ := hd.nil_ rfl
    have e0 : l = [] := List.eq_nil_of_length_eq_zero hd.len.symm
    subst e0
    exact wpList_append_own_none hgd s x t ho base e i 1 ht hi v n xs hs hown hx (h v w (by simpa using hown) (World.grownBy.refl w _))
  · obtain ⟨g, rfl, hg, _⟩ := hd.at_ ad rfl
    have hn := hd.news l.length
    rw [List.take_length] at hn
    exact wpList_append_own w hgd s x t ho base e i z 1 8 ht hi hz hsize hby hzs (by omega) v n xs hs hown ⟨g, 0, none⟩ m c (l.map dv) hx (by rw [List.length_map, Nat.mul_one]; exact hd.len.symm) hn (one_dv l) h63 hbytes hbase (fun v' w' h1 h2 _ => h v' w' h1 h2)

set_option maxHeartbeats 1000000 in
theorem trim_any (A : Option Addr) (n c : Nat) (l : List Nat) (w : World) (h : Dig w A n c l) (ok : Dok l) (hs : l.length ≤ 4000000) :
    Calls Tryd.prog 111 #[.slice A n c] w (Ret w (dgs (val l))) := by
  obtain ⟨i0, hi, hz0, hz1, hz2⟩ := info_parts Tryd.infoI
  have hlen := h.len
  have hcap := h.cap
  have hc := h.top
  have HD := Lib.hid h
  have HO := Lib.hid ok
  clear h ok
  have hn : n ≤ 4000000 := by omega
  have HL := Lib.hid hlen
  clear hlen hs
  unfold maxLen at hc
  rcases A with _ | ad
  · have hn0 := (HD.out.nil_ rfl).1
    have hc0 := (HD.out.nil_ rfl).2
    subst hn0 hc0
    have e : l = [] := List.eq_nil_of_length_eq_zero HL.out.symm
    subst e
    have E : Hid (dgs (val []) = []) := dgs_zero
    go_enter Tryd.func111, Tryd.ntmps111
    go_wp2_with fail
    go_loop [3] (fun v => v = .int .i64 0) (fun v => 0)
    case atStart => rfl
    case round =>
      subst hrel
      go_wp2_with (at_builtin; refine wpList_append_own_none rfl _ _ _ rfl w.heap.size 3 i0 1 Tryd.underlying105 hi _ 0 [] rfl (World.ownsRow_lit w #[] 0 (Nat.le_refl _) (Nat.zero_le _) rfl) rfl ?_)
      go_ret
      rw [E.out]
      exact ret_of_own (World.ownsRow_lit w #[] 0 (Nat.le_refl _) (Nat.zero_le _) rfl) ((Below.refl _ _).alloc (Nat.le_refl _) _)
  · obtain ⟨g, rfl, hg, _⟩ := HD.out.at_ ad rfl
    go_enter Tryd.func111, Tryd.ntmps111
    go_wp2_with fail
    go_loop [3] (fun v => ∃ k : Nat, k ≤ n ∧ v = .int .i64 (k : Int) ∧ Hid (val (l.take k) = val l)) (fun v => (intOf v).toNat)
    case atStart => exact ⟨n, Nat.le_refl _, rfl, by show val _ = _; rw [HL.out, List.take_length]⟩
    case round =>
      obtain ⟨k, hk, rfl, hv⟩ := hrel
      have Z : Hid (k = 0 ∨ l.getD (k - 1) 0 ≠ 0 → l.take k = dgs (val l)) := fun hz => can_eq (can_take HO.out k (by have := HL.out; omega) hz) hv.out
      have hkl : Hid (((l.take k).map dv).length = k * 1) := by show List.length _ = _; rw [List.length_map, List.length_take, Nat.mul_one]; have := HL.out; omega
      by_cases hk0 : k = 0
      · subst hk0
        have ZZ : Hid ([] = dgs (val l)) := Z.out (.inl rfl)
        clear Z
        go_wp2_with (at_builtin; refine wpList_append_own _ rfl _ _ _ rfl w.heap.size 3 i0 (.int .i64 0) 1 8 Tryd.underlying105 hi hz0 hz1 hz2 rfl (by omega) _ 0 [] rfl (World.ownsRow_lit w #[] 0 (Nat.le_refl _) (Nat.zero_le _) rfl) ⟨g, 0, none⟩ 0 c [] rfl rfl (by intro j u hu; simp at hu) (by simp) (by unfold maxLen; omega) (by omega) (by simp) ?_)
        intro v' w' hown hgrow hnil
        go_wp2_with fail
        go_ret
        rw [← ZZ.out]
        exact ret_of_own (by simpa using hown) (((Below.refl _ _).alloc (Nat.le_refl _) _).grown hgrow (by simp) (by intro k hk; simp [Value.ownBlock] at hk; omega))
      · have hk1 : (0 : Int) < (k : Int) := by omega
        have hcl := ((HD.out.at_ _ rfl).choose_spec.2.2 (k - 1) (by have := HL.out; omega))
        have hge := (HD.out.at_ _ rfl).choose_spec.1
        injection hge with hge
        rw [← hge] at hcl
        clear hge
        obtain ⟨d, hd⟩ : ∃ d, d = l.getD (k - 1) 0 := ⟨_, rfl⟩
        rw [← hd] at hcl
        by_cases hz : d = 0
        · have VS : Hid (val (l.take (k - 1)) = val l) := by
            have e := val_take_succ l (k - 1) (by have := HL.out; omega)
            rw [show k - 1 + 1 = k by omega, ← hd, hz, Nat.mul_zero, Nat.add_zero] at e
            exact e.symm.trans hv.out
          have hz' : ((d : Int) == 0) = true := beq_iff_eq.2 (by omega)
          clear hd Z
          go_wp2_with fail
          go_round
          case rel => exact ⟨k - 1, by omega, by go_num, VS⟩
          case measure => simp [intOf]; omega
        · have hz' : ((d : Int) == 0) = false := beq_eq_false_iff_ne.2 (by omega)
          have ZZ : Hid (l.take k = dgs (val l)) := Z.out (.inr (by rw [← hd]; exact hz))
          clear Z hd hv
          go_wp2_with (at_builtin; refine wpList_append_own _ rfl _ _ _ rfl w.heap.size 3 i0 (.int .i64 0) 1 8 Tryd.underlying105 hi hz0 hz1 hz2 rfl (by omega) _ 0 [] rfl (World.ownsRow_lit w #[] 0 (Nat.le_refl _) (Nat.zero_le _) rfl) ⟨g, 0, none⟩ k c ((l.take k).map dv) rfl hkl.out ((HD.out.alloc _).news k) (one_dv _) (by unfold maxLen; omega) (by omega) (by simp) ?_)
          intro v' w' hown hgrow hnil
          go_wp2_with fail
          go_ret
          rw [← ZZ.out]
          exact ret_of_own (by simpa using hown) (((Below.refl _ _).alloc (Nat.le_refl _) _).grown hgrow (by simp) (by intro k hk; simp [Value.ownBlock] at hk; omega))
end Go.Proofs.YtndcjldnnfhedaaDoor.wd2

/- Contracts of the reference's Order and OfInt. -/
namespace Go.Proofs.YtndcjldnnfhedaaDoor.wd2
set_option maxRecDepth 100000
open Go.RowKit
set_option linter.unusedVariables false

theorem dret_int {k : IntKind} {a b : Int} (h : a = b) : Ending.returned (.int k a) = .returned (.int k b) := by rw [h]
theorem dret_bool {a b : Bool} (h : a = b) : Ending.returned (.bool a) = .returned (.bool b) := by rw [h]

set_option maxHeartbeats 1000000 in
theorem order_any (A B : Option Addr) (n m c d : Nat) (a b : List Nat) (w : World) (ha : Dig w A n c a) (hb : Dig w B m d b) (ca : Can a) (cb : Can b) (h1 : a.length ≤ 4000000) (h2 : b.length ≤ 4000000) :
    Calls Tryd.prog 76 #[.slice A n c, .slice B m d] w fun e w' => e = .returned (.int .i64 (ord (val a) (val b))) ∧ Below w.heap.size w w' := by
  have hla := ha.len
  have hlb := hb.len
  have HA := Lib.hid ha
  have HB := Lib.hid hb
  have CA := Lib.hid ca
  have CB := Lib.hid cb
  clear ha hb ca cb
  have LA := Lib.hid hla
  have LB := Lib.hid hlb
  have n1 : n ≤ 4000000 := by omega
  have n2 : m ≤ 4000000 := by omega
  clear hla hlb h1 h2
  by_cases hne : n = m
  · subst hne
    have LE : Hid (a.length = b.length) := LA.out.symm.trans LB.out
    have t0 : ((n : Int) != (n : Int)) = false := by simp
    go_enter Tryd.func76, Tryd.ntmps76
    go_wp2_with fail
    go_loopw [5] (fun v wr => ∃ k : Nat, k ≤ n ∧ v = .int .i64 ((k : Int) - 1) ∧ Hid (a.drop k = b.drop k) ∧ Hid (Below w.heap.size w wr)) (fun v _ => (intOf v + 1).toNat)
    case atStart => exact ⟨n, Nat.le_refl _, by go_num, by show _ = _; rw [List.drop_of_length_le (by rw [LA.out]; exact Nat.le_refl _), List.drop_of_length_le (by rw [LB.out]; exact Nat.le_refl _)], Below.refl _ _⟩
    case round =>
      obtain ⟨k, hk, rfl, hd, hw⟩ := hrel
      by_cases hk0 : k = 0
      · subst hk0
        have E : Hid (ord (val a) (val b) = 0) := ord_of_eq (by have := hd.out; simp at this; rw [this])
        clear hd
        go_wp2_with fail
        go_ret
        exact ⟨dret_int E.out.symm, hw.out⟩
      · have hk1 : (1 : Int) ≤ (k : Int) := by omega
        have hka : k - 1 < a.length := by have := LA.out; omega
        obtain ⟨g, rfl, hg, hcl⟩ := (HA.out.keep hw.out).cell hka
        obtain ⟨g', rfl, hg', hcl'⟩ := (HB.out.keep hw.out).cell (k := k - 1) (by have := LB.out; omega)
        have OL : Hid (a.getD (k - 1) 0 < b.getD (k - 1) 0 → ord (val a) (val b) = -1) := fun h => ord_of_lt (ord_lt CA.out.ok CB.out.ok LE.out (k - 1) hka (by rw [show k - 1 + 1 = k by omega]; exact hd.out) h)
        have OG : Hid (b.getD (k - 1) 0 < a.getD (k - 1) 0 → ord (val a) (val b) = 1) := fun h => ord_of_gt (ord_lt CB.out.ok CA.out.ok LE.out.symm (k - 1) (by have := LB.out; omega) (by rw [show k - 1 + 1 = k by omega]; exact hd.out.symm) h)
        have OE : Hid (a.getD (k - 1) 0 = b.getD (k - 1) 0 → a.drop (k - 1) = b.drop (k - 1)) := fun h => drop_step LE.out (k - 1) hka (by rw [show k - 1 + 1 = k by omega]; exact hd.out) h
        obtain ⟨x, hx⟩ : ∃ x, x = a.getD (k - 1) 0 := ⟨_, rfl⟩
        obtain ⟨y, hy⟩ : ∃ y, y = b.getD (k - 1) 0 := ⟨_, rfl⟩
        rw [← hx] at OL OG OE hcl
        rw [← hy] at OL OG OE hcl'
        clear hx hy hka hd
        have b1 : (0 : Int) ≤ (k : Int) - 1 := by omega
        have b2 : (k : Int) - 1 < (n : Int) := by omega
        by_cases q1 : x < y
        · have q1' : (x : Int) < (y : Int) := by omega
          have E := Lib.hid (OL.out q1)
          clear OL OG OE
          go_wp2_with fail
          go_region
          all_goals
            go_wp2_with fail
            go_ret
            exact ⟨dret_int E.out.symm, hw.out.drew⟩
        · have q1' : ¬ (x : Int) < (y : Int) := by omega
          by_cases q2 : y < x
          · have q2' : (y : Int) < (x : Int) := by omega
            have E := Lib.hid (OG.out q2)
            clear OL OG OE
            go_wp2_with fail
            go_region
            all_goals
              go_wp2_with fail
              go_region
              all_goals
                go_wp2_with fail
                go_ret
                exact ⟨dret_int E.out.symm, hw.out.drew.drew⟩
          · have q2' : ¬ (y : Int) < (x : Int) := by omega
            have E := Lib.hid (OE.out (by omega))
            clear OL OG OE
            go_wp2_with fail
            go_region
            all_goals
              go_wp2_with fail
              go_region
              all_goals
                go_wp2_with fail
                go_roundw
                case rel => exact ⟨k - 1, by omega, by go_num, E, hw.out.drew.drew⟩
                case measure => simp [intOf]; omega
  · have E : Hid (ord (val a) (val b) = if n < m then -1 else 1) := by
      show _ = _
      split
      · exact ord_of_lt (can_len_lt CA.out CB.out (by have := LA.out; have := LB.out; omega))
      · exact ord_of_gt (can_len_lt CB.out CA.out (by have := LA.out; have := LB.out; omega))
    have t0 : ((n : Int) != (m : Int)) = true := by simp; omega
    by_cases hlt : n < m
    · rw [if_pos hlt] at E
      have hlt' : (n : Int) < (m : Int) := by omega
      go_enter Tryd.func76, Tryd.ntmps76
      go_wp2_with fail
      go_ret
      exact ⟨dret_int E.out.symm, Below.refl _ _⟩
    · rw [if_neg hlt] at E
      have hlt' : ¬ (n : Int) < (m : Int) := by omega
      go_enter Tryd.func76, Tryd.ntmps76
      go_wp2_with fail
      go_ret
      exact ⟨dret_int E.out.symm, Below.refl _ _⟩
end Go.Proofs.YtndcjldnnfhedaaDoor.wd2

/- Contract of the reference's OfInt. -/
namespace Go.Proofs.YtndcjldnnfhedaaDoor.wd2
set_option maxRecDepth 100000
open Go.RowKit
set_option linter.unusedVariables false

/-- what a function that returns a number leaves behind -/
def RetN (w : World) (L : List Nat) (g : Bool) (e : Ending) (w' : World) : Prop := ∃ A n c, e = .returned (.agg #[.slice A n c, .bool g]) ∧ Dig w' A n c L ∧ Fr w A ∧ Below w.heap.size w w'

/-- a struct of two fields lies in block b -/
structure Bl2 (w : World) (b : Nat) (x y : Value) : Prop where
  c0 : w.cell? ⟨b, 0, none⟩ = some x
  c1 : w.cell? ⟨b, 1, none⟩ = some y
  f0 : w.frozen? ⟨b, 0, none⟩ = false
  f1 : w.frozen? ⟨b, 1, none⟩ = false
  lt : b < w.heap.size
theorem Bl2.keep {w w1 : World} {b : Nat} {x y : Value} (h : Bl2 w b x y) (hb : Below w.heap.size w w1) : Bl2 w1 b x y :=
  ⟨(hb.cell (p := ⟨b, 0, none⟩) h.lt).trans h.c0, (hb.cell (p := ⟨b, 1, none⟩) h.lt).trans h.c1, (hb.frozen (p := ⟨b, 0, none⟩) h.lt).trans h.f0, (hb.frozen (p := ⟨b, 1, none⟩) h.lt).trans h.f1, Nat.lt_of_lt_of_le h.lt hb.size⟩
theorem Bl2.grown {w w1 : World} {b : Nat} {x y : Value} {row : Option Nat} (h : Bl2 w b x y) (hg : w.grownBy w1 row) (hr : some b ≠ row) : Bl2 w1 b x y :=
  ⟨(hg.cell_far ⟨b, 0, none⟩ h.lt hr).trans h.c0, (hg.cell_far ⟨b, 1, none⟩ h.lt hr).trans h.c1, (hg.frozen_far ⟨b, 0, none⟩ h.lt hr).trans h.f0, (hg.frozen_far ⟨b, 1, none⟩ h.lt hr).trans h.f1,
   Nat.lt_of_lt_of_le h.lt hg.size⟩
theorem Bl2.alloc {w : World} {b : Nat} {x y : Value} (h : Bl2 w b x y) (o : Obj) : Bl2 (w.alloc o) b x y := h.keep ((Below.refl _ _).alloc (Nat.le_refl _) o)
theorem Bl2.new (w : World) (x y : Value) (T : Nat) : Bl2 (w.alloc (.cells #[x, y] T)) w.heap.size x y :=
  ⟨by rw [World.cell?_alloc_new]; rfl, by rw [World.cell?_alloc_new]; rfl, by go_simp, by go_simp, by simp⟩
theorem Bl2.set0 {w : World} {b : Nat} {x y : Value} (h : Bl2 w b x y) (u : Value) : Bl2 (w.setCell ⟨b, 0, none⟩ u) b u y :=
  ⟨World.cell?_setCell_same _ _ _ h.c0, (World.cell?_setCell_other w _ _ u (by simp)).trans h.c1, by have := h.f0; go_simp, by have := h.f1; go_simp, by simpa using h.lt⟩
theorem Bl2.set1 {w : World} {b : Nat} {x y : Value} (h : Bl2 w b x y) (u : Value) : Bl2 (w.setCell ⟨b, 1, none⟩ u) b x u :=
  ⟨(World.cell?_setCell_other w _ _ u (by simp)).trans h.c0, World.cell?_setCell_same _ _ _ h.c1, by have := h.f0; go_simp, by have := h.f1; go_simp, by simpa using h.lt⟩
theorem Bl2.far {w : World} {b : Nat} {x y : Value} (h : Bl2 w b x y) (p : Addr) (hp : p.block ≠ b) (u : Value) : Bl2 (w.setCell p u) b x y :=
  ⟨(World.cell?_setCell_other w _ _ u (fun e => hp (by rw [e]))).trans h.c0, (World.cell?_setCell_other w _ _ u (fun e => hp (by rw [e]))).trans h.c1, by have := h.f0; go_simp, by have := h.f1; go_simp, by simpa using h.lt⟩
structure OfI (w : World) (N0 N : Nat) (g : Bool) (O : List Nat) (wr : World) : Prop where
  eq : O ++ dgs N = dgs N0
  num : ∃ v, Bl2 wr (w.heap.size + 1) v (.bool g) ∧ wr.ownsRow (w.heap.size + 2) 3 1 v O.length (O.map dv)
  res : ∃ x y, Bl2 wr w.heap.size x y
  bel : Below w.heap.size w wr

theorem OfI.start (w : World) (N : Nat) (g : Bool) (x y : Value) (T T' : Nat) : OfI w N N g [] ((w.alloc (.cells #[x, y] T)).alloc (.cells #[.slice none 0 0, .bool g] T')) := by
  have h := Bl2.new (w.alloc (.cells #[x, y] T)) (.slice none 0 0) (.bool g) T'
  simp at h
  exact ⟨rfl, ⟨_, h, World.ownsRow_nil _ _ _ _⟩, ⟨_, _, (Bl2.new w _ _ _).alloc _⟩, ((Below.refl _ _).alloc (Nat.le_refl _) _).alloc (by simp) _⟩
theorem OfI.step {w wr w2 : World} {N0 N : Nat} {g : Bool} {O : List Nat} {u v : Value} {o : Obj} (h : OfI w N0 N g O wr) (hz : N ≠ 0) (A : Bl2 wr (w.heap.size + 1) u (.bool g)) (hu : wr.ownsRow (w.heap.size + 2) 3 1 u O.length (O.map dv))
    (hown : w2.ownsRow (w.heap.size + 2) 3 1 v (O.length + 1) (O.map dv ++ [dv (N % 268435456)])) (hgrow : (wr.alloc o).grownBy w2 u.ownBlock) :
    OfI w N0 (N / 268435456) g (O ++ [N % 268435456]) (w2.setCell ⟨w.heap.size + 1, 0, none⟩ v) := by
  obtain ⟨x, y, R⟩ := h.res
  have r1 : some (w.heap.size + 1) ≠ u.ownBlock := fun e => by have := (hu.lt _ e.symm).1; omega
  have r0 : some w.heap.size ≠ u.ownBlock := fun e => by have := (hu.lt _ e.symm).1; omega
  have A2 := (A.alloc o).grown hgrow r1
  have R2 := (R.alloc o).grown hgrow r0
  have hsz := h.bel.size
  have ow : w2.ownsRow (w.heap.size + 2) 3 1 v (O ++ [N % 268435456]).length ((O ++ [N % 268435456]).map dv) := by simpa using hown
  have hsz2 : w.heap.size ≤ (wr.alloc o).heap.size := (h.bel.alloc hsz o).size
  refine ⟨?_, ⟨v, A2.set0 v, ownsRow_setCell_below ow (by show w.heap.size + 1 < _; omega) v⟩, ⟨x, y, R2.far ⟨w.heap.size + 1, 0, none⟩ (by show w.heap.size + 1 ≠ _; omega) v⟩, ?_⟩
  · rw [List.append_assoc, ← h.eq, dgs_pos N hz]; rfl
  · exact (((h.bel.alloc hsz o).grown hgrow hsz2 (fun k hk => by have := (hu.lt _ hk).1; omega))).setCell (by show _ ≤ w.heap.size + 1; omega) v
theorem OfI.len {w wr : World} {N0 N : Nat} {g : Bool} {O : List Nat} (h : OfI w N0 N g O wr) (hl : (dgs N0).length ≤ 4000000) : O.length ≤ 4000000 := by
  have := congrArg List.length h.eq
  rw [List.length_append] at this; omega
theorem OfI.end_ {w wr : World} {N0 : Nat} {g : Bool} {O : List Nat} {v : Value} (h : OfI w N0 0 g O wr) (hv : wr.ownsRow (w.heap.size + 2) 3 1 v O.length (O.map dv)) {e : Ending} (he : e = .returned (.agg #[v, .bool g])) :
    RetN w (dgs N0) g e ((wr.setCell ⟨w.heap.size, 0, none⟩ v).setCell ⟨w.heap.size, 1, none⟩ (.bool g)) := by
  have e0 := h.eq
  rw [dgs_zero, List.append_nil] at e0
  rw [e0] at hv
  obtain ⟨A, c, rfl⟩ := own_shape hv
  have h1 := ownsRow_setCell_below (ownsRow_setCell_below hv (a := ⟨w.heap.size, 0, none⟩) (by show w.heap.size < _; omega) (.slice A (dgs N0).length c)) (a := ⟨w.heap.size, 1, none⟩) (by show w.heap.size < _; omega) (.bool g)
  exact ⟨A, _, c, he, dig_of_own h1, fr_of_own h1 (by omega), (h.bel.setCell (Nat.le_refl _) _).setCell (Nat.le_refl _) _⟩

set_option maxHeartbeats 1000000 in
theorem ofint_pos (N : Nat) (w : World) (hN : (N : Int) ≤ 9223372036854775807) :
    Calls Tryd.prog 72 #[.int .i64 (N : Int)] w (RetN w (dgs N) false) := by
  obtain ⟨i0, hi, hz0, hz1, hz2⟩ := info_parts Tryd.infoI
  have t0 : decide ((N : Int) < 0) = false := by simp
  have hl : Hid ((dgs N).length ≤ 4000000) := by have := dgs_len_le N 10 (show N < 1942668892225729070919461906823518906642406839052139521251812409738904285205208498176 by omega); show _ ≤ _; omega
  go_enter Tryd.func72, Tryd.ntmps72
  go_wp2_with fail
  go_loopw [0] (fun v wr => ∃ M : Nat, M ≤ N ∧ v = .int .i64 (M : Int) ∧ ∃ O, OfI w N M false O wr) (fun v _ => (intOf v).toNat)
  case atStart => exact ⟨N, Nat.le_refl _, rfl, [], OfI.start _ _ _ _ _ _ _⟩
  case round =>
    obtain ⟨M, hM, rfl, O, hO⟩ := hrel
    have HO := Lib.hid hO
    obtain ⟨u, A, hu⟩ := hO.num
    obtain ⟨Au, cu, rfl⟩ := own_shape hu
    obtain ⟨x, y, R⟩ := hO.res
    have hlen := hO.len hl.out
    have HA := Lib.hid A
    have HU := Lib.hid hu
    obtain ⟨c0, c1, f0, f1, _⟩ := A
    obtain ⟨e0, e1, g0, g1, _⟩ := R
    clear hO hu
    by_cases hz : M = 0
    · subst hz
      go_wp2_with fail
      have s0 := World.cell?_setCell_same wr ⟨w.heap.size, 0, none⟩ (.slice Au O.length cu) e0
      have s1 := World.cell?_setCell_same (wr.setCell ⟨w.heap.size, 0, none⟩ (.slice Au O.length cu)) ⟨w.heap.size, 1, none⟩ (.bool false) ((World.cell?_setCell_other wr _ ⟨w.heap.size, 1, none⟩ (.slice Au O.length cu) (by simp)).trans e1)
      refine bodyPost_ret (v := .agg #[.slice Au O.length cu, .bool false]) (by simp [results, Tryd.results72, go_sem, s0, s1]) rfl ?_
      exact HO.out.end_ HU.out rfl
    · have hz' : ((M : Int) != 0) = true := by simp; omega
      have hd : ¬ (M : Int) % 268435456 < 0 := by omega
      have HZ := Lib.hid hz
      clear hz
      go_wp2_with (at_builtin; refine wpList_append_own _ rfl _ _ _ rfl (w.heap.size + 2) 3 i0 (.int .i64 0) 1 8 Tryd.underlying105 hi hz0 hz1 hz2 rfl (by omega) _ _ _ rfl (HU.out.alloc _) ⟨wr.heap.size, 0, none⟩ 1 1 [.int .i64 ((M : Int) % 268435456)] rfl rfl (World.news_of_block (heap_alloc_new wr _)) (by simp [Value.oneCell']) (by unfold maxLen; omega) (by omega) (by simp; have := HO.out.bel.size; have := HA.out.lt; omega) ?_)
      intro v w2 hown hgrow hnil
      obtain ⟨Av, cv, rfl⟩ := own_shape hown
      have A2 := (HA.out.alloc _).grown hgrow (fun e => by have := (HU.out.lt _ e.symm).1; omega)
      obtain ⟨k0, k1, j0, j1, _⟩ := A2
      have HN := Lib.hid hgrow
      have HW := Lib.hid hown
      clear hgrow hown hnil
      go_wp2_with fail
      go_roundw
      case rel => exact ⟨M / 268435456, by omega, by go_num, _, HO.out.step HZ.out HA.out HU.out HW.out HN.out⟩
      case measure => have := HZ.out; simp [intOf]; omega

set_option maxHeartbeats 1000000 in
theorem ofint_neg (N : Nat) (w : World) (h0 : 0 < N) (hN : (N : Int) ≤ 9223372036854775808) :
    Calls Tryd.prog 72 #[.int .i64 (-(N : Int))] w (RetN w (dgs N) true) := by
  obtain ⟨i0, hi, hz0, hz1, hz2⟩ := info_parts Tryd.infoI
  have t0 : decide (-(N : Int) < 0) = true := by simp; omega
  have hl : Hid ((dgs N).length ≤ 4000000) := by have := dgs_len_le N 10 (show N < 1942668892225729070919461906823518906642406839052139521251812409738904285205208498176 by omega); show _ ≤ _; omega
  go_enter Tryd.func72, Tryd.ntmps72
  go_wp2_with fail
  go_loopw [0] (fun v wr => ∃ M : Nat, M ≤ N ∧ v = .int .i64 (-(M : Int)) ∧ ∃ O, OfI w N M true O wr) (fun v _ => (-(intOf v)).toNat)
  case atStart => exact ⟨N, Nat.le_refl _, rfl, [], OfI.start _ _ _ _ _ _ _⟩
  case round =>
    obtain ⟨M, hM, rfl, O, hO⟩ := hrel
    have HO := Lib.hid hO
    obtain ⟨u, A, hu⟩ := hO.num
    obtain ⟨Au, cu, rfl⟩ := own_shape hu
    obtain ⟨x, y, R⟩ := hO.res
    have hlen := hO.len hl.out
    have HA := Lib.hid A
    have HU := Lib.hid hu
    obtain ⟨c0, c1, f0, f1, _⟩ := A
    obtain ⟨e0, e1, g0, g1, _⟩ := R
    clear hO hu
    by_cases hz : M = 0
    · subst hz
      go_wp2_with fail
      have s0 := World.cell?_setCell_same wr ⟨w.heap.size, 0, none⟩ (.slice Au O.length cu) e0
      have s1 := World.cell?_setCell_same (wr.setCell ⟨w.heap.size, 0, none⟩ (.slice Au O.length cu)) ⟨w.heap.size, 1, none⟩ (.bool true) ((World.cell?_setCell_other wr _ ⟨w.heap.size, 1, none⟩ (.slice Au O.length cu) (by simp)).trans e1)
      refine bodyPost_ret (v := .agg #[.slice Au O.length cu, .bool true]) (by simp [results, Tryd.results72, go_sem, s0, s1]) rfl ?_
      exact HO.out.end_ HU.out rfl
    · have hz' : (-(M : Int) != 0) = true := by simp; omega
      obtain ⟨r, hr⟩ : ∃ r, r = M % 268435456 := ⟨_, rfl⟩
      obtain ⟨q, hq⟩ : ∃ q, q = M / 268435456 := ⟨_, rfl⟩
      have TM : (-(M : Int)).tmod 268435456 = -(r : Int) := by rw [Int.neg_tmod, hr, Int.tmod_eq_emod_of_nonneg (by omega)]; omega
      have TD : (-(M : Int)).tdiv 268435456 = -(q : Int) := by rw [Int.neg_tdiv, hq, Int.tdiv_eq_ediv_of_nonneg (by omega)]; omega
      have b1 : r < 268435456 := by omega
      have b2 : q ≤ 9223372036854775808 := by omega
      have HR := Lib.hid hr
      have HQ := Lib.hid hq
      clear hr hq
      have HZ := Lib.hid hz
      clear hz
      by_cases r0 : r = 0
      · have hd : ¬ -(r : Int) < 0 := by omega
        have R0 := Lib.hid r0
        clear r0
        go_wp2_with (at_builtin; refine wpList_append_own _ rfl _ _ _ rfl (w.heap.size + 2) 3 i0 (.int .i64 0) 1 8 Tryd.underlying105 hi hz0 hz1 hz2 rfl (by omega) _ _ _ rfl (HU.out.alloc _) ⟨wr.heap.size, 0, none⟩ 1 1 [.int .i64 (-(r : Int))] rfl rfl (World.news_of_block (heap_alloc_new wr _)) (by simp [Value.oneCell']) (by unfold maxLen; omega) (by omega) (by simp; have := HO.out.bel.size; have := HA.out.lt; omega) ?_)
        intro v w2 hown hgrow hnil
        obtain ⟨Av, cv, rfl⟩ := own_shape hown
        have A2 := (HA.out.alloc _).grown hgrow (fun e => by have := (HU.out.lt _ e.symm).1; omega)
        obtain ⟨k0, k1, j0, j1, _⟩ := A2
        have HN := Lib.hid hgrow
        have HW := Lib.hid hown
        clear hgrow hown hnil
        have E : Hid ((-(r : Int)) = ((M % 268435456 : Nat) : Int)) := by show _ = _; rw [← HR.out]; have := R0.out; omega
        go_wp2_with fail
        go_roundw
        case rel => exact ⟨q, by have := HQ.out; omega, by first | rfl | go_num, _, by rw [HQ.out]; have hw := HW.out; rw [E.out] at hw; exact HO.out.step HZ.out HA.out HU.out hw HN.out⟩
        case measure => have := HZ.out; have := HQ.out; simp [intOf]; omega
      · have hd : -(r : Int) < 0 := by omega
        have R0 := Lib.hid r0
        clear r0
        go_wp2_with (at_builtin; refine wpList_append_own _ rfl _ _ _ rfl (w.heap.size + 2) 3 i0 (.int .i64 0) 1 8 Tryd.underlying105 hi hz0 hz1 hz2 rfl (by omega) _ _ _ rfl (HU.out.alloc _) ⟨wr.heap.size, 0, none⟩ 1 1 [.int .i64 (r : Int)] rfl rfl (World.news_of_block (heap_alloc_new wr _)) (by simp [Value.oneCell']) (by unfold maxLen; omega) (by omega) (by simp; have := HO.out.bel.size; have := HA.out.lt; omega) ?_)
        intro v w2 hown hgrow hnil
        obtain ⟨Av, cv, rfl⟩ := own_shape hown
        have A2 := (HA.out.alloc _).grown hgrow (fun e => by have := (HU.out.lt _ e.symm).1; omega)
        obtain ⟨k0, k1, j0, j1, _⟩ := A2
        have HN := Lib.hid hgrow
        have HW := Lib.hid hown
        clear hgrow hown hnil
        have E : Hid ((r : Int) = ((M % 268435456 : Nat) : Int)) := by show _ = _; rw [← HR.out]
        go_wp2_with fail
        go_roundw
        case rel => exact ⟨q, by have := HQ.out; omega, by first | rfl | go_num, _, by rw [HQ.out]; have hw := HW.out; rw [E.out] at hw; exact HO.out.step HZ.out HA.out HU.out hw HN.out⟩
        case measure => have := HZ.out; have := HQ.out; simp [intOf]; omega
end Go.Proofs.YtndcjldnnfhedaaDoor.wd2

/- Contract of the reference's Sum. -/
namespace Go.Proofs.YtndcjldnnfhedaaDoor.wd2
set_option maxRecDepth 100000
open Go.RowKit
set_option linter.unusedVariables false

structure SumW (w : World) (a b : List Nat) (i cy : Nat) (v : Value) (O : List Nat) (wr : World) : Prop where
  inv : SumI a b i cy O
  own : wr.ownsRow w.heap.size 3 1 v O.length (O.map dv)
  bel : Below w.heap.size w wr

theorem SumW.step {w wr w2 : World} {a b : List Nat} {i cy : Nat} {u v : Value} {O : List Nat} {o : Obj} {D : Int} (h : SumW w a b i cy u O wr) (ca : Can a) (cb : Can b) (hc : i < a.length ∨ i < b.length ∨ 0 < cy)
    (hown : w2.ownsRow w.heap.size 3 1 v (O.length + 1) (O.map dv ++ [.int .i64 D])) (hgrow : (wr.alloc o).grownBy w2 u.ownBlock) (hD : D = (((cy + a.getD i 0 + b.getD i 0) % 268435456 : Nat) : Int)) :
    SumW w a b (i + 1) ((cy + a.getD i 0 + b.getD i 0) / 268435456) v (O ++ [(cy + a.getD i 0 + b.getD i 0) % 268435456]) w2 := by
  have hsz : w.heap.size ≤ (wr.alloc o).heap.size := (h.bel.alloc h.bel.size o).size
  refine ⟨sumI_step ca cb h.inv hc, ?_, (h.bel.alloc h.bel.size o).grown hgrow hsz (fun k hk => (h.own.lt k hk).1)⟩
  rw [hD] at hown
  simpa [dv] using hown

set_option maxHeartbeats 2000000 in
theorem sum_any (A B : Option Addr) (n m c d : Nat) (a b : List Nat) (w : World) (ha : Dig w A n c a) (hb : Dig w B m d b) (ca : Can a) (cb : Can b) (h1 : a.length ≤ 2000000) (h2 : b.length ≤ 2000000) :
    Calls Tryd.prog 102 #[.slice A n c, .slice B m d] w (Ret w (dgs (val a + val b))) := by
  obtain ⟨i0, hi, hz0, hz1, hz2⟩ := info_parts Tryd.infoI
  have hla := ha.len
  have hlb := hb.len
  have HA := Lib.hid ha
  have HB := Lib.hid hb
  have CA := Lib.hid ca
  have CB := Lib.hid cb
  clear ha hb ca cb
  have LA := Lib.hid hla
  have LB := Lib.hid hlb
  have n1 : n ≤ 2000000 := by omega
  have n2 : m ≤ 2000000 := by omega
  clear hla hlb h1 h2
  go_enter Tryd.func102, Tryd.ntmps102
  go_wp2_with fail
  go_loopw [5, 6, 7] (fun v cv iv wr => ∃ i cy : Nat, ∃ O : List Nat, iv = .int .i64 (i : Int) ∧ cv = .int .i64 (cy : Int) ∧ SumW w a b i cy v O wr) (fun _ _ iv _ => max n m + 1 - (intOf iv).toNat)
  case atStart => exact ⟨0, 0, [], rfl, rfl, ⟨sumI_start a b, World.ownsRow_nil _ _ _ _, Below.refl _ _⟩⟩
  case round =>
    obtain ⟨i, cy, O, rfl, rfl, hW⟩ := hrel
    have hcy := hW.inv.c1
    have hsm := hW.inv.small
    rw [← LA.out, ← LB.out] at hsm
    have hOl := hW.inv.len
    obtain ⟨Au, cu, rfl⟩ := own_shape hW.own
    have HW := Lib.hid hW
    have HO := Lib.hid hOl
    clear hW hOl
    have SM := Lib.hid hsm
    clear hsm
    by_cases q1 : i < n
    · by_cases q2 : i < m
      · skip
        obtain ⟨g, rfl, hg, hcl⟩ := (HA.out.keep HW.out.bel).cell (k := i) (by rw [← LA.out]; exact q1)
        obtain ⟨x, hx⟩ : ∃ x, x = a.getD i 0 := ⟨_, rfl⟩
        have hxb := CA.out.ok.get i
        rw [← hx] at hcl hxb
        obtain ⟨g', rfl, hg', hcl'⟩ := (HB.out.keep HW.out.bel).cell (k := i) (by rw [← LB.out]; exact q2)
        obtain ⟨y, hy⟩ : ∃ y, y = b.getD i 0 := ⟨_, rfl⟩
        have hyb := CB.out.ok.get i
        rw [← hy] at hcl' hyb
        have HX := Lib.hid hx
        have HY := Lib.hid hy
        clear hx hy
        have hi4 : i ≤ 2000001 := by have := SM.out; omega
        have hol : O.length ≤ 2000001 := by have := HO.out; omega
        have OR : Hid (i < a.length ∨ i < b.length ∨ 0 < cy) := (.inl (by rw [← LA.out]; exact q1))
        have z1 : (i : Int) < (n : Int) := by omega
        have z2 : (i : Int) < (m : Int) := by omega
        go_wp2_with (at_builtin; refine wpList_append_own _ rfl _ _ _ rfl w.heap.size 3 i0 (.int .i64 0) 1 8 Tryd.underlying105 hi hz0 hz1 hz2 rfl (by omega) _ _ _ rfl (HW.out.own.alloc _) ⟨wr.heap.size, 0, none⟩ 1 1 [.int .i64 (((cy : Int) + (x : Int) + (y : Int)) % 268435456)] rfl rfl (World.news_of_block (heap_alloc_new wr _)) (by simp [Value.oneCell']) (by unfold maxLen; omega) (by omega) (HW.out.bel.alloc HW.out.bel.size _).size ?_)
        intro v w2 hown hgrow hnil
        obtain ⟨Av, cv, rfl⟩ := own_shape hown
        have HN := Lib.hid hgrow
        have HV := Lib.hid hown
        clear hgrow hown hnil
        go_wp2_with fail
        go_roundw
        case rel => exact ⟨i + 1, _, _, by go_num, by rw [← HX.out, ← HY.out]; go_num, HW.out.step CA.out CB.out OR.out HV.out HN.out (by rw [← HX.out, ← HY.out]; first | rfl | omega)⟩
        case measure => have := SM.out; simp [intOf]; omega
      · skip
        obtain ⟨g, rfl, hg, hcl⟩ := (HA.out.keep HW.out.bel).cell (k := i) (by rw [← LA.out]; exact q1)
        obtain ⟨x, hx⟩ : ∃ x, x = a.getD i 0 := ⟨_, rfl⟩
        have hxb := CA.out.ok.get i
        rw [← hx] at hcl hxb
        have hy : 0 = b.getD i 0 := by rw [List.getD_eq_getElem?_getD, List.getElem?_eq_none (by rw [← LB.out]; omega)]; rfl
        have HX := Lib.hid hx
        have HY := Lib.hid hy
        clear hx hy
        have hi4 : i ≤ 2000001 := by have := SM.out; omega
        have hol : O.length ≤ 2000001 := by have := HO.out; omega
        have OR : Hid (i < a.length ∨ i < b.length ∨ 0 < cy) := (.inl (by rw [← LA.out]; exact q1))
        have z1 : (i : Int) < (n : Int) := by omega
        have z2 : ¬ (i : Int) < (m : Int) := by omega
        go_wp2_with (at_builtin; refine wpList_append_own _ rfl _ _ _ rfl w.heap.size 3 i0 (.int .i64 0) 1 8 Tryd.underlying105 hi hz0 hz1 hz2 rfl (by omega) _ _ _ rfl (HW.out.own.alloc _) ⟨wr.heap.size, 0, none⟩ 1 1 [.int .i64 (((cy : Int) + (x : Int)) % 268435456)] rfl rfl (World.news_of_block (heap_alloc_new wr _)) (by simp [Value.oneCell']) (by unfold maxLen; omega) (by omega) (HW.out.bel.alloc HW.out.bel.size _).size ?_)
        intro v w2 hown hgrow hnil
        obtain ⟨Av, cv, rfl⟩ := own_shape hown
        have HN := Lib.hid hgrow
        have HV := Lib.hid hown
        clear hgrow hown hnil
        go_wp2_with fail
        go_roundw
        case rel => exact ⟨i + 1, _, _, by go_num, by rw [← HX.out, ← HY.out]; go_num, HW.out.step CA.out CB.out OR.out HV.out HN.out (by rw [← HX.out, ← HY.out]; first | rfl | omega)⟩
        case measure => have := SM.out; simp [intOf]; omega
    · by_cases q2 : i < m
      · skip
        have hx : 0 = a.getD i 0 := by rw [List.getD_eq_getElem?_getD, List.getElem?_eq_none (by rw [← LA.out]; omega)]; rfl
        obtain ⟨g', rfl, hg', hcl'⟩ := (HB.out.keep HW.out.bel).cell (k := i) (by rw [← LB.out]; exact q2)
        obtain ⟨y, hy⟩ : ∃ y, y = b.getD i 0 := ⟨_, rfl⟩
        have hyb := CB.out.ok.get i
        rw [← hy] at hcl' hyb
        have HX := Lib.hid hx
        have HY := Lib.hid hy
        clear hx hy
        have hi4 : i ≤ 2000001 := by have := SM.out; omega
        have hol : O.length ≤ 2000001 := by have := HO.out; omega
        have OR : Hid (i < a.length ∨ i < b.length ∨ 0 < cy) := (.inr (.inl (by rw [← LB.out]; exact q2)))
        have z1 : ¬ (i : Int) < (n : Int) := by omega
        have z2 : (i : Int) < (m : Int) := by omega
        go_wp2_with (at_builtin; refine wpList_append_own _ rfl _ _ _ rfl w.heap.size 3 i0 (.int .i64 0) 1 8 Tryd.underlying105 hi hz0 hz1 hz2 rfl (by omega) _ _ _ rfl (HW.out.own.alloc _) ⟨wr.heap.size, 0, none⟩ 1 1 [.int .i64 (((cy : Int) + (y : Int)) % 268435456)] rfl rfl (World.news_of_block (heap_alloc_new wr _)) (by simp [Value.oneCell']) (by unfold maxLen; omega) (by omega) (HW.out.bel.alloc HW.out.bel.size _).size ?_)
        intro v w2 hown hgrow hnil
        obtain ⟨Av, cv, rfl⟩ := own_shape hown
        have HN := Lib.hid hgrow
        have HV := Lib.hid hown
        clear hgrow hown hnil
        go_wp2_with fail
        go_roundw
        case rel => exact ⟨i + 1, _, _, by go_num, by rw [← HX.out, ← HY.out]; go_num, HW.out.step CA.out CB.out OR.out HV.out HN.out (by rw [← HX.out, ← HY.out]; first | rfl | omega)⟩
        case measure => have := SM.out; simp [intOf]; omega
      · by_cases q3 : 0 < cy
        · skip
          have hx : 0 = a.getD i 0 := by rw [List.getD_eq_getElem?_getD, List.getElem?_eq_none (by rw [← LA.out]; omega)]; rfl
          have hy : 0 = b.getD i 0 := by rw [List.getD_eq_getElem?_getD, List.getElem?_eq_none (by rw [← LB.out]; omega)]; rfl
          have HX := Lib.hid hx
          have HY := Lib.hid hy
          clear hx hy
          have hi4 : i ≤ 2000001 := by have := SM.out; omega
          have hol : O.length ≤ 2000001 := by have := HO.out; omega
          have OR : Hid (i < a.length ∨ i < b.length ∨ 0 < cy) := (.inr (.inr q3))
          have z1 : ¬ (i : Int) < (n : Int) := by omega
          have z2 : ¬ (i : Int) < (m : Int) := by omega
          have z3 : (0 : Int) < (cy : Int) := by omega
          go_wp2_with (at_builtin; refine wpList_append_own _ rfl _ _ _ rfl w.heap.size 3 i0 (.int .i64 0) 1 8 Tryd.underlying105 hi hz0 hz1 hz2 rfl (by omega) _ _ _ rfl (HW.out.own.alloc _) ⟨wr.heap.size, 0, none⟩ 1 1 [.int .i64 (((cy : Int)) % 268435456)] rfl rfl (World.news_of_block (heap_alloc_new wr _)) (by simp [Value.oneCell']) (by unfold maxLen; omega) (by omega) (HW.out.bel.alloc HW.out.bel.size _).size ?_)
          intro v w2 hown hgrow hnil
          obtain ⟨Av, cv, rfl⟩ := own_shape hown
          have HN := Lib.hid hgrow
          have HV := Lib.hid hown
          clear hgrow hown hnil
          go_wp2_with fail
          go_roundw
          case rel => exact ⟨i + 1, _, _, by go_num, by rw [← HX.out, ← HY.out]; go_num, HW.out.step CA.out CB.out OR.out HV.out HN.out (by rw [← HX.out, ← HY.out]; first | rfl | omega)⟩
          case measure => have := SM.out; simp [intOf]; omega
        · have hc0 : cy = 0 := by omega
          subst hc0
          have z1 : ¬ (i : Int) < (n : Int) := by omega
          have z2 : ¬ (i : Int) < (m : Int) := by omega
          have E : Hid (O = dgs (val a + val b)) := sumI_end HW.out.inv (by rw [← LA.out]; exact q1) (by rw [← LB.out]; exact q2)
          go_wp2_with fail
          go_ret
          have ho := HW.out.own
          rw [← E.out]
          exact ret_of_own ho HW.out.bel
end Go.Proofs.YtndcjldnnfhedaaDoor.wd2

/- Contract of the reference's Less. -/
namespace Go.Proofs.YtndcjldnnfhedaaDoor.wd2
set_option maxRecDepth 100000
open Go.RowKit
set_option linter.unusedVariables false

structure LessW (w : World) (a b : List Nat) (i br : Nat) (v : Value) (O : List Nat) (wr : World) : Prop where
  inv : LessI a b i br O
  own : wr.ownsRow w.heap.size 3 1 v O.length (O.map dv)
  bel : Below w.heap.size w wr

theorem LessW.step {w wr w2 : World} {a b : List Nat} {i br d b' : Nat} {u v : Value} {O : List Nat} {o : Obj} {D : Int} (h : LessW w a b i br u O wr) (ha : Dok a) (hb : Dok b)
    (hown : w2.ownsRow w.heap.size 3 1 v (O.length + 1) (O.map dv ++ [.int .i64 D])) (hgrow : (wr.alloc o).grownBy w2 u.ownBlock) (hD : D = ((d : Nat) : Int))
    (hd : d + (br + b.getD i 0) = a.getD i 0 + 268435456 * b') (hd1 : d < 268435456) (hb' : b' ≤ 1) :
    LessW w a b (i + 1) b' v (O ++ [d]) w2 := by
  have hsz : w.heap.size ≤ (wr.alloc o).heap.size := (h.bel.alloc h.bel.size o).size
  refine ⟨lessI_step ha hb h.inv d b' hd hd1 hb', ?_, (h.bel.alloc h.bel.size o).grown hgrow hsz (fun k hk => (h.own.lt k hk).1)⟩
  rw [hD] at hown
  simpa [dv] using hown

set_option maxHeartbeats 2000000 in
theorem less_any (A B : Option Addr) (n m c d : Nat) (a b : List Nat) (w : World) (ha : Dig w A n c a) (hb : Dig w B m d b) (ca : Dok a) (cb : Can b) (hv : val b ≤ val a) (h1 : a.length ≤ 2000000) (h2 : b.length ≤ 2000000) :
    Calls Tryd.prog 103 #[.slice A n c, .slice B m d] w (Ret w (dgs (val a - val b))) := by
  obtain ⟨i0, hi, hz0, hz1, hz2⟩ := info_parts Tryd.infoI
  have hla := ha.len
  have hlb := hb.len
  have HA := Lib.hid ha
  have HB := Lib.hid hb
  have CA := Lib.hid ca
  have CB := Lib.hid cb
  have HLE := Lib.hid hv
  clear ha hb ca cb hv
  have LA := Lib.hid hla
  have LB := Lib.hid hlb
  have n1 : n ≤ 2000000 := by omega
  have n2 : m ≤ 2000000 := by omega
  clear hla hlb h1 h2
  go_enter Tryd.func103, Tryd.ntmps103
  go_wp2_with fail
  go_loopw [5, 6, 7] (fun v cv iv wr => ∃ i br : Nat, ∃ O : List Nat, i ≤ n ∧ iv = .int .i64 (i : Int) ∧ cv = .int .i64 (br : Int) ∧ LessW w a b i br v O wr) (fun _ _ iv _ => n - (intOf iv).toNat)
  case atStart => exact ⟨0, 0, [], Nat.zero_le _, rfl, rfl, ⟨lessI_start a b, World.ownsRow_nil _ _ _ _, Below.refl _ _⟩⟩
  case round =>
    obtain ⟨i, br, O, hin, rfl, rfl, hW⟩ := hrel
    have hbr := hW.inv.b1
    have hOl := hW.inv.len
    obtain ⟨Au, cu, rfl⟩ := own_shape hW.own
    have HW := Lib.hid hW
    have HO := Lib.hid hOl
    clear hW hOl
    by_cases q1 : i < n
    · have z1 : (i : Int) < (n : Int) := by omega
      obtain ⟨g, rfl, hg, hcl⟩ := (HA.out.keep HW.out.bel).cell (k := i) (by rw [← LA.out]; exact q1)
      obtain ⟨x, hx⟩ : ∃ x, x = a.getD i 0 := ⟨_, rfl⟩
      have hxb := CA.out.get i
      rw [← hx] at hcl hxb
      have HX := Lib.hid hx
      have hol : O.length ≤ 2000001 := by have := HO.out; omega
      clear hx
      by_cases q2 : i < m
      · have z2 : (i : Int) < (m : Int) := by omega
        obtain ⟨g', rfl, hg', hcl'⟩ := (HB.out.keep HW.out.bel).cell (k := i) (by rw [← LB.out]; exact q2)
        obtain ⟨y, hy⟩ : ∃ y, y = b.getD i 0 := ⟨_, rfl⟩
        have hyb := CB.out.ok.get i
        rw [← hy] at hcl' hyb
        have HY := Lib.hid hy
        clear hy
        by_cases q3 : (x : Int) - (br : Int) - (y : Int) < 0
        · skip
          have z3 : (x : Int) - (br : Int) - (y : Int) < 0 := by omega
          go_wp2_with (at_builtin; refine wpList_append_own _ rfl _ _ _ rfl w.heap.size 3 i0 (.int .i64 0) 1 8 Tryd.underlying105 hi hz0 hz1 hz2 rfl (by omega) _ _ _ rfl (HW.out.own.alloc _) ⟨wr.heap.size, 0, none⟩ 1 1 [.int .i64 ((x : Int) - (br : Int) - (y : Int) + 268435456)] rfl rfl (World.news_of_block (heap_alloc_new wr _)) (by simp [Value.oneCell']) (by unfold maxLen; omega) (by omega) (HW.out.bel.alloc HW.out.bel.size _).size ?_)
          intro v w2 hown hgrow hnil
          obtain ⟨Av, cv, rfl⟩ := own_shape hown
          have HN := Lib.hid hgrow
          have HV := Lib.hid hown
          clear hgrow hown hnil
          go_wp2_with fail
          go_roundw
          case rel => exact ⟨i + 1, 1, _, by omega, by go_num, rfl, HW.out.step (d := ((x : Int) - (br : Int) - (y : Int) + 268435456).toNat) CA.out CB.out.ok HV.out HN.out (by omega) (by rw [← HX.out, ← HY.out]; omega) (by omega) (by omega)⟩
          case measure => simp [intOf]; omega
        · skip
          have z3 : ¬ (x : Int) - (br : Int) - (y : Int) < 0 := by omega
          go_wp2_with (at_builtin; refine wpList_append_own _ rfl _ _ _ rfl w.heap.size 3 i0 (.int .i64 0) 1 8 Tryd.underlying105 hi hz0 hz1 hz2 rfl (by omega) _ _ _ rfl (HW.out.own.alloc _) ⟨wr.heap.size, 0, none⟩ 1 1 [.int .i64 ((x : Int) - (br : Int) - (y : Int))] rfl rfl (World.news_of_block (heap_alloc_new wr _)) (by simp [Value.oneCell']) (by unfold maxLen; omega) (by omega) (HW.out.bel.alloc HW.out.bel.size _).size ?_)
          intro v w2 hown hgrow hnil
          obtain ⟨Av, cv, rfl⟩ := own_shape hown
          have HN := Lib.hid hgrow
          have HV := Lib.hid hown
          clear hgrow hown hnil
          go_wp2_with fail
          go_roundw
          case rel => exact ⟨i + 1, 0, _, by omega, by go_num, rfl, HW.out.step (d := ((x : Int) - (br : Int) - (y : Int)).toNat) CA.out CB.out.ok HV.out HN.out (by omega) (by rw [← HX.out, ← HY.out]; omega) (by omega) (by omega)⟩
          case measure => simp [intOf]; omega
      · have z2 : ¬ (i : Int) < (m : Int) := by omega
        obtain ⟨y, hy⟩ : ∃ y, y = b.getD i 0 := ⟨_, rfl⟩
        have hy0 : y = 0 := by rw [hy, List.getD_eq_getElem?_getD, List.getElem?_eq_none (by rw [← LB.out]; omega)]; rfl
        have HY := Lib.hid hy
        have HY0 := Lib.hid hy0
        clear hy hy0
        by_cases q3 : (x : Int) - (br : Int) < 0
        · skip
          have z3 : (x : Int) - (br : Int) < 0 := by omega
          go_wp2_with (at_builtin; refine wpList_append_own _ rfl _ _ _ rfl w.heap.size 3 i0 (.int .i64 0) 1 8 Tryd.underlying105 hi hz0 hz1 hz2 rfl (by omega) _ _ _ rfl (HW.out.own.alloc _) ⟨wr.heap.size, 0, none⟩ 1 1 [.int .i64 ((x : Int) - (br : Int) + 268435456)] rfl rfl (World.news_of_block (heap_alloc_new wr _)) (by simp [Value.oneCell']) (by unfold maxLen; omega) (by omega) (HW.out.bel.alloc HW.out.bel.size _).size ?_)
          intro v w2 hown hgrow hnil
          obtain ⟨Av, cv, rfl⟩ := own_shape hown
          have HN := Lib.hid hgrow
          have HV := Lib.hid hown
          clear hgrow hown hnil
          go_wp2_with fail
          go_roundw
          case rel => exact ⟨i + 1, 1, _, by omega, by go_num, rfl, HW.out.step (d := ((x : Int) - (br : Int) + 268435456).toNat) CA.out CB.out.ok HV.out HN.out (by omega) (by rw [← HX.out, ← HY.out]; have := HY0.out; omega) (by omega) (by omega)⟩
          case measure => simp [intOf]; omega
        · skip
          have z3 : ¬ (x : Int) - (br : Int) < 0 := by omega
          go_wp2_with (at_builtin; refine wpList_append_own _ rfl _ _ _ rfl w.heap.size 3 i0 (.int .i64 0) 1 8 Tryd.underlying105 hi hz0 hz1 hz2 rfl (by omega) _ _ _ rfl (HW.out.own.alloc _) ⟨wr.heap.size, 0, none⟩ 1 1 [.int .i64 ((x : Int) - (br : Int))] rfl rfl (World.news_of_block (heap_alloc_new wr _)) (by simp [Value.oneCell']) (by unfold maxLen; omega) (by omega) (HW.out.bel.alloc HW.out.bel.size _).size ?_)
          intro v w2 hown hgrow hnil
          obtain ⟨Av, cv, rfl⟩ := own_shape hown
          have HN := Lib.hid hgrow
          have HV := Lib.hid hown
          clear hgrow hown hnil
          go_wp2_with fail
          go_roundw
          case rel => exact ⟨i + 1, 0, _, by omega, by go_num, rfl, HW.out.step (d := ((x : Int) - (br : Int)).toNat) CA.out CB.out.ok HV.out HN.out (by omega) (by rw [← HX.out, ← HY.out]; have := HY0.out; omega) (by omega) (by omega)⟩
          case measure => simp [intOf]; omega
    · have e : i = n := by omega
      subst e
      have E : Hid (val O = val a - val b) := by
        have h := HW.out.inv
        rw [LA.out] at h
        exact lessI_end CA.out CB.out HLE.out h
      have hol : O.length ≤ 2000001 := by have := HO.out; omega
      go_wp2_with (go_at_call 111; refine (trim_any Au _ cu O _ (dig_of_own HW.out.own) HW.out.inv.ok (by omega)).mono ?_; rintro e w2 ⟨Ar, nr, cr, rfl, hdr, hfr, hbr⟩)
      go_ret
      rw [E.out] at hdr
      exact Ret.under HW.out.bel ⟨Ar, nr, cr, rfl, hdr, hfr, hbr⟩
end Go.Proofs.YtndcjldnnfhedaaDoor.wd2
