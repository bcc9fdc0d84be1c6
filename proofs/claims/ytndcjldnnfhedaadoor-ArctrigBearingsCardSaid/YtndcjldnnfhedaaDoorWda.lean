/- Wide: the root and the division. -/
import Derived.Test.YtndcjldnnfhedaaDoorRows
import Derived.WalkKit
import Derived.WalkSpells
import Derived.WalkLawsBesides
import Derived.Lib.Hide
import Derived.Deep.QuietTactic
import Derived.BigQuiet
import Derived.Laws.Bits64b
import Derived.Deep.RegionHeld3
import Derived.Test.YtndcjldnnfhedaaDoorShelf
import Derived.Shelf.Spec.BitsCarry
import Derived.Lib.ItoaNum
import Derived.Lib.BitFns
import Derived.Shelf.Bits.Mul64
import Derived.Deep.CutBlock
import Derived.Deep.DeepCutAuto
/- Plain numbers under math/bits.Div64 (the schoolbook division by digits of 32 bits): no run of the model here. -/
namespace Go.Proofs.YtndcjldnnfhedaaDoor.wd
set_option linter.unusedVariables false

/-- the state of the search for a digit of the quotient: q is at least the digit Q, and q a + r = u -/
structure Dg (u a b d q r : Nat) : Prop where
  e : q * a + r = u
  ge : (u * 4294967296 + d) / (a * 4294967296 + b) ≤ q
  le : q ≤ 4294967297

theorem dg_start (u a b d : Nat) (ha : 2147483648 ≤ a) (hb : b < 4294967296) (hd : d < 4294967296) (hu : u < a * 4294967296 + b) : Dg u a b d (u / a) (u - u / a * a) := by
  have h1 : u / a * a ≤ u := Nat.div_mul_le_self u a
  refine ⟨by omega, ?_, ?_⟩
  · rw [Nat.le_div_iff_mul_le (by omega)]
    have h2 := Nat.div_mul_le_self (u * 4294967296 + d) (a * 4294967296 + b)
    generalize (u * 4294967296 + d) / (a * 4294967296 + b) = Q at *
    have e : Q * (a * 4294967296 + b) = Q * a * 4294967296 + Q * b := by rw [Nat.mul_add, Nat.mul_assoc]
    rw [e] at h2
    generalize Q * a = x at *
    generalize Q * b = y at *
    omega
  · have : u / a < 4294967298 := by
      rw [Nat.div_lt_iff_lt_mul (by omega)]
      omega
    omega

theorem dg_lt (u a b d : Nat) (hd : d < 4294967296) (hu : u < a * 4294967296 + b) : (u * 4294967296 + d) / (a * 4294967296 + b) < 4294967296 := by
  rw [Nat.div_lt_iff_lt_mul (by omega)]
  omega

theorem dg_stop {u a b d q r : Nat} (h : Dg u a b d q r) (ha : 0 < a) (h2 : q * b ≤ 4294967296 * r + d) : q = (u * 4294967296 + d) / (a * 4294967296 + b) := by
  refine Nat.le_antisymm ?_ h.ge
  rw [Nat.le_div_iff_mul_le (by omega)]
  have e : q * (a * 4294967296 + b) = q * a * 4294967296 + q * b := by rw [Nat.mul_add, Nat.mul_assoc]
  have he := h.e
  rw [e]
  generalize q * a = x at *
  generalize q * b = y at *
  omega

theorem dg_gt {u a b d q r : Nat} (h : Dg u a b d q r) (ha : 0 < a) (hd : d < 4294967296) (hu : u < a * 4294967296 + b) (h2 : 4294967296 ≤ q ∨ 4294967296 * r + d < q * b) : (u * 4294967296 + d) / (a * 4294967296 + b) < q := by
  rcases h2 with h2 | h2
  · have := dg_lt u a b d hd hu; omega
  · rw [Nat.div_lt_iff_lt_mul (by omega)]
    have e : q * (a * 4294967296 + b) = q * a * 4294967296 + q * b := by rw [Nat.mul_add, Nat.mul_assoc]
    have he := h.e
    rw [e]
    generalize q * a = x at *
    generalize q * b = y at *
    omega

theorem dg_more {u a b d q r : Nat} (h : Dg u a b d q r) (ha : 0 < a) (hd : d < 4294967296) (hu : u < a * 4294967296 + b) (h2 : 4294967296 ≤ q ∨ 4294967296 * r + d < q * b) : 1 ≤ q ∧ Dg u a b d (q - 1) (r + a) := by
  have hg := dg_gt h ha hd hu h2
  have h1 : 1 ≤ q := Nat.lt_of_le_of_lt (Nat.zero_le _) hg
  refine ⟨h1, ?_, Nat.le_sub_one_of_lt hg, by have := h.le; omega⟩
  obtain ⟨p, rfl⟩ : ∃ p, q = p + 1 := ⟨q - 1, by omega⟩
  have he := h.e
  rw [Nat.add_mul] at he
  show p * a + (r + a) = u
  omega

theorem dg_break {u a b d q r : Nat} (h : Dg u a b d q r) (ha : 0 < a) (hb : b < 4294967296) (hq : q ≤ 4294967296) (hr : 4294967296 ≤ r) : q = (u * 4294967296 + d) / (a * 4294967296 + b) := by
  refine dg_stop h ha ?_
  have h1 : q * b ≤ 4294967296 * b := Nat.mul_le_mul_right b hq
  omega

/-- the remainder behind a digit -/
theorem dg_rest (u y d : Nat) (hy : 0 < y) (B : Nat) : u * B + d - (u * B + d) / y * y = (u * B + d) % y := by
  have h := Nat.div_add_mod (u * B + d) y
  rw [Nat.mul_comm] at h
  omega

theorem two_digits_aux (m d0 y B : Nat) (hy : 0 < y) :
    m / y * B + (m % y * B + d0) / y = (m * B + d0) / y ∧ (m % y * B + d0) % y = (m * B + d0) % y := by
  have h := Nat.div_add_mod m y
  have e : m * B + d0 = y * (m / y * B) + (m % y * B + d0) := by
    conv => lhs; rw [← h]
    rw [Nat.add_mul, Nat.mul_assoc]; omega
  constructor
  · rw [e, Nat.mul_add_div hy]
  · rw [e, Nat.mul_add_mod]
/-- both digits together -/
theorem two_digits (u d1 d0 y : Nat) (hy : 0 < y) :
    (u * 4294967296 + d1) / y * 4294967296 + ((u * 4294967296 + d1) % y * 4294967296 + d0) / y = ((u * 4294967296 + d1) * 4294967296 + d0) / y ∧
    ((u * 4294967296 + d1) % y * 4294967296 + d0) % y = ((u * 4294967296 + d1) * 4294967296 + d0) % y :=
  two_digits_aux _ d0 y _ hy

/-- the shift of dividend and divisor by k = 2^s -/
theorem shifted (N y k : Nat) (hk : 0 < k) : N * k / (y * k) = N / y ∧ (N * k) % (y * k) / k = N % y := by
  constructor
  · exact Nat.mul_div_mul_right N y hk
  · rw [Nat.mul_mod_mul_right, Nat.mul_div_cancel _ hk]

/-- the upper word of the shifted dividend -/
theorem shift_high (hi lo s : Nat) (hs : s ≤ 63) (hlo : lo < 18446744073709551616) :
    (hi * 18446744073709551616 + lo) * 2 ^ s = (hi * 2 ^ s + lo / 2 ^ (64 - s)) * 18446744073709551616 + lo * 2 ^ s % 18446744073709551616 ∧ lo / 2 ^ (64 - s) < 2 ^ s := by
  have e : (18446744073709551616 : Nat) = 2 ^ (64 - s) * 2 ^ s := by rw [← Nat.pow_add]; rw [show 64 - s + s = 64 by omega]
  have hp : 0 < 2 ^ s := Nat.pow_pos (by omega)
  have hp2 : 0 < 2 ^ (64 - s) := Nat.pow_pos (by omega)
  constructor
  · have h := Nat.div_add_mod lo (2 ^ (64 - s))
    have e2 : lo * 2 ^ s % 18446744073709551616 = lo % 2 ^ (64 - s) * 2 ^ s := by
      rw [e, Nat.mul_mod_mul_right]
    have e3 : lo * 2 ^ s = lo / 2 ^ (64 - s) * 18446744073709551616 + lo % 2 ^ (64 - s) * 2 ^ s := by
      conv => lhs; rw [← h]
      rw [Nat.add_mul, e]
      rw [Nat.mul_comm (2 ^ (64 - s)) (lo / 2 ^ (64 - s)), Nat.mul_assoc]
    rw [Nat.add_mul, e2, Nat.add_mul, e3]
    have : hi * 18446744073709551616 * 2 ^ s = hi * 2 ^ s * 18446744073709551616 := by rw [Nat.mul_right_comm]
    omega
  · rw [Nat.div_lt_iff_lt_mul hp2, Nat.mul_comm, ← e]; exact hlo
end Go.Proofs.YtndcjldnnfhedaaDoor.wd

/- Plain numbers under package wide: values, carries, quotients, roots: no run of the model here. -/
namespace Go.Proofs.YtndcjldnnfhedaaDoor.wd
set_option linter.unusedVariables false

/-- the value of a wide integer -/
def wv (h l : Int) : Int := h * 1152921504606846976 + l
/-- does a wide integer keep the bounds of Hi and Lo -/
def wok (h l : Int) : Bool := decide (-1152921504606846976 ≤ h ∧ h < 1152921504606846976 ∧ 0 ≤ l ∧ l < 1152921504606846976)
theorem wok_iff (h l : Int) : wok h l = true ↔ (-1152921504606846976 ≤ h ∧ h < 1152921504606846976 ∧ 0 ≤ l ∧ l < 1152921504606846976) := by unfold wok; simp
theorem wok_not (h l : Int) : wok h l = false ↔ ¬ (-1152921504606846976 ≤ h ∧ h < 1152921504606846976 ∧ 0 ≤ l ∧ l < 1152921504606846976) := by unfold wok; rw [decide_eq_false_iff_not]
/-- upper and lower part of a number -/
def wh (n : Int) : Int := n / 1152921504606846976
def wl (n : Int) : Int := n % 1152921504606846976
theorem wv_parts (n : Int) : wv (wh n) (wl n) = n := by unfold wv wh wl; omega
theorem wl_bd (n : Int) : 0 ≤ wl n ∧ wl n < 1152921504606846976 := by unfold wl; omega
/-- does a number fit -/
def wfit (n : Int) : Bool := decide (-1152921504606846976 ≤ wh n ∧ wh n < 1152921504606846976)
theorem wfit_iff (n : Int) : wfit n = true ↔ (-1152921504606846976 ≤ wh n ∧ wh n < 1152921504606846976) := by unfold wfit; simp
theorem wfit_not (n : Int) : wfit n = false ↔ ¬ (-1152921504606846976 ≤ wh n ∧ wh n < 1152921504606846976) := by unfold wfit; rw [decide_eq_false_iff_not]
theorem wok_parts (n : Int) : wok (wh n) (wl n) = wfit n := by
  have := wl_bd n
  cases hf : wfit n
  · rw [wok_not]; rw [wfit_not] at hf; omega
  · rw [wok_iff]; rw [wfit_iff] at hf; omega
theorem parts_wv (h l : Int) (hk : wok h l = true) : wh (wv h l) = h ∧ wl (wv h l) = l := by
  rw [wok_iff] at hk; unfold wh wl wv; omega
theorem fit_wv (h l : Int) (hk : wok h l = true) : wfit (wv h l) = true := by
  rw [wfit_iff, (parts_wv h l hk).1]; rw [wok_iff] at hk; omega
theorem wv_inj {h l h' l' : Int} (hk : wok h l = true) (hk' : wok h' l' = true) (e : wv h l = wv h' l') : h = h' ∧ l = l' := by
  have a := parts_wv h l hk
  have b := parts_wv h' l' hk'
  rw [e] at a
  exact ⟨a.1.symm.trans b.1, a.2.symm.trans b.2⟩
theorem wh_add (h l : Int) : wh (wv h l) = h + l / 1152921504606846976 := by unfold wh wv; omega
theorem wl_add (h l : Int) : wl (wv h l) = l % 1152921504606846976 := by unfold wl wv; omega

/-- Cmp's answer -/
def wcmp (h l h' l' : Int) : Int := if h < h' then -1 else if h' < h then 1 else if l < l' then -1 else if l' < l then 1 else 0
theorem wcmp_spec (h l h' l' : Int) (hk : wok h l = true) (hk' : wok h' l' = true) :
    wcmp h l h' l' = if wv h l < wv h' l' then -1 else if wv h' l' < wv h l then 1 else 0 := by
  rw [wok_iff] at hk hk'
  unfold wcmp wv
  by_cases a : h < h'
  · rw [if_pos a, if_pos (by omega)]
  · rw [if_neg a]
    by_cases b : h' < h
    · rw [if_pos b, if_neg (by omega), if_pos (by omega)]
    · rw [if_neg b]
      by_cases c : l < l'
      · rw [if_pos c, if_pos (by omega)]
      · rw [if_neg c]
        by_cases d : l' < l
        · rw [if_pos d, if_neg (by omega), if_pos (by omega)]
        · rw [if_neg d, if_neg (by omega), if_neg (by omega)]
def sgn (n : Int) : Int := if n < 0 then -1 else if 0 < n then 1 else 0
theorem wcmp_sgn (h l h' l' : Int) (hk : wok h l = true) (hk' : wok h' l' = true) : wcmp h l h' l' = sgn (wv h l - wv h' l') := by
  rw [wcmp_spec h l h' l' hk hk']; unfold sgn
  generalize wv h l = a; generalize wv h' l' = b
  by_cases c : a < b
  · rw [if_pos c, if_pos (by omega)]
  · rw [if_neg c, if_neg (by omega : ¬ a - b < 0)]
    by_cases d : b < a
    · rw [if_pos d, if_pos (by omega)]
    · rw [if_neg d, if_neg (by omega)]

/-- the quotient rounded down, and up, for any divisor but 0 -/
def qdn (n b : Int) : Int := if 0 < b then n / b else (-n) / (-b)
def qup (n b : Int) : Int := -(qdn (-n) b)
/-- is a number an int -/
def isI (n : Int) : Bool := decide (-9223372036854775808 ≤ n ∧ n ≤ 9223372036854775807)
theorem isI_iff (n : Int) : isI n = true ↔ (-9223372036854775808 ≤ n ∧ n ≤ 9223372036854775807) := by unfold isI; simp
theorem isI_not (n : Int) : isI n = false ↔ ¬ (-9223372036854775808 ≤ n ∧ n ≤ 9223372036854775807) := by unfold isI; rw [decide_eq_false_iff_not]

/-- division of absolute values, and the step of a rounding -/
theorem ediv_of_nat (N B : Nat) (hB : 0 < B) : ((N : Int) / (B : Int)) = ((N / B : Nat) : Int) ∧ ((-(N : Int)) / (B : Int)) = -(((N / B : Nat) : Int) + if N % B = 0 then 0 else 1) := by
  refine ⟨(Int.natCast_ediv N B).symm ▸ rfl, ?_⟩
  have h := Nat.div_add_mod N B
  have hr := Nat.mod_lt N hB
  have hc : (N : Int) = (B : Int) * ((N / B : Nat) : Int) + ((N % B : Nat) : Int) := by
    rw [← Int.natCast_mul, ← Int.natCast_add, h]
  generalize N / B = q at *
  generalize N % B = r at *
  rw [Int.ediv_eq_iff_of_pos (by omega)]
  by_cases z : r = 0
  · rw [if_pos z]
    have e1 : -((q : Int) + 0) * (B : Int) = -((B : Int) * (q : Int)) := by rw [Int.add_zero, Int.neg_mul, Int.mul_comm]
    rw [e1]; omega
  · rw [if_neg z]
    have e1 : -((q : Int) + 1) * (B : Int) = -((B : Int) * (q : Int)) - (B : Int) := by rw [Int.neg_mul, Int.add_mul, Int.mul_comm (B : Int)]; omega
    rw [e1]; omega
end Go.Proofs.YtndcjldnnfhedaaDoor.wd

/- Contracts of the small functions of package wide. -/
namespace Go.Proofs.YtndcjldnnfhedaaDoor.wd
open Go.RowKit
set_option linter.unusedVariables false

theorem ret_bool {a b : Bool} (h : a = b) : Ending.returned (.bool a) = .returned (.bool b) := by rw [h]
theorem ret_int {k : IntKind} {a b : Int} (h : a = b) : Ending.returned (.int k a) = .returned (.int k b) := by rw [h]

theorem valid_any (h l : Int) (w : World) :
    Calls Tryd.prog 87 #[.agg #[.int .i64 h, .int .i64 l]] w fun e w' => e = .returned (.bool (wok h l)) ∧ Below w.heap.size w w' := by
  have D : Hid (wok h l = decide (-1152921504606846976 ≤ h ∧ h < 1152921504606846976 ∧ 0 ≤ l ∧ l < 1152921504606846976)) := by show wok h l = _; rfl
  by_cases h1 : -1152921504606846976 ≤ h
  · by_cases h2 : h < 1152921504606846976
    · by_cases h3 : 0 ≤ l
      · by_cases h4 : l < 1152921504606846976
        all_goals
          go_enter Tryd.func87, Tryd.ntmps87
          go_wp2
          go_ret
          exact ⟨ret_bool (by rw [D.out]; simp; omega), (Below.refl _ _).alloc (Nat.le_refl _) _⟩
      · go_enter Tryd.func87, Tryd.ntmps87
        go_wp2
        go_ret
        exact ⟨ret_bool (by rw [D.out]; simp; omega), (Below.refl _ _).alloc (Nat.le_refl _) _⟩
    · go_enter Tryd.func87, Tryd.ntmps87
      go_wp2
      go_ret
      exact ⟨ret_bool (by rw [D.out]; simp; omega), (Below.refl _ _).alloc (Nat.le_refl _) _⟩
  · go_enter Tryd.func87, Tryd.ntmps87
    go_wp2
    go_ret
    exact ⟨ret_bool (by rw [D.out]; simp; omega), (Below.refl _ _).alloc (Nat.le_refl _) _⟩

theorem mask60 (l : Int) : bits .and .i64 l 1152921504606846975 = l % 1152921504606846976 := by
  have h2 : (BitVec.ofInt 64 (1152921504606846975 : Int)).toNat = 1152921504606846975 := by decide
  have h1 : (BitVec.ofInt 64 l).toNat = (l % 18446744073709551616).toNat := by rw [BitVec.toNat_ofInt]; rfl
  show IntKind.i64.wrap ((BitVec.ofInt 64 l &&& BitVec.ofInt 64 1152921504606846975).toNat : Int) = _
  rw [BitVec.toNat_and, h1, h2, show (1152921504606846975 : Nat) = 2 ^ 60 - 1 by rfl, Nat.and_two_pow_sub_one_eq_mod, IntKind.wrap_i64]
  omega

theorem or60 (h l : Int) (h0 : 0 ≤ l) (h1 : l < 1152921504606846976) : bits .or .i64 (wrap64 (h * 1152921504606846976)) l = wrap64 (wv h l) := by
  have e1 : (BitVec.ofInt 64 (wrap64 (h * 1152921504606846976))).toNat = (h % 16).toNat <<< 60 := by
    rw [BitVec.toNat_ofInt, Nat.shiftLeft_eq]; unfold wrap64; omega
  have e2 : (BitVec.ofInt 64 l).toNat = l.toNat := by rw [BitVec.toNat_ofInt]; omega
  show IntKind.i64.wrap ((BitVec.ofInt 64 (wrap64 (h * 1152921504606846976)) ||| BitVec.ofInt 64 l).toNat : Int) = _
  rw [BitVec.toNat_or, e1, e2, ← Nat.shiftLeft_add_eq_or_of_lt (by omega), Nat.shiftLeft_eq, IntKind.wrap_i64]
  unfold wv wrap64
  omega

theorem carried_any (h l : Int) (w : World) (h1 : -2305843009213693952 ≤ h) (h2 : h ≤ 2305843009213693952) (l1 : -9223372036854775808 ≤ l) (l2 : l ≤ 9223372036854775807) :
    Calls Tryd.prog 90 #[.int .i64 h, .int .i64 l] w fun e w' => e = .returned (.agg #[.int .i64 (wh (wv h l)), .int .i64 (wl (wv h l))]) ∧ Below w.heap.size w w' := by
  have D1 := Lib.hid (wh_add h l)
  have D2 := Lib.hid (wl_add h l)
  have D3 := Lib.hid (mask60 l)
  go_enter Tryd.func90, Tryd.ntmps90
  go_wp2
  refine bodyPost_ret (v := .agg #[.int .i64 (wh (wv h l)), .int .i64 (wl (wv h l))]) ?_ rfl ⟨rfl, (Below.refl _ _).alloc (Nat.le_refl _) _⟩
  rw [D1.out, D2.out, ← D3.out]
  simp [results, Tryd.results90, go_sem]

/-- the block of a struct result, behind a call -/
theorem alloc_below {w w1 : World} {o : Obj} (hb : Below (w.alloc o).heap.size (w.alloc o) w1) : Below w.heap.size w w1 :=
  ((Below.refl _ _).alloc (Nat.le_refl _) o).trans (hb.mono (by simp))
theorem new2 {w w1 : World} {x y : Value} {T : Nat} (hb : Below (w.alloc (.cells #[x, y] T)).heap.size (w.alloc (.cells #[x, y] T)) w1) :
    w1.cell? ⟨w.heap.size, 0, none⟩ = some x ∧ w1.cell? ⟨w.heap.size, 1, none⟩ = some y ∧ w1.frozen? ⟨w.heap.size, 0, none⟩ = false ∧ w1.frozen? ⟨w.heap.size, 1, none⟩ = false ∧ w.heap.size < w1.heap.size := by
  have hs := hb.size
  simp at hs
  have c0 := hb.cell (p := ⟨w.heap.size, 0, none⟩) (by show w.heap.size < _; simp)
  have c1 := hb.cell (p := ⟨w.heap.size, 1, none⟩) (by show w.heap.size < _; simp)
  have f0 := hb.frozen (p := ⟨w.heap.size, 0, none⟩) (by show w.heap.size < _; simp)
  have f1 := hb.frozen (p := ⟨w.heap.size, 1, none⟩) (by show w.heap.size < _; simp)
  refine ⟨c0.trans ?_, c1.trans ?_, f0.trans ?_, f1.trans ?_, by omega⟩
  · rw [World.cell?_alloc_new]; rfl
  · rw [World.cell?_alloc_new]; rfl
  · go_simp
  · go_simp

/-- a struct of two fields lies in block b -/
structure At2 (w : World) (b : Nat) (x y : Value) : Prop where
  c0 : w.cell? ⟨b, 0, none⟩ = some x
  c1 : w.cell? ⟨b, 1, none⟩ = some y
  f0 : w.frozen? ⟨b, 0, none⟩ = false
  f1 : w.frozen? ⟨b, 1, none⟩ = false
  lt : b < w.heap.size
theorem At2.of {w w1 : World} {x y : Value} {T : Nat} (hb : Below (w.alloc (.cells #[x, y] T)).heap.size (w.alloc (.cells #[x, y] T)) w1) : At2 w1 w.heap.size x y := by
  obtain ⟨a, b, c, d, e⟩ := new2 hb; exact ⟨a, b, c, d, e⟩
theorem At2.keep {w w1 : World} {b : Nat} {x y : Value} (h : At2 w b x y) (hb : Below w.heap.size w w1) : At2 w1 b x y :=
  ⟨(hb.cell (p := ⟨b, 0, none⟩) h.lt).trans h.c0, (hb.cell (p := ⟨b, 1, none⟩) h.lt).trans h.c1, (hb.frozen (p := ⟨b, 0, none⟩) h.lt).trans h.f0, (hb.frozen (p := ⟨b, 1, none⟩) h.lt).trans h.f1, Nat.lt_of_lt_of_le h.lt hb.size⟩
theorem At2.new (w : World) (x y : Value) (T : Nat) : At2 (w.alloc (.cells #[x, y] T)) w.heap.size x y := At2.of (T := T) (Below.refl _ _)
theorem At2.alloc {w : World} {b : Nat} {x y : Value} (h : At2 w b x y) (o : Obj) : At2 (w.alloc o) b x y := h.keep ((Below.refl _ _).alloc (Nat.le_refl _) o)
theorem At2.three (w : World) (a b c d e f : Value) (T T' T'' : Nat) :
    At2 (((w.alloc (.cells #[a, b] T)).alloc (.cells #[c, d] T')).alloc (.cells #[e, f] T'')) w.heap.size a b ∧
    At2 (((w.alloc (.cells #[a, b] T)).alloc (.cells #[c, d] T')).alloc (.cells #[e, f] T'')) (w.heap.size + 1) c d ∧
    At2 (((w.alloc (.cells #[a, b] T)).alloc (.cells #[c, d] T')).alloc (.cells #[e, f] T'')) (w.heap.size + 1 + 1) e f := by
  have h1 := At2.new (w.alloc (.cells #[a, b] T)) c d T'
  have h2 := At2.new ((w.alloc (.cells #[a, b] T)).alloc (.cells #[c, d] T')) e f T''
  simp at h1 h2
  exact ⟨((At2.new w a b T).alloc _).alloc _, h1.alloc _, h2⟩
theorem At2.two (w : World) (a b c d : Value) (T T' : Nat) :
    At2 ((w.alloc (.cells #[a, b] T)).alloc (.cells #[c, d] T')) w.heap.size a b ∧
    At2 ((w.alloc (.cells #[a, b] T)).alloc (.cells #[c, d] T')) (w.heap.size + 1) c d := by
  have h1 := At2.new (w.alloc (.cells #[a, b] T)) c d T'
  simp at h1
  exact ⟨(At2.new w a b T).alloc _, h1⟩
theorem below1 (w : World) (o : Obj) : Below w.heap.size w (w.alloc o) := (Below.refl _ _).alloc (Nat.le_refl _) o
theorem below2 (w : World) (o o' : Obj) : Below w.heap.size w ((w.alloc o).alloc o') := (below1 w o).alloc (by simp) o'
theorem below3 (w : World) (o o' o'' : Obj) : Below w.heap.size w (((w.alloc o).alloc o').alloc o'') := (below2 w o o').alloc (by simp; omega) o''
theorem bstep {w w1 w2 : World} (h : Below w.heap.size w w1) (h' : Below w1.heap.size w1 w2) : Below w.heap.size w w2 := h.trans (h'.mono h.size)
theorem bdrew {w w2 : World} (h : Below w.drew.heap.size w.drew w2) : Below w.heap.size w w2 := (Below.refl _ _).drew.trans h
theorem below_set2 {w w' : World} {n b : Nat} (h : Below n w w') (hn : n ≤ b) (x y : Value) : Below n w ((w'.setCell ⟨b, 0, none⟩ x).setCell ⟨b, 1, none⟩ y) := (h.setCell hn x).setCell hn y
theorem set2 {w1 : World} {b : Nat} {u v : Value} (c0 : w1.cell? ⟨b, 0, none⟩ = some u) (c1 : w1.cell? ⟨b, 1, none⟩ = some v) (x y : Value) :
    (w1.setCell ⟨b, 0, none⟩ x).cell? ⟨b, 0, none⟩ = some x ∧ ((w1.setCell ⟨b, 0, none⟩ x).setCell ⟨b, 1, none⟩ y).cell? ⟨b, 1, none⟩ = some y := by
  have h1 : (w1.setCell ⟨b, 0, none⟩ x).cell? ⟨b, 1, none⟩ = some v := (World.cell?_setCell_other w1 _ _ x (by simp)).trans c1
  exact ⟨World.cell?_setCell_same w1 _ x c0, World.cell?_setCell_same _ _ y h1⟩

theorem of_any (n : Int) (w : World) (l1 : -9223372036854775808 ≤ n) (l2 : n ≤ 9223372036854775807) :
    Calls Tryd.prog 64 #[.int .i64 n] w fun e w' => e = .returned (.agg #[.int .i64 (wh n), .int .i64 (wl n)]) ∧ Below w.heap.size w w' := by
  have C : Hid (∀ wx, Calls Tryd.prog 90 #[.int .i64 0, .int .i64 n] wx fun e w' => e = .returned (.agg #[.int .i64 (wh n), .int .i64 (wl n)]) ∧ Below wx.heap.size wx w') := by
    intro wx
    have := carried_any 0 n wx (by omega) (by omega) l1 l2
    rw [show wv 0 n = n by unfold wv; omega] at this
    exact this
  obtain ⟨x, hx⟩ : ∃ x, x = wh n := ⟨_, rfl⟩
  obtain ⟨y, hy⟩ : ∃ y, y = wl n := ⟨_, rfl⟩
  rw [← hx, ← hy] at C ⊢
  clear hx hy
  go_enter Tryd.func64, Tryd.ntmps64
  go_wp2_with fail
  refine (C.out _).mono ?_
  rintro e w1 ⟨rfl, hb1⟩
  obtain ⟨c0, c1, f0, f1, hz⟩ := new2 hb1
  have HB := Lib.hid (alloc_below hb1)
  clear hb1
  go_wp2_with fail
  obtain ⟨s0, s1⟩ := set2 c0 c1 (.int .i64 x) (.int .i64 y)
  refine bodyPost_ret (v := .agg #[.int .i64 x, .int .i64 y]) (by simp [results, Tryd.results64, go_sem, s0, s1]) rfl ⟨rfl, ?_⟩
  exact (HB.out.setCell (by simp) _).setCell (by simp) _

end Go.Proofs.YtndcjldnnfhedaaDoor.wd

/- Contracts of wide.fitted, Add, Sub, Int. -/
namespace Go.Proofs.YtndcjldnnfhedaaDoor.wd
open Go.RowKit
set_option linter.unusedVariables false

/-- what fitted returns: the parts of a number that fits, or ErrBig -/
def fitE (n : Int) : Int := if wfit n = true then 0 else 5
def fitH (n : Int) : Int := if wfit n = true then wh n else 0
def fitL (n : Int) : Int := if wfit n = true then wl n else 0

theorem valid_is (h l : Int) (b : Bool) (hk : wok h l = b) (w : World) : Calls Tryd.prog 87 #[.agg #[.int .i64 h, .int .i64 l]] w fun e w' => e = .returned (.bool b) ∧ Below w.heap.size w w' := by
  have := valid_any h l w; rw [hk] at this; exact this

end Go.Proofs.YtndcjldnnfhedaaDoor.wd

/- Contract of wide.Product. -/
namespace Go.Proofs.YtndcjldnnfhedaaDoor.wd
open Go.RowKit
set_option linter.unusedVariables false

theorem or_parts (P : Nat) (h : P / 18446744073709551616 ≤ 72057594037927936) :
    bits .or .u64 ((P : Int) / 18446744073709551616 * 16) ((P : Int) % 18446744073709551616 / 1152921504606846976) = (P : Int) / 1152921504606846976 := by
  have e1 : (P : Int) / 18446744073709551616 * 16 = ((P / 18446744073709551616 * 16 : Nat) : Int) := by omega
  have e2 : (P : Int) % 18446744073709551616 / 1152921504606846976 = ((P % 18446744073709551616 / 1152921504606846976 : Nat) : Int) := by omega
  rw [e1, e2, bits_or_u64_nat _ _ (by omega) (by omega)]
  have e3 : P / 18446744073709551616 * 16 = (P / 18446744073709551616) <<< 4 := by rw [Nat.shiftLeft_eq]
  rw [e3, ← Nat.shiftLeft_add_eq_or_of_lt (by omega), Nat.shiftLeft_eq]
  omega

theorem prod_sign (a b : Int) : a * b = if (a < 0) ≠ (b < 0) then -((a.natAbs * b.natAbs : Nat) : Int) else ((a.natAbs * b.natAbs : Nat) : Int) := by
  rw [Int.natCast_mul]
  by_cases h1 : a < 0 <;> by_cases h2 : b < 0
  · rw [if_neg (by simp [h1, h2]), Int.ofNat_natAbs_of_nonpos (by omega), Int.ofNat_natAbs_of_nonpos (by omega), Int.neg_mul_neg]
  · rw [if_pos (by simp [h1, h2]), Int.ofNat_natAbs_of_nonpos (by omega), Int.natAbs_of_nonneg (by omega), Int.neg_mul, Int.neg_neg]
  · rw [if_pos (by simp [h1, h2]), Int.natAbs_of_nonneg (by omega), Int.ofNat_natAbs_of_nonpos (by omega), Int.mul_neg, Int.neg_neg]
  · rw [if_neg (by simp [h1, h2]), Int.natAbs_of_nonneg (by omega), Int.natAbs_of_nonneg (by omega)]

theorem fit_big (P : Nat) (n : Int) (hn : n = -(P : Int) ∨ n = (P : Int)) (h : ¬ P / 18446744073709551616 ≤ 72057594037927936) : wfit n = false := by
  rw [wfit_not]; unfold wh; omega

/-- what Product needs -/
def productMark : Unit := ()
end Go.Proofs.YtndcjldnnfhedaaDoor.wd

/- Contract of wide.halves, and the run of math/bits.Sub64. -/
namespace Go.Proofs.YtndcjldnnfhedaaDoor.wd
open Go.RowKit
set_option linter.unusedVariables false

theorem sub64_run (x y b : Nat) (hb : b ≤ 1) (w : World) :
    (callFunc 108 #[.int .u64 x, .int .u64 y, .int .u64 b]).run Tryd.prog w =
      .ok (.value (.tuple #[.int .u64 (((x + 18446744073709551616 - y - b) % 18446744073709551616 : Nat) : Int), .int .u64 ((if x < y + b then 1 else 0 : Nat) : Int)])) w := by
  rw [run_callFunc_extern Tryd.func108 (by kernel_rfl) (by kernel_rfl) (by kernel_rfl) (e := sub64Entry) (by kernel_rfl), run_sub64 x y b hb]
  rfl

theorem or_low (h l : Int) (h0 : 0 ≤ l) (h1 : l < 1152921504606846976) :
    bits .or .u64 (IntKind.u64.wrap (IntKind.u64.wrap h * 1152921504606846976)) l = wv h l % 18446744073709551616 := by
  have e1 : (BitVec.ofInt 64 (IntKind.u64.wrap (IntKind.u64.wrap h * 1152921504606846976))).toNat = (h % 16).toNat <<< 60 := by
    rw [BitVec.toNat_ofInt, IntKind.wrap_u64, IntKind.wrap_u64, Nat.shiftLeft_eq]; omega
  have e2 : (BitVec.ofInt 64 l).toNat = l.toNat := by rw [BitVec.toNat_ofInt]; omega
  show IntKind.u64.wrap ((BitVec.ofInt 64 (IntKind.u64.wrap (IntKind.u64.wrap h * 1152921504606846976)) ||| BitVec.ofInt 64 l).toNat : Int) = _
  rw [BitVec.toNat_or, e1, e2, ← Nat.shiftLeft_add_eq_or_of_lt (by omega), Nat.shiftLeft_eq, IntKind.wrap_u64]
  unfold wv
  omega

theorem or_low_pos (h l : Int) (hs : 0 ≤ h) (h2 : h < 1152921504606846976) (h0 : 0 ≤ l) (h1 : l < 1152921504606846976) :
    bits .or .u64 (IntKind.u64.wrap (h * 1152921504606846976)) l = wv h l % 18446744073709551616 := by
  have := or_low h l h0 h1
  rw [show IntKind.u64.wrap h = h from IntWalk.u64_in h (by omega)] at this
  exact this

set_option maxHeartbeats 400000 in
theorem halves_pos (h l : Int) (w : World) (hk : wok h l = true) (hs : 0 ≤ h) :
    Calls Tryd.prog 89 #[.agg #[.int .i64 h, .int .i64 l]] w fun e w' => e = .returned (.tuple #[.int .u64 (((wv h l).natAbs / 18446744073709551616 : Nat) : Int), .int .u64 (((wv h l).natAbs % 18446744073709551616 : Nat) : Int)]) ∧ Below w.heap.size w w' := by
  obtain ⟨k1, k2, k3, k4⟩ := (wok_iff _ _).1 hk
  have hor := or_low_pos h l hs k2 k3 k4
  obtain ⟨x, hx⟩ : ∃ x, x = wv h l % 18446744073709551616 := ⟨_, rfl⟩
  rw [← hx] at hor
  have e1 : (((wv h l).natAbs / 18446744073709551616 : Nat) : Int) = h / 16 := by unfold wv; omega
  have e2 : (((wv h l).natAbs % 18446744073709551616 : Nat) : Int) = x := by rw [hx]; unfold wv; omega
  rw [e1, e2]
  clear e1 e2 hx hk
  go_enter Tryd.func89, Tryd.ntmps89
  go_wp2_with fail
  go_quiet (fail)
  go_wp2_with fail
  go_ret2
  exact ⟨rfl, below_drewN (below1 w _) _⟩

set_option maxHeartbeats 400000 in
theorem halves_neg (h l : Int) (w : World) (hk : wok h l = true) (hs : h < 0) :
    Calls Tryd.prog 89 #[.agg #[.int .i64 h, .int .i64 l]] w fun e w' => e = .returned (.tuple #[.int .u64 (((wv h l).natAbs / 18446744073709551616 : Nat) : Int), .int .u64 (((wv h l).natAbs % 18446744073709551616 : Nat) : Int)]) ∧ Below w.heap.size w w' := by
  obtain ⟨k1, k2, k3, k4⟩ := (wok_iff _ _).1 hk
  have hor := or_low h l k3 k4
  obtain ⟨x, hx⟩ : ∃ x : Nat, (x : Int) = wv h l % 18446744073709551616 := ⟨(wv h l % 18446744073709551616).toNat, by omega⟩
  rw [← hx] at hor
  obtain ⟨y, hy⟩ : ∃ y : Nat, IntKind.u64.wrap (h / 16) = (y : Int) := ⟨(IntKind.u64.wrap (h / 16)).toNat, by rw [IntKind.wrap_u64]; omega⟩
  have hy2 : (y : Int) = h / 16 + 18446744073709551616 := by rw [← hy, IntKind.wrap_u64]; omega
  obtain ⟨b, hb⟩ : ∃ b : Nat, b = if 0 < x + 0 then 1 else 0 := ⟨_, rfl⟩
  have hb1 : b ≤ 1 := by rw [hb]; split <;> omega
  have S1 := fun wx => sub64_run 0 x 0 (by omega) wx
  have S2 := fun wx => sub64_run 0 y b hb1 wx
  rw [← hb] at S1
  obtain ⟨x', hx'⟩ : ∃ x' : Nat, x' = (0 + 18446744073709551616 - x - 0) % 18446744073709551616 := ⟨_, rfl⟩
  obtain ⟨y', hy'⟩ : ∃ y' : Nat, y' = (0 + 18446744073709551616 - y - b) % 18446744073709551616 := ⟨_, rfl⟩
  obtain ⟨c', hc'⟩ : ∃ c' : Nat, c' = if 0 < y + b then 1 else 0 := ⟨_, rfl⟩
  rw [← hx'] at S1
  rw [← hy', ← hc'] at S2
  have e1 : (wv h l).natAbs / 18446744073709551616 = y' := by
    rw [hy', hb]; unfold wv at hx ⊢; split <;> omega
  have e2 : (wv h l).natAbs % 18446744073709551616 = x' := by
    rw [hx']; unfold wv at hx ⊢; omega
  rw [e1, e2]
  simp only [Int.cast_ofNat_Int] at S1 S2
  clear e1 e2 hx hx' hy' hc' hy2 hb hb1 hk
  go_enter Tryd.func89, Tryd.ntmps89
  go_wp2_with fail
  go_quiet (fail)
  go_wp2_with fail
  go_ret2
  exact ⟨rfl, below_drewN (below1 w _) _⟩

theorem halves_any (h l : Int) (w : World) (hk : wok h l = true) :
    Calls Tryd.prog 89 #[.agg #[.int .i64 h, .int .i64 l]] w fun e w' => e = .returned (.tuple #[.int .u64 (((wv h l).natAbs / 18446744073709551616 : Nat) : Int), .int .u64 (((wv h l).natAbs % 18446744073709551616 : Nat) : Int)]) ∧ Below w.heap.size w w' := by
  by_cases hs : h < 0
  · exact halves_neg h l w hk hs
  · exact halves_pos h l w hk (by omega)
end Go.Proofs.YtndcjldnnfhedaaDoor.wd

/- Contract of math/bits.Div64: the quotient and the remainder of a number of 128 bits. -/
namespace Go.Proofs.YtndcjldnnfhedaaDoor.wd
open Go.RowKit
set_option linter.unusedVariables false

set_option maxHeartbeats 400000 in
theorem div64_small (lo y : Nat) (w : World) (hlo : lo < 18446744073709551616) (hy : y < 18446744073709551616) (h0 : 0 < y) :
    Calls Tryd.prog 62 #[.int .u64 0, .int .u64 (lo : Int), .int .u64 (y : Int)] w fun e w' => e = .returned (.tuple #[.int .u64 ((lo / y : Nat) : Int), .int .u64 ((lo % y : Nat) : Int)]) ∧ Below w.heap.size w w' := by
  have t1 : ((y : Int) == 0) = false := by rw [beq_eq_false_iff_ne]; omega
  have t2 : ¬ (y : Int) = 0 := by omega
  have t3 : ¬ (y : Int) ≤ 0 := by omega
  have b1 : (0 : Int) < (y : Int) := by omega
  have w1 : IntKind.u64.wrap ((lo : Int) / (y : Int)) = (lo : Int) / (y : Int) := by
    rw [← Int.natCast_ediv]
    have := Nat.div_le_self lo y
    generalize lo / y = z at *
    exact IntWalk.u64_in _ (by omega)
  have e1 := Int.natCast_ediv lo y
  have e2 := Int.natCast_emod lo y
  rw [e1, e2]
  clear e1 e2
  go_enter Tryd.func62, Tryd.ntmps62
  go_wp2_with fail
  go_quiet (fail)
  go_wp2_with fail
  go_ret2
  exact ⟨rfl, below_drewN (Below.refl _ _) _⟩

/-- what the walk of Div64 needs: the parts of the shifted divisor and dividend, the digits and the rests -/
structure DvN (hi lo y s Y A B U D D1 D0 Q1 R1 Q0 R0 : Nat) : Prop where
  hA1 : 2147483648 ≤ A
  hA2 : A < 4294967296
  hB : B < 4294967296
  hU : U < A * 4294967296 + B
  hR : R1 < A * 4294967296 + B
  hD1 : D1 < 4294967296
  hD0 : D0 < 4294967296
  hQ1 : Q1 = (U * 4294967296 + D1) / (A * 4294967296 + B)
  hQ0 : Q0 = (R1 * 4294967296 + D0) / (A * 4294967296 + B)
  F1 : IntKind.u64.wrap ((y : Int) * 2 ^ s) = (Y : Int)
  F2 : (Y : Int) / 4294967296 = (A : Int)
  F3 : bits .and .u64 (Y : Int) 4294967295 = (B : Int)
  F4 : bits .or .u64 (IntKind.u64.wrap ((hi : Int) * 2 ^ s)) ((lo : Int) / 2 ^ (64 - s)) = (U : Int)
  F5 : IntKind.u64.wrap ((lo : Int) * 2 ^ s) = (D : Int)
  F6 : (D : Int) / 4294967296 = (D1 : Int)
  F7 : bits .and .u64 (D : Int) 4294967295 = (D0 : Int)
  F8 : IntKind.u64.wrap (IntKind.u64.wrap (IntKind.u64.wrap ((U : Int) * 4294967296) + (D1 : Int)) - IntKind.u64.wrap ((Q1 : Int) * (Y : Int))) = (R1 : Int)
  F9 : IntKind.u64.wrap (IntKind.u64.wrap (IntKind.u64.wrap ((R1 : Int) * 4294967296) + (D0 : Int)) - IntKind.u64.wrap ((Q0 : Int) * (Y : Int))) = (R0 : Int)
  G1 : Q1 * 4294967296 + Q0 = (hi * 18446744073709551616 + lo) / y
  G0 : ((R0 : Int) / 2 ^ s) = (((hi * 18446744073709551616 + lo) % y : Nat) : Int)

set_option maxRecDepth 100000 in
set_option maxHeartbeats 4000000 in
theorem div64_big (hi lo y s Y A B U D D1 D0 Q1 R1 Q0 R0 : Nat) (w : World) (hlo : (lo : Int) < 18446744073709551616) (hy : (y : Int) < 18446744073709551616) (h0 : (0 : Int) < (hi : Int)) (hh : (hi : Int) < (y : Int)) (hs : (s : Int) ≤ 63)
    (N : DvN hi lo y s Y A B U D D1 D0 Q1 R1 Q0 R0)
    (CL : ∀ wx, Calls Tryd.prog 86 #[.int .u64 (y : Int)] wx fun e w' => e = .returned (.int .i64 (s : Int)) ∧ wx = w') :
    Calls Tryd.prog 62 #[.int .u64 (hi : Int), .int .u64 (lo : Int), .int .u64 (y : Int)] w fun e w' => e = .returned (.tuple #[.int .u64 (((hi * 18446744073709551616 + lo) / y : Nat) : Int), .int .u64 (((hi * 18446744073709551616 + lo) % y : Nat) : Int)]) ∧ Below w.heap.size w w' := by
  have t1 : ((y : Int) == 0) = false := by rw [beq_eq_false_iff_ne]; omega
  have t4 : ((hi : Int) == 0) = false := by rw [beq_eq_false_iff_ne]; omega
  have t2 : ¬ (y : Int) = 0 := by omega
  have t3 : ¬ (y : Int) ≤ (hi : Int) := by omega
  have b1 : (0 : Int) < (y : Int) := by omega
  have hA2 : (A : Int) < 4294967296 := by have := N.hA2; omega
  have hB2 : (B : Int) < 4294967296 := by have := N.hB; omega
  have hD1 : (D1 : Int) < 4294967296 := by have := N.hD1; omega
  have hD0 : (D0 : Int) < 4294967296 := by have := N.hD0; omega
  have b3 : (2147483648 : Int) ≤ (A : Int) := by have := N.hA1; omega
  have b2 : ¬ (A : Int) = 0 := by omega
  have F1 := N.F1
  have F2 := N.F2
  have F3 := N.F3
  have F4 := N.F4
  have F5 := N.F5
  have F6 := N.F6
  have F7 := N.F7
  have S1 := dg_start U A B D1 N.hA1 N.hB N.hD1 N.hU
  obtain ⟨q, hq⟩ : ∃ q, q = U / A := ⟨_, rfl⟩
  have f1 : (U : Int).tdiv (A : Int) = (q : Int) := by rw [hq]; rfl
  have f2 : (U : Int) / (A : Int) = (q : Int) := by rw [hq]; rfl
  obtain ⟨r, hr⟩ : ∃ r, r = U - q * A := ⟨_, rfl⟩
  have f5 : (U : Int) < 18446744073709551616 := by have := N.hU; have := N.hA2; have := N.hB; omega
  have f6 : q * A ≤ U := by rw [hq]; exact Nat.div_mul_le_self U A
  have f7 : r < A := by
    have h5 := Nat.div_add_mod U A; have h6 := Nat.mod_lt U (show 0 < A by have := N.hA1; omega); rw [Nat.mul_comm, ← hq] at h5; omega
  have f3 : (q : Int) * (A : Int) = ((q * A : Nat) : Int) := rfl
  rw [← hq, ← hr] at S1
  have f8 : (q : Int) ≤ 4294967297 := by have := S1.le; omega
  have f4 : IntKind.u64.wrap ((U : Int) - IntKind.u64.wrap ((q : Int) * (A : Int))) = (r : Int) := by
    rw [f3, IntKind.wrap_u64, IntKind.wrap_u64, hr]; omega
  have f9 : (r : Int) < 4294967296 := by have := N.hA2; omega
  have HS1 := Lib.hid S1
  clear S1 hr f3 f6 hq f7
  have S2 := dg_start R1 A B D0 N.hA1 N.hB N.hD0 N.hR
  obtain ⟨q', hq'⟩ : ∃ q', q' = R1 / A := ⟨_, rfl⟩
  have g1 : (R1 : Int).tdiv (A : Int) = (q' : Int) := by rw [hq']; rfl
  have g2 : (R1 : Int) / (A : Int) = (q' : Int) := by rw [hq']; rfl
  obtain ⟨r', hr'⟩ : ∃ r', r' = R1 - q' * A := ⟨_, rfl⟩
  have g5 : (R1 : Int) < 18446744073709551616 := by have := N.hR; have := N.hA2; have := N.hB; omega
  have g6 : q' * A ≤ R1 := by rw [hq']; exact Nat.div_mul_le_self R1 A
  have g7 : r' < A := by
    have h5 := Nat.div_add_mod R1 A; have h6 := Nat.mod_lt R1 (show 0 < A by have := N.hA1; omega); rw [Nat.mul_comm, ← hq'] at h5; omega
  have g3 : (q' : Int) * (A : Int) = ((q' * A : Nat) : Int) := rfl
  rw [← hq', ← hr'] at S2
  have g8 : (q' : Int) ≤ 4294967297 := by have := S2.le; omega
  have g4 : IntKind.u64.wrap ((R1 : Int) - IntKind.u64.wrap ((q' : Int) * (A : Int))) = (r' : Int) := by
    rw [g3, IntKind.wrap_u64, IntKind.wrap_u64, hr']; omega
  have g9 : (r' : Int) < 4294967296 := by have := N.hA2; omega
  have HS2 := Lib.hid S2
  clear S2 hr' g3 g6 hq' g7
  have F8 := N.F8
  have F9 := N.F9
  have b4 : (Q1 : Int) < 4294967296 := by have := dg_lt U A B D1 N.hD1 N.hU; rw [← N.hQ1] at this; omega
  have b5 : (Q0 : Int) < 4294967296 := by have := dg_lt R1 A B D0 N.hD0 N.hR; rw [← N.hQ0] at this; omega
  have G1 : Hid (((hi * 18446744073709551616 + lo) / y : Nat) = (Q1 * 4294967296 + Q0 : Nat)) := by show _ = _; exact N.G1.symm
  have G0 : Hid ((((hi * 18446744073709551616 + lo) % y : Nat) : Int) = (R0 : Int) / 2 ^ s) := by show _ = _; exact N.G0.symm
  rw [G1.out, G0.out]
  clear G1 G0
  have NN := Lib.hid N
  have HC := Lib.hid CL
  clear CL N
  go_enter Tryd.func62, Tryd.ntmps62
  go_wp2_with fail
  refine (HC.out _).mono ?_
  rintro e w' ⟨rfl, rfl⟩
  go_upto_block 0 with fail
  go_cut [15] (fun s15 wx => s15 = .int .u64 (Q1 : Int) ∧ wx = w)
  case first =>
    go_wp2_with fail
    go_loop [15, 16] (fun a b => ∃ q r : Nat, a = .int .u64 (q : Int) ∧ b = .int .u64 (r : Int) ∧ (r : Int) < 4294967296 ∧ Hid (Dg U A B D1 q r)) (fun a _ => (intOf a).toNat)
    case atStart => exact ⟨_, _, rfl, rfl, by omega, HS1⟩
    case round =>
      obtain ⟨k, j, rfl, rfl, hr', HD⟩ := hrel
      have hle : (k : Int) ≤ 4294967297 := by have := HD.out.le; omega
      by_cases c1 : (4294967296 : Int) ≤ (k : Int)
      · have hm := Lib.hid (dg_more HD.out (by omega) NN.out.hD1 NN.out.hU (.inl (by omega)))
        obtain ⟨p, hp⟩ : ∃ p, p = k - 1 := ⟨_, rfl⟩
        have HD' : Hid (Dg U A B D1 p (j + A)) := by rw [hp]; exact hm.out.2
        have hkp : (k : Int) - 1 = (p : Int) := by have := hm.out.1; omega
        have hp1 : (1 : Int) ≤ (k : Int) := by omega
        clear hm hp
        by_cases c3 : (4294967296 : Int) ≤ (j : Int) + (A : Int)
        · have HQ : Hid (p = Q1) := (dg_break HD'.out (by omega) NN.out.hB (by omega) (by omega)).trans NN.out.hQ1.symm
          go_wp2_with fail
          go_meet
          exact ⟨by rw [HQ.out], rfl⟩
        · go_wp2_with fail
          go_round
          case rel => exact ⟨p, j + A, by go_num, by go_num, by omega, HD'⟩
          case measure => simp [intOf]; omega
      · obtain ⟨m, hm⟩ : ∃ m : Nat, m = k * B := ⟨_, rfl⟩
        have hmi : (k : Int) * (B : Int) = (m : Int) := by rw [hm]; rfl
        have hm2 : (m : Int) < 18446744073709551616 := by
          have : k * B ≤ 4294967295 * 4294967295 := Nat.mul_le_mul (by omega) (by have := NN.out.hB; omega)
          omega
        have HM := Lib.hid hm
        clear hm
        by_cases c2 : 4294967296 * (j : Int) + (D1 : Int) < (m : Int)
        · have hmm := Lib.hid (dg_more HD.out (by omega) NN.out.hD1 NN.out.hU (.inr (by rw [← HM.out]; omega)))
          obtain ⟨p, hp⟩ : ∃ p, p = k - 1 := ⟨_, rfl⟩
          have HD' : Hid (Dg U A B D1 p (j + A)) := by rw [hp]; exact hmm.out.2
          have hkp : (k : Int) - 1 = (p : Int) := by have := hmm.out.1; omega
          have hp1 : (1 : Int) ≤ (k : Int) := by have := hmm.out.1; omega
          clear hmm hp
          by_cases c3 : (4294967296 : Int) ≤ (j : Int) + (A : Int)
          · have HQ : Hid (p = Q1) := (dg_break HD'.out (by omega) NN.out.hB (by omega) (by omega)).trans NN.out.hQ1.symm
            go_wp2_with fail
            go_meet
            exact ⟨by rw [HQ.out], rfl⟩
          · go_wp2_with fail
            go_round
            case rel => exact ⟨p, j + A, by go_num, by go_num, by omega, HD'⟩
            case measure => simp [intOf]; omega
        · have HQ : Hid (k = Q1) := (dg_stop HD.out (by omega) (by rw [← HM.out]; omega)).trans NN.out.hQ1.symm
          go_wp2_with fail
          go_meet
          exact ⟨by rw [HQ.out], rfl⟩
  case rest =>
    obtain ⟨rfl, rfl⟩ := hcut
    go_upto_block 2 with fail
    go_cut [18] (fun s18 wx => s18 = .int .u64 (Q0 : Int) ∧ wx = wc)
    case first =>
      go_wp2_with fail
      go_loop [18, 16] (fun a b => ∃ q r : Nat, a = .int .u64 (q : Int) ∧ b = .int .u64 (r : Int) ∧ (r : Int) < 4294967296 ∧ Hid (Dg R1 A B D0 q r)) (fun a _ => (intOf a).toNat)
      case atStart => exact ⟨_, _, rfl, rfl, by omega, HS2⟩
      case round =>
        obtain ⟨k, j, rfl, rfl, hr', HD⟩ := hrel
        have hle : (k : Int) ≤ 4294967297 := by have := HD.out.le; omega
        by_cases c1 : (4294967296 : Int) ≤ (k : Int)
        · have hm := Lib.hid (dg_more HD.out (by omega) NN.out.hD0 NN.out.hR (.inl (by omega)))
          obtain ⟨p, hp⟩ : ∃ p, p = k - 1 := ⟨_, rfl⟩
          have HD' : Hid (Dg R1 A B D0 p (j + A)) := by rw [hp]; exact hm.out.2
          have hkp : (k : Int) - 1 = (p : Int) := by have := hm.out.1; omega
          have hp1 : (1 : Int) ≤ (k : Int) := by omega
          clear hm hp
          by_cases c3 : (4294967296 : Int) ≤ (j : Int) + (A : Int)
          · have HQ : Hid (p = Q0) := (dg_break HD'.out (by omega) NN.out.hB (by omega) (by omega)).trans NN.out.hQ0.symm
            go_wp2_with fail
            go_meet
            exact ⟨by rw [HQ.out], rfl⟩
          · go_wp2_with fail
            go_round
            case rel => exact ⟨p, j + A, by go_num, by go_num, by omega, HD'⟩
            case measure => simp [intOf]; omega
        · obtain ⟨m, hm⟩ : ∃ m : Nat, m = k * B := ⟨_, rfl⟩
          have hmi : (k : Int) * (B : Int) = (m : Int) := by rw [hm]; rfl
          have hm2 : (m : Int) < 18446744073709551616 := by
            have : k * B ≤ 4294967295 * 4294967295 := Nat.mul_le_mul (by omega) (by have := NN.out.hB; omega)
            omega
          have HM := Lib.hid hm
          clear hm
          by_cases c2 : 4294967296 * (j : Int) + (D0 : Int) < (m : Int)
          · have hmm := Lib.hid (dg_more HD.out (by omega) NN.out.hD0 NN.out.hR (.inr (by rw [← HM.out]; omega)))
            obtain ⟨p, hp⟩ : ∃ p, p = k - 1 := ⟨_, rfl⟩
            have HD' : Hid (Dg R1 A B D0 p (j + A)) := by rw [hp]; exact hmm.out.2
            have hkp : (k : Int) - 1 = (p : Int) := by have := hmm.out.1; omega
            have hp1 : (1 : Int) ≤ (k : Int) := by have := hmm.out.1; omega
            clear hmm hp
            by_cases c3 : (4294967296 : Int) ≤ (j : Int) + (A : Int)
            · have HQ : Hid (p = Q0) := (dg_break HD'.out (by omega) NN.out.hB (by omega) (by omega)).trans NN.out.hQ0.symm
              go_wp2_with fail
              go_meet
              exact ⟨by rw [HQ.out], rfl⟩
            · go_wp2_with fail
              go_round
              case rel => exact ⟨p, j + A, by go_num, by go_num, by omega, HD'⟩
              case measure => simp [intOf]; omega
          · have HQ : Hid (k = Q0) := (dg_stop HD.out (by omega) (by rw [← HM.out]; omega)).trans NN.out.hQ0.symm
            go_wp2_with fail
            go_meet
            exact ⟨by rw [HQ.out], rfl⟩
    case rest =>
      obtain ⟨rfl, rfl⟩ := hcut
      go_wp2_with fail
      go_ret2
      exact ⟨by rw [Int.natCast_add, Int.natCast_mul]; rfl, Below.refl _ _⟩

theorem dvm (N Y : Nat) (h : 0 < Y) : ∃ Q R, Q = N / Y ∧ R = N % Y ∧ R < Y ∧ Q * Y + R = N :=
  ⟨N / Y, N % Y, rfl, rfl, Nat.mod_lt _ h, by rw [Nat.mul_comm]; exact Nat.div_add_mod N Y⟩
theorem div64_nums (hi lo y s : Nat) (hlo : lo < 18446744073709551616) (hy : y < 18446744073709551616) (hh : hi < y) (hs : s ≤ 63) (hY1 : 9223372036854775808 ≤ y * 2 ^ s) (hY2 : y * 2 ^ s < 18446744073709551616) :
    ∃ Y A B U D D1 D0 Q1 R1 Q0 R0, DvN hi lo y s Y A B U D D1 D0 Q1 R1 Q0 R0 := by
  have hp : 0 < 2 ^ s := Nat.pow_pos (by omega)
  obtain ⟨Y, hY⟩ : ∃ Y, Y = y * 2 ^ s := ⟨_, rfl⟩
  rw [← hY] at hY1 hY2
  obtain ⟨hsh, hsl⟩ := shift_high hi lo s hs hlo
  obtain ⟨U, hU⟩ : ∃ U, U = hi * 2 ^ s + lo / 2 ^ (64 - s) := ⟨_, rfl⟩
  obtain ⟨D, hD⟩ : ∃ D, D = lo * 2 ^ s % 18446744073709551616 := ⟨_, rfl⟩
  rw [← hU, ← hD] at hsh
  have hUY : U < Y := by
    have h1 : hi * 2 ^ s + 2 ^ s ≤ Y := by rw [hY]; have : (hi + 1) * 2 ^ s ≤ y * 2 ^ s := Nat.mul_le_mul_right _ hh; rw [Nat.add_mul, Nat.one_mul] at this; exact this
    omega
  have hU1 : hi * 2 ^ s ≤ U := by rw [hU]; exact Nat.le_add_right _ _
  have hU3 : lo / 2 ^ (64 - s) ≤ U := by rw [hU]; exact Nat.le_add_left _ _
  have hYp : Y / 4294967296 * 4294967296 + Y % 4294967296 = Y := Nat.div_add_mod' Y 4294967296
  have hDp : D / 4294967296 * 4294967296 + D % 4294967296 = D := Nat.div_add_mod' D 4294967296
  have hDl : D < 18446744073709551616 := by rw [hD]; exact Nat.mod_lt _ (by omega)
  have hy0 : 0 < Y := by omega
  obtain ⟨Q1, R1, hQ1, hR1, hR1l, r1⟩ := dvm (U * 4294967296 + D / 4294967296) Y hy0
  obtain ⟨Q0, R0, hQ0, hR0, hR0l, r0⟩ := dvm (R1 * 4294967296 + D % 4294967296) Y hy0
  have td := two_digits U (D / 4294967296) (D % 4294967296) Y hy0
  rw [← hQ1, ← hR1, ← hQ0, ← hR0] at td
  have hN : (U * 4294967296 + D / 4294967296) * 4294967296 + D % 4294967296 = (hi * 18446744073709551616 + lo) * 2 ^ s := by
    rw [hsh, Nat.add_mul, Nat.mul_assoc, Nat.add_assoc, hDp]
  have td1 := td.1
  have td2 := td.2
  clear td
  rw [hN, hY] at td1 td2
  have sh := shifted (hi * 18446744073709551616 + lo) y (2 ^ s) hp
  have hand : ∀ a : Nat, a < 18446744073709551616 → bits .and .u64 (a : Int) 4294967295 = ((a % 4294967296 : Nat) : Int) := Mul64.maskN
  refine ⟨Y, Y / 4294967296, Y % 4294967296, U, D, D / 4294967296, D % 4294967296, Q1, R1, Q0, R0, ?_⟩
  refine { hA1 := by omega, hA2 := by omega, hB := by omega, hU := by omega, hR := by omega, hD1 := by omega, hD0 := by omega, hQ1 := by rw [hYp]; exact hQ1, hQ0 := by rw [hYp]; exact hQ0, F1 := ?_, F2 := by omega, F3 := hand Y hY2, F4 := ?_, F5 := ?_, F6 := by omega, F7 := hand D hDl, F8 := ?_, F9 := ?_, G1 := ?_, G0 := ?_ }
  · have e : (y : Int) * 2 ^ s = (Y : Int) := by rw [hY, Int.natCast_mul, Int.natCast_pow]; rfl
    rw [e, IntKind.wrap_u64]; omega
  · have e : (hi : Int) * 2 ^ s = ((hi * 2 ^ s : Nat) : Int) := by rw [Int.natCast_mul, Int.natCast_pow]; rfl
    have e2 : (lo : Int) / 2 ^ (64 - s) = ((lo / 2 ^ (64 - s) : Nat) : Int) := by rw [Int.natCast_ediv, Int.natCast_pow]; rfl
    have l1 : hi * 2 ^ s < 18446744073709551616 := by omega
    have l2 : lo / 2 ^ (64 - s) < 18446744073709551616 := Nat.lt_of_le_of_lt hU3 (by omega)
    have e3 : IntKind.u64.wrap ((hi * 2 ^ s : Nat) : Int) = ((hi * 2 ^ s : Nat) : Int) := by
      generalize hi * 2 ^ s = z at *
      rw [IntKind.wrap_u64]; omega
    rw [e, e2, e3, bits_or_u64_nat _ _ l1 l2]
    have e4 : hi * 2 ^ s = hi <<< s := (Nat.shiftLeft_eq hi s).symm
    rw [e4, ← Nat.shiftLeft_add_eq_or_of_lt hsl, Nat.shiftLeft_eq, hU]
  · have e : (lo : Int) * 2 ^ s = ((lo * 2 ^ s : Nat) : Int) := by rw [Int.natCast_mul, Int.natCast_pow]; rfl
    rw [e, IntKind.wrap_u64, hD]; omega
  · have e : (Q1 : Int) * (Y : Int) = ((Q1 * Y : Nat) : Int) := rfl
    rw [e]; simp only [IntKind.wrap_u64]; omega
  · have e : (Q0 : Int) * (Y : Int) = ((Q0 * Y : Nat) : Int) := rfl
    rw [e]; simp only [IntKind.wrap_u64]; omega
  · rw [td1, sh.1]
  · have e : (R0 : Int) / 2 ^ s = ((R0 / 2 ^ s : Nat) : Int) := by rw [Int.natCast_ediv, Int.natCast_pow]; rfl
    rw [e, td2, sh.2]

theorem div64_any (hi lo y : Nat) (w : World) (hlo : lo < 18446744073709551616) (hy : y < 18446744073709551616) (hh : hi < y) :
    Calls Tryd.prog 62 #[.int .u64 (hi : Int), .int .u64 (lo : Int), .int .u64 (y : Int)] w fun e w' => e = .returned (.tuple #[.int .u64 (((hi * 18446744073709551616 + lo) / y : Nat) : Int), .int .u64 (((hi * 18446744073709551616 + lo) % y : Nat) : Int)]) ∧ Below w.heap.size w w' := by
  by_cases h0 : hi = 0
  · subst h0
    have := div64_small lo y w hlo hy (by omega)
    rw [Nat.zero_mul, Nat.zero_add]
    exact this
  · have hb := Lib.bitLenAux_bounds 64 y hy (by omega)
    obtain ⟨L, hL⟩ : ∃ L, L = Lib.bitLen y := ⟨_, rfl⟩
    have hb' : 1 ≤ L ∧ 2 ^ (L - 1) ≤ y ∧ y < 2 ^ L := by rw [hL]; exact hb
    have hL64 : L ≤ 64 := by rw [hL]; exact Lib.bitLen_le y 64 (by omega) (by omega)
    have hY1 : 9223372036854775808 ≤ y * 2 ^ (64 - L) := by
      have h1 : 2 ^ (L - 1) * 2 ^ (64 - L) ≤ y * 2 ^ (64 - L) := Nat.mul_le_mul_right _ hb'.2.1
      rw [← Nat.pow_add, show L - 1 + (64 - L) = 63 by omega] at h1
      exact h1
    have hY2 : y * 2 ^ (64 - L) < 18446744073709551616 := by
      have h1 : y * 2 ^ (64 - L) < 2 ^ L * 2 ^ (64 - L) := Nat.mul_lt_mul_of_pos_right hb'.2.2 (Nat.pow_pos (by omega))
      rw [← Nat.pow_add, show L + (64 - L) = 64 by omega] at h1
      exact h1
    obtain ⟨Y, A, B, U, D, D1, D0, Q1, R1, Q0, R0, N⟩ := div64_nums hi lo y (64 - L) hlo hy hh (by omega) hY1 hY2
    refine div64_big hi lo y (64 - L) Y A B U D D1 D0 Q1 R1 Q0 R0 w (by omega) (by omega) (by omega) (by omega) (by omega) N ?_
    intro wx
    refine (Tryd.bits_LeadingZeros64 (y : Int) wx (by omega) (by omega)).mono ?_
    rintro e w' ⟨rfl, rfl⟩
    refine ⟨?_, rfl⟩
    rw [show ((y : Int)).toNat = y from rfl, ← hL, show ((64 - L : Nat) : Int) = 64 - (L : Int) by omega]
end Go.Proofs.YtndcjldnnfhedaaDoor.wd

/- Contract of wide.quotient, Floor and Ceil. -/
namespace Go.Proofs.YtndcjldnnfhedaaDoor.wd
open Go.RowKit
set_option linter.unusedVariables false

/-- what a quotient returns: the number if it is an int, else ErrBig -/
def qV (n : Int) : Int := if isI n = true then n else 0
def qE (n : Int) : Int := if isI n = true then 0 else 5
/-- a number of uint64 with its sign -/
def sg (n : Nat) (neg : Bool) : Int := if neg = true then -(n : Int) else (n : Int)

/-- the rounded quotient -/
def qt (n b : Int) (down : Bool) : Int := if down = true then qdn n b else qup n b
/-- the absolute quotient, and its step -/
def qr (n b : Int) (neg down : Bool) : Nat := n.natAbs / b.natAbs + if n.natAbs % b.natAbs = 0 then 0 else if neg = down then 1 else 0

theorem qt_spec (n b : Int) (hb : b ≠ 0) (down : Bool) : qt n b down = sg (qr n b (decide (n < 0) != decide (b < 0)) down) (decide (n < 0) != decide (b < 0)) := by
  have hB : 0 < b.natAbs := by omega
  have h := ediv_of_nat n.natAbs b.natAbs hB
  obtain ⟨h1, h2⟩ := h
  unfold qt qr sg qup qdn
  by_cases s1 : n < 0 <;> by_cases s2 : b < 0
  · have e1 : ((n.natAbs : Nat) : Int) = -n := by omega
    have e2 : ((b.natAbs : Nat) : Int) = -b := by omega
    rw [e1, e2] at h1 h2
    rw [Int.neg_neg] at h2
    cases down
    · simp only [s1, s2, decide_true, bne_self_eq_false, if_neg (show ¬ 0 < b by omega), Bool.false_eq_true, if_false, Int.neg_neg, h2]
      split <;> simp <;> omega
    · simp only [s1, s2, decide_true, bne_self_eq_false, if_neg (show ¬ 0 < b by omega), if_true, h1]
      simp
  · have e1 : ((n.natAbs : Nat) : Int) = -n := by omega
    have e2 : ((b.natAbs : Nat) : Int) = b := by omega
    rw [e1, e2] at h1 h2
    rw [Int.neg_neg] at h2
    cases down
    · simp only [s1, s2, decide_true, decide_false, if_pos (show 0 < b by omega), Bool.false_eq_true, if_false, h1]
      simp
    · simp only [s1, s2, decide_true, decide_false, if_pos (show 0 < b by omega), if_true, h2]
      simp
      split <;> simp <;> omega
  · have e1 : ((n.natAbs : Nat) : Int) = n := by omega
    have e2 : ((b.natAbs : Nat) : Int) = -b := by omega
    rw [e1, e2] at h1 h2
    cases down
    · simp only [s1, s2, decide_true, decide_false, if_neg (show ¬ 0 < b by omega), Bool.false_eq_true, if_false, Int.neg_neg, h1]
      simp
    · simp only [s1, s2, decide_true, decide_false, if_neg (show ¬ 0 < b by omega), if_true, h2]
      simp
      split <;> simp <;> omega
  · have e1 : ((n.natAbs : Nat) : Int) = n := by omega
    have e2 : ((b.natAbs : Nat) : Int) = b := by omega
    rw [e1, e2] at h1 h2
    cases down
    · simp only [s1, s2, decide_false, bne_self_eq_false, if_pos (show 0 < b by omega), Bool.false_eq_true, if_false, h2]
      split <;> simp <;> omega
    · simp only [s1, s2, decide_false, bne_self_eq_false, if_pos (show 0 < b by omega), if_true, h1]
      simp
end Go.Proofs.YtndcjldnnfhedaaDoor.wd

/- Contract of wide.quotient, Floor and Ceil: the walk. -/
namespace Go.Proofs.YtndcjldnnfhedaaDoor.wd
open Go.RowKit
set_option linter.unusedVariables false

theorem natAbs_wv_lt (h l : Int) (hk : wok h l = true) : (wv h l).natAbs < 340282366920938463463374607431768211456 := by
  rw [wok_iff] at hk; unfold wv; omega
theorem neg_wv (h l : Int) (hk : wok h l = true) : decide (wv h l < 0) = decide (h < 0) := by
  rw [wok_iff] at hk; unfold wv; rw [decide_eq_decide]; omega

theorem qt_abs (n b : Int) (hb : b ≠ 0) (d : Bool) : n.natAbs / b.natAbs ≤ (qt n b d).natAbs ∧ (qt n b d).natAbs ≤ n.natAbs / b.natAbs + 1 := by
  rw [qt_spec n b hb d]
  have : ∀ (r : Nat) (g : Bool), (sg r g).natAbs = r := by intro r g; cases g <;> simp [sg]
  rw [this]
  unfold qr
  split
  · omega
  · split <;> omega

end Go.Proofs.YtndcjldnnfhedaaDoor.wd

/- Contracts of wide.Floor, Ceil and root. -/
namespace Go.Proofs.YtndcjldnnfhedaaDoor.wd
open Go.RowKit
set_option linter.unusedVariables false

/-- what Floor and Ceil return, for any arguments -/
def rqV (h l b : Int) (d : Bool) : Int := if wok h l = true ∧ b ≠ 0 then qV (qt (wv h l) b d) else 0
def rqE (h l b : Int) (d : Bool) : Int := if wok h l = true then (if b = 0 then 16 else qE (qt (wv h l) b d)) else 1

/-- Newton's step does not go below the root, and stops there -/
theorem nw_ge (N r g : Nat) (hr : r * r ≤ N) (hg : 1 ≤ g) : r ≤ (g + N / g) / 2 := by
  suffices h : 2 * r ≤ g + N / g by omega
  rcases Nat.lt_or_ge (g + N / g) (2 * r) with h | h
  · exfalso
    have hlt : N < (2 * r - g) * g := by
      have : N / g < 2 * r - g := by generalize N / g = z at *; omega
      exact (Nat.div_lt_iff_lt_mul hg).1 this
    have hle : (2 * r - g) * g ≤ r * r := by
      rcases Nat.le_total g r with hgr | hgr
      · obtain ⟨t, rfl⟩ : ∃ t, r = g + t := ⟨r - g, by omega⟩
        rw [show 2 * (g + t) - g = g + 2 * t by omega, Nat.add_mul, Nat.add_mul g t, Nat.mul_add, Nat.mul_add]
        have e1 : 2 * t * g = g * t + t * g := by rw [Nat.mul_comm g t, Nat.mul_assoc, Nat.two_mul]
        have := Nat.zero_le (t * t)
        omega
      · obtain ⟨t, rfl⟩ : ∃ t, g = r + t := ⟨g - r, by omega⟩
        rcases Nat.le_total t r with htr | htr
        · obtain ⟨x, rfl⟩ : ∃ x, r = t + x := ⟨r - t, by omega⟩
          rw [show 2 * (t + x) - (t + x + t) = x by omega]
          have e1 : x * (t + x + t) = x * t + x * x + x * t := by rw [Nat.mul_add, Nat.mul_add]
          have e2 : (t + x) * (t + x) = t * t + x * t + (x * t + x * x) := by rw [Nat.add_mul, Nat.mul_add, Nat.mul_add, Nat.mul_comm t x]
          have := Nat.zero_le (t * t)
          omega
        · rw [show 2 * r - (r + t) = 0 by omega, Nat.zero_mul]; exact Nat.zero_le _
    omega
  · exact h
theorem nw_stop (N r g : Nat) (hr : N < (r + 1) * (r + 1)) (hg : 1 ≤ g) (h : g ≤ (g + N / g) / 2) : g ≤ r := by
  have h1 : g ≤ N / g := by generalize N / g = z at *; omega
  have h2 : g * g ≤ N := (Nat.le_div_iff_mul_le hg).1 h1
  rcases Nat.lt_or_ge r g with h3 | h3
  · exfalso
    have : (r + 1) * (r + 1) ≤ g * g := Nat.mul_le_mul h3 h3
    omega
  · exact h3
theorem nw_quo (N r g : Nat) (hr : N < (r + 1) * (r + 1)) (h1 : 1 ≤ r) (hg : r ≤ g) : N / g ≤ r + 2 := by
  have : N / g < r + 3 := by
    rw [Nat.div_lt_iff_lt_mul (by omega)]
    have h2 : (r + 3) * r ≤ (r + 3) * g := Nat.mul_le_mul_left _ hg
    have e1 : (r + 1) * (r + 1) = r * r + 2 * r + 1 := by rw [Nat.add_mul, Nat.mul_add]; omega
    have e2 : (r + 3) * r = r * r + 3 * r := by rw [Nat.add_mul]
    omega
  omega
theorem root_le (N r b : Nat) (hr : r * r ≤ N) (hb : N < b * b) : r < b := by
  rcases Nat.lt_or_ge r b with h | h
  · exact h
  · have := Nat.mul_le_mul h h; omega
/-- the root of a number -/
def isq : Nat → Nat
  | 0 => 0
  | n + 1 => if (isq n + 1) * (isq n + 1) ≤ n + 1 then isq n + 1 else isq n
theorem isq_spec (N : Nat) : isq N * isq N ≤ N ∧ N < (isq N + 1) * (isq N + 1) := by
  induction N with
  | zero => simp [isq]
  | succ n ih =>
    unfold isq
    by_cases h : (isq n + 1) * (isq n + 1) ≤ n + 1
    · rw [if_pos h]
      refine ⟨h, ?_⟩
      have e1 : (isq n + 1 + 1) * (isq n + 1 + 1) = (isq n + 1) * (isq n + 1) + (isq n + 1) + (isq n + 1) + 1 := by
        rw [Nat.add_mul (isq n + 1) 1, Nat.mul_add]; omega
      omega
    · rw [if_neg h]; omega
theorem isq_unique (N r : Nat) (h1 : r * r ≤ N) (h2 : N < (r + 1) * (r + 1)) : isq N = r := by
  obtain ⟨a, b⟩ := isq_spec N
  have c := root_le N r (isq N + 1) h1 b
  have d := root_le N (isq N) (r + 1) a h2
  omega
end Go.Proofs.YtndcjldnnfhedaaDoor.wd

/- Contracts of wide.root and Root. -/
namespace Go.Proofs.YtndcjldnnfhedaaDoor.wd
open Go.RowKit
set_option linter.unusedVariables false

theorem root_zero (w : World) :
    Calls Tryd.prog 88 #[.int .u64 0, .int .u64 0] w fun e w' => e = .returned (.int .u64 0) ∧ Below w.heap.size w w' := by
  go_enter Tryd.func88, Tryd.ntmps88
  go_wp2_with fail
  go_ret
  exact ⟨rfl, Below.refl _ _⟩

/-- the loop of root: from any guess that is not less than the root -/
structure RtN (N r G : Nat) : Prop where
  h1 : r * r ≤ N
  h2 : N < (r + 1) * (r + 1)
  r1 : 1 ≤ r
  rG : r ≤ G
  G2 : G ≤ 1152921504606846976

set_option maxRecDepth 100000 in
set_option maxHeartbeats 2000000 in
theorem root_hi (N r G M : Nat) (l0 L : Int) (w : World) (R : RtN N r G) (h0 : 0 < (N : Int) / 18446744073709551616) (h9 : (N : Int) / 18446744073709551616 < 72057594037927936)
    (hL : 1 ≤ L) (hL2 : L ≤ 56) (hM : (64 + L + 1) / 2 = (M : Int)) (hG : (2 : Int) ^ M = (G : Int))
    (C0 : ∀ wx, Calls Tryd.prog 107 #[.int .u64 ((N : Int) % 18446744073709551616)] wx fun e w' => e = .returned (.int .i64 l0) ∧ wx = w')
    (C1 : ∀ wx, Calls Tryd.prog 107 #[.int .u64 ((N : Int) / 18446744073709551616)] wx fun e w' => e = .returned (.int .i64 L) ∧ wx = w')
    (CD : ∀ (g : Nat) wx, r ≤ g → g < 18446744073709551616 → Calls Tryd.prog 62 #[.int .u64 ((N : Int) / 18446744073709551616), .int .u64 ((N : Int) % 18446744073709551616), .int .u64 (g : Int)] wx fun e w' => e = .returned (.tuple #[.int .u64 ((N / g : Nat) : Int), .int .u64 ((N % g : Nat) : Int)]) ∧ Below wx.heap.size wx w') :
    Calls Tryd.prog 88 #[.int .u64 ((N : Int) / 18446744073709551616), .int .u64 ((N : Int) % 18446744073709551616)] w fun e w' => e = .returned (.int .u64 (r : Int)) ∧ Below w.heap.size w w' := by
  have t1 : ((N : Int) / 18446744073709551616 == 0) = false := by rw [beq_eq_false_iff_ne]; omega
  have H0 := Lib.hid C0
  have H1 := Lib.hid C1
  have HD := Lib.hid CD
  have HR := Lib.hid R
  have g1 : (1 : Int) ≤ (G : Int) := by have := R.rG; have := R.r1; omega
  have g2 : (G : Int) ≤ 1152921504606846976 := by have := R.G2; omega
  have r2 : (1 : Int) ≤ (r : Int) := by have := R.r1; omega
  clear C0 C1 CD R
  go_enter Tryd.func88, Tryd.ntmps88
  go_wp2_with fail
  refine (H0.out _).mono ?_
  rintro e w' ⟨rfl, rfl⟩
  go_wp2_with fail
  refine (H1.out _).mono ?_
  rintro e w' ⟨rfl, rfl⟩
  go_wp2_with fail
  go_loopg [6] G (fun m v wr => ∃ g : Nat, m = g ∧ v = .int .u64 (g : Int) ∧ Hid ((r : Int) ≤ (g : Int) ∧ (g : Int) ≤ 1152921504606846976) ∧ Below w.heap.size w wr)
  case atStart => exact ⟨G, rfl, rfl, And.intro (by have := HR.out.rG; omega) g2, Below.refl _ _⟩
  case round =>
    obtain ⟨g, hgk, rfl, HG, hb⟩ := hrel
    have HGK := Lib.hid hgk
    clear hgk
    have hg1 := HG.out.1
    have hg2 := HG.out.2
    have HB := Lib.hid hb
    have hd := HD.out g wr (by omega) (by omega)
    have hq := nw_quo N r g HR.out.h2 HR.out.r1 (by omega)
    have hge := nw_ge N r g HR.out.h1 (by omega)
    have hst := nw_stop N r g HR.out.h2 (by omega)
    obtain ⟨q, hq'⟩ : ∃ q, q = N / g := ⟨_, rfl⟩
    obtain ⟨t, ht⟩ : ∃ t, t = N % g := ⟨_, rfl⟩
    rw [← hq'] at hd hq hge hst
    rw [← ht] at hd
    have hq2 : (q : Int) ≤ 1152921504606846978 := by omega
    have hge2 : (r : Int) ≤ ((g : Int) + (q : Int)) / 2 := by omega
    obtain ⟨n, hn⟩ : ∃ n : Nat, ((g : Int) + (q : Int)) / 2 = (n : Int) := ⟨(g + q) / 2, by omega⟩
    rw [hn] at hge2
    have HST : Hid ((n : Int) ≥ (g : Int) → g ≤ r) := fun h => hst (by omega)
    have hn2 : (n : Int) ≤ 1152921504606846977 := by omega
    have HDD := Lib.hid hd
    clear hb hd hst hge hq hq' ht
    by_cases hc : (g : Int) ≤ (n : Int)
    · go_wp2_with fail
      refine (HDD.out).mono ?_
      rintro e w1 ⟨rfl, hb1⟩
      have HB1 := Lib.hid (bstep HB.out hb1)
      clear hb1
      go_wp2_with fail
      go_ret
      exact ⟨ret_int (by have := HST.out (by omega); omega), HB1.out⟩
    · have hc' := Lib.hid (show (n : Int) < (g : Int) by omega)
      have hcN : decide (g ≤ n) = false := decide_eq_false (by omega)
      have hge3 := Lib.hid hge2
      clear hc hM hG hL hL2 g1 g2 hge2 HST
      go_wp2_with fail
      refine (HDD.out).mono ?_
      rintro e w1 ⟨rfl, hb1⟩
      have HB1 := Lib.hid (bstep HB.out hb1)
      clear hb1
      go_wp2_with fail
      go_roundg n
      case rel => exact ⟨n, rfl, by go_num, And.intro hge3.out (by have := hc'.out; omega), HB1.out⟩
      case measure => have := HGK.out; have := hc'.out; omega
set_option maxRecDepth 100000 in
set_option maxHeartbeats 2000000 in
theorem root_lo (N r G M : Nat) (L : Int) (w : World) (R : RtN N r G) (h0 : 0 < (N : Int)) (h9 : (N : Int) < 18446744073709551616)
    (hL : 1 ≤ L) (hL2 : L ≤ 64) (hM : (L + 1) / 2 = (M : Int)) (hG : (2 : Int) ^ M = (G : Int))
    (C0 : ∀ wx, Calls Tryd.prog 107 #[.int .u64 (N : Int)] wx fun e w' => e = .returned (.int .i64 L) ∧ wx = w')
    (CD : ∀ (g : Nat) wx, r ≤ g → g < 18446744073709551616 → Calls Tryd.prog 62 #[.int .u64 0, .int .u64 (N : Int), .int .u64 (g : Int)] wx fun e w' => e = .returned (.tuple #[.int .u64 ((N / g : Nat) : Int), .int .u64 ((N % g : Nat) : Int)]) ∧ Below wx.heap.size wx w') :
    Calls Tryd.prog 88 #[.int .u64 0, .int .u64 (N : Int)] w fun e w' => e = .returned (.int .u64 (r : Int)) ∧ Below w.heap.size w w' := by
  have t1 : ((N : Int) == 0) = false := by rw [beq_eq_false_iff_ne]; omega
  have H0 := Lib.hid C0
  have HD := Lib.hid CD
  have HR := Lib.hid R
  have g1 : (1 : Int) ≤ (G : Int) := by have := R.rG; have := R.r1; omega
  have g2 : (G : Int) ≤ 1152921504606846976 := by have := R.G2; omega
  have r2 : (1 : Int) ≤ (r : Int) := by have := R.r1; omega
  clear C0 CD R
  go_enter Tryd.func88, Tryd.ntmps88
  go_wp2_with fail
  refine (H0.out _).mono ?_
  rintro e w' ⟨rfl, rfl⟩
  go_wp2_with fail
  go_loopg [6] G (fun m v wr => ∃ g : Nat, m = g ∧ v = .int .u64 (g : Int) ∧ Hid ((r : Int) ≤ (g : Int) ∧ (g : Int) ≤ 1152921504606846976) ∧ Below w.heap.size w wr)
  case atStart => exact ⟨G, rfl, rfl, And.intro (by have := HR.out.rG; omega) g2, Below.refl _ _⟩
  case round =>
    obtain ⟨g, hgk, rfl, HG, hb⟩ := hrel
    have HGK := Lib.hid hgk
    clear hgk
    have hg1 := HG.out.1
    have hg2 := HG.out.2
    have HB := Lib.hid hb
    have hd := HD.out g wr (by omega) (by omega)
    have hq := nw_quo N r g HR.out.h2 HR.out.r1 (by omega)
    have hge := nw_ge N r g HR.out.h1 (by omega)
    have hst := nw_stop N r g HR.out.h2 (by omega)
    obtain ⟨q, hq'⟩ : ∃ q, q = N / g := ⟨_, rfl⟩
    obtain ⟨t, ht⟩ : ∃ t, t = N % g := ⟨_, rfl⟩
    rw [← hq'] at hd hq hge hst
    rw [← ht] at hd
    have hq2 : (q : Int) ≤ 1152921504606846978 := by omega
    have hge2 : (r : Int) ≤ ((g : Int) + (q : Int)) / 2 := by omega
    obtain ⟨n, hn⟩ : ∃ n : Nat, ((g : Int) + (q : Int)) / 2 = (n : Int) := ⟨(g + q) / 2, by omega⟩
    rw [hn] at hge2
    have HST : Hid ((n : Int) ≥ (g : Int) → g ≤ r) := fun h => hst (by omega)
    have hn2 : (n : Int) ≤ 1152921504606846977 := by omega
    have HDD := Lib.hid hd
    clear hb hd hst hge hq hq' ht
    by_cases hc : (g : Int) ≤ (n : Int)
    · go_wp2_with fail
      refine (HDD.out).mono ?_
      rintro e w1 ⟨rfl, hb1⟩
      have HB1 := Lib.hid (bstep HB.out hb1)
      clear hb1
      go_wp2_with fail
      go_ret
      exact ⟨ret_int (by have := HST.out (by omega); omega), HB1.out⟩
    · have hc' := Lib.hid (show (n : Int) < (g : Int) by omega)
      have hcN : decide (g ≤ n) = false := decide_eq_false (by omega)
      have hge3 := Lib.hid hge2
      clear hc hM hG hL hL2 g1 g2 hge2 HST
      go_wp2_with fail
      refine (HDD.out).mono ?_
      rintro e w1 ⟨rfl, hb1⟩
      have HB1 := Lib.hid (bstep HB.out hb1)
      clear hb1
      go_wp2_with fail
      go_roundg n
      case rel => exact ⟨n, rfl, by go_num, And.intro hge3.out (by have := hc'.out; omega), HB1.out⟩
      case measure => have := HGK.out; have := hc'.out; omega

theorem root_any (N r : Nat) (w : World) (hN : N < 1329227995784915872903807060280344576) (h1 : r * r ≤ N) (h2 : N < (r + 1) * (r + 1)) :
    Calls Tryd.prog 88 #[.int .u64 ((N : Int) / 18446744073709551616), .int .u64 ((N : Int) % 18446744073709551616)] w fun e w' => e = .returned (.int .u64 (r : Int)) ∧ Below w.heap.size w w' := by
  by_cases hz : N = 0
  · subst hz
    have : r = 0 := by
      rcases Nat.eq_zero_or_pos r with h | h
      · exact h
      · have := Nat.mul_le_mul h h; omega
    subst this
    exact root_zero w
  have hr1 : 1 ≤ r := by
    rcases Nat.eq_zero_or_pos r with h | h
    · subst h; omega
    · exact h
  have hquo : ∀ g, r ≤ g → N / 18446744073709551616 < g := by
    intro g hg
    have hlt : r < 1152921504606846976 := root_le N r _ h1 (by omega)
    have : N / 18446744073709551616 < r := by
      rw [Nat.div_lt_iff_lt_mul (by omega)]
      have e1 : (r + 1) * (r + 1) = r * r + 2 * r + 1 := by rw [Nat.add_mul, Nat.mul_add]; omega
      have e2 : r * r ≤ r * 1152921504606846976 := Nat.mul_le_mul_left r (by omega)
      omega
    omega
  have hmk : ∀ (L M : Nat), N < 2 ^ L → L ≤ 120 → (L + 1) / 2 = M → RtN N r (2 ^ M) := by
    intro L M hL hL2 hM
    refine ⟨h1, h2, hr1, ?_, ?_⟩
    · refine Nat.le_of_lt (root_le N r _ h1 ?_)
      rw [← Nat.pow_add]
      exact Nat.lt_of_lt_of_le hL (Nat.pow_le_pow_right (by omega) (by omega))
    · have : 2 ^ M ≤ 2 ^ 60 := Nat.pow_le_pow_right (by omega) (by omega)
      exact this
  have hlen : ∀ x : Nat, 0 < x → x < 18446744073709551616 → 1 ≤ Lib.bitLen x ∧ Lib.bitLen x ≤ 64 ∧ x < 2 ^ Lib.bitLen x := by
    intro x h0 hx
    have hb := Lib.bitLenAux_bounds 64 x hx (by omega)
    exact ⟨hb.1, Lib.bitLen_le x 64 (by omega) hx, hb.2.2⟩
  have CL : ∀ (x : Nat), x < 18446744073709551616 → ∀ wx, Calls Tryd.prog 107 #[.int .u64 (x : Int)] wx fun e w' => e = .returned (.int .i64 (Lib.bitLen x : Int)) ∧ wx = w' := by
    intro x hx wx
    refine (Tryd.bits_Len64 (x : Int) wx (by omega) (by omega)).mono ?_
    rintro e w' ⟨rfl, rfl⟩
    exact ⟨rfl, rfl⟩
  by_cases hs : N < 18446744073709551616
  · rw [show (N : Int) / 18446744073709551616 = 0 by omega, show (N : Int) % 18446744073709551616 = (N : Int) by omega]
    obtain ⟨L, hL⟩ : ∃ L, L = Lib.bitLen N := ⟨_, rfl⟩
    have hl := hlen N (by omega) hs
    have cl := CL N hs
    rw [← hL] at hl cl
    refine root_lo N r (2 ^ ((L + 1) / 2)) ((L + 1) / 2) (L : Int) w (hmk L _ hl.2.2 (by omega) rfl) (by omega) (by omega) (by omega) (by omega) (by omega) (by rw [Int.natCast_pow]; rfl) cl ?_
    intro g wx hg hg2
    have := div64_any 0 N g wx hs hg2 (by omega)
    rw [Nat.zero_mul, Nat.zero_add] at this
    exact this
  · have hh : N / 18446744073709551616 < 72057594037927936 := by omega
    obtain ⟨L, hL⟩ : ∃ L, L = Lib.bitLen (N / 18446744073709551616) := ⟨_, rfl⟩
    have hl := hlen (N / 18446744073709551616) (by omega) (by omega)
    have hl56 : Lib.bitLen (N / 18446744073709551616) ≤ 56 := Lib.bitLen_le _ 56 (by omega) hh
    have cl := CL (N / 18446744073709551616) (by omega)
    have c0 := CL (N % 18446744073709551616) (by omega)
    rw [← hL] at hl cl hl56
    have hlN : N < 2 ^ (64 + L) := by
      rw [Nat.pow_add, Nat.mul_comm]
      rw [Nat.div_lt_iff_lt_mul (by omega)] at hl
      exact hl.2.2
    rw [Int.natCast_ediv] at cl
    rw [Int.natCast_emod] at c0
    refine root_hi N r (2 ^ ((64 + L + 1) / 2)) ((64 + L + 1) / 2) _ (L : Int) w (hmk (64 + L) _ hlN (by omega) rfl) (by omega) (by omega) (by omega) (by omega) (by omega) (by rw [Int.natCast_pow]; rfl) c0 cl ?_
    intro g wx hg hg2
    have := div64_any (N / 18446744073709551616) (N % 18446744073709551616) g wx (Nat.mod_lt _ (by omega)) hg2 (hquo g hg)
    rw [Nat.div_add_mod' N 18446744073709551616, Int.natCast_ediv N 18446744073709551616, Int.natCast_emod N 18446744073709551616] at this
    exact this

theorem Root_ok (h l : Int) (r : Nat) (w : World) (hk : wok h l = true) (hp : 0 ≤ h) (h1 : ((r * r : Nat) : Int) ≤ wv h l) (h2 : wv h l < (((r + 1) * (r + 1) : Nat) : Int)) :
    Calls Tryd.prog 63 #[.agg #[.int .i64 h, .int .i64 l]] w fun e w' => e = .returned (.tuple #[.int .i64 (r : Int), .int .i64 0]) ∧ Below w.heap.size w w' := by
  have C1 := Lib.hid (fun wx => valid_is h l true hk wx)
  have hv0 : 0 ≤ wv h l ∧ wv h l < 1329227995784915872903807060280344576 := by rw [wok_iff] at hk; unfold wv; omega
  have C2 : Hid (∀ wx, Calls Tryd.prog 89 #[.agg #[.int .i64 h, .int .i64 l]] wx fun e w' => e = .returned (.tuple #[.int .u64 (((wv h l).natAbs : Int) / 18446744073709551616), .int .u64 (((wv h l).natAbs : Int) % 18446744073709551616)]) ∧ Below wx.heap.size wx w') := by
    intro wx
    have := halves_any h l wx hk
    rw [Int.natCast_ediv, Int.natCast_emod] at this
    exact this
  obtain ⟨N, hN⟩ : ∃ N, N = (wv h l).natAbs := ⟨_, rfl⟩
  rw [← hN] at C2
  have C3 := Lib.hid (fun wx => root_any N r wx (by omega) (by omega) (by omega))
  have hr : r < 1152921504606846976 := root_le N r _ (by omega) (by omega)
  have hri : wrap64 (r : Int) = (r : Int) := IntWalk.wrap64_in _ (by omega)
  clear hk h1 h2 hv0 hN hr
  go_enter Tryd.func63, Tryd.ntmps63
  go_wp2_with fail
  refine (C1.out _).mono ?_
  rintro e w1 ⟨rfl, hb1⟩
  have A := (At2.new w (.int .i64 h) (.int .i64 l) 96).keep hb1
  have HB := Lib.hid (bstep (below1 w _) hb1)
  clear hb1
  obtain ⟨p0, p1, _, _, _⟩ := id A
  go_wp2_with fail
  refine (C2.out _).mono ?_
  rintro e w2 ⟨rfl, hb2⟩
  have HB2 := Lib.hid (bstep HB.out hb2)
  clear hb2 p0 p1
  go_wp2_with fail
  refine (C3.out _).mono ?_
  rintro e w3 ⟨rfl, hb3⟩
  have HB3 := Lib.hid (bstep HB2.out hb3)
  clear hb3
  have HRI := Lib.hid hri
  clear hri
  go_wp2_with fail
  go_ret2
  exact ⟨by rw [HRI.out]; rfl, HB3.out⟩
theorem Root_bad (h l : Int) (w : World) (hk : wok h l = false) :
    Calls Tryd.prog 63 #[.agg #[.int .i64 h, .int .i64 l]] w fun e w' => e = .returned (.tuple #[.int .i64 0, .int .i64 1]) ∧ Below w.heap.size w w' := by
  have C1 := Lib.hid (fun wx => valid_is h l false hk wx)
  clear hk
  go_enter Tryd.func63, Tryd.ntmps63
  go_wp2_with fail
  refine (C1.out _).mono ?_
  rintro e w1 ⟨rfl, hb1⟩
  have HB := Lib.hid (bstep (below1 w _) hb1)
  clear hb1
  go_wp2_with fail
  go_ret2
  exact ⟨rfl, HB.out⟩
theorem Root_neg (h l : Int) (w : World) (hk : wok h l = true) (hp : h < 0) :
    Calls Tryd.prog 63 #[.agg #[.int .i64 h, .int .i64 l]] w fun e w' => e = .returned (.tuple #[.int .i64 0, .int .i64 2]) ∧ Below w.heap.size w w' := by
  have C1 := Lib.hid (fun wx => valid_is h l true hk wx)
  clear hk
  go_enter Tryd.func63, Tryd.ntmps63
  go_wp2_with fail
  refine (C1.out _).mono ?_
  rintro e w1 ⟨rfl, hb1⟩
  obtain ⟨p0, p1, _, _, _⟩ := (At2.new w (.int .i64 h) (.int .i64 l) 96).keep hb1
  have HB := Lib.hid (bstep (below1 w _) hb1)
  clear hb1
  go_wp2_with fail
  go_ret2
  exact ⟨rfl, HB.out⟩
end Go.Proofs.YtndcjldnnfhedaaDoor.wd
