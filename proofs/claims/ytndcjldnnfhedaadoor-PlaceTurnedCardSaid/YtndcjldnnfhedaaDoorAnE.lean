/- Angle: texts as plain lists of bytes. No run of the model here. -/
import Derived.Test.YtndcjldnnfhedaaDoorDecM
import Derived.Test.YtndcjldnnfhedaaDoorAnP
namespace Go.Proofs.YtndcjldnnfhedaaDoor
set_option linter.unusedVariables false

/-- how many digits are written -/
def rcnt (n l : Nat) : Nat := max l (ndig n)
theorem rcnt_zero (n l : Nat) (hn : n ≤ 1152921504606846976) : n / 10 ^ rcnt n l = 0 := by
  have h := ndF_zero 20 n (by omega)
  unfold rcnt ndig
  rw [Nat.div_eq_zero_iff] at h ⊢
  right
  rcases h with h | h
  · exact absurd h (by have := Nat.pow_pos (a := 10) (n := ndF 20 n) (by omega); omega)
  · exact Nat.lt_of_lt_of_le h (Nat.pow_le_pow_right (by omega) (by omega))
theorem rcnt_go (n l k : Nat) (h : k < rcnt n l) (h2 : l ≤ k) : 0 < n / 10 ^ k := by
  unfold rcnt ndig at h
  exact ndF_pos 20 n k (by omega)
theorem rcnt_le (n l : Nat) (h : l ≤ 9) : rcnt n l ≤ 20 := by have := ndF_le 20 n; unfold rcnt ndig; omega
theorem rcnt_ge (n l : Nat) : l ≤ rcnt n l := by unfold rcnt; omega
theorem rcnt_low (n l : Nat) (h : n < 10 ^ l) : rcnt n l = l := by
  have g := rcnt_ge n l
  rcases Nat.lt_or_ge l (rcnt n l) with hh | hh
  · have := rcnt_go n l l hh (Nat.le_refl _)
    rw [Nat.div_eq_of_lt h] at this
    omega
  · omega

/-- the thousandths of a minute -/
def fracT (f : Nat) : List UInt8 := if f % 100 = 0 then digs 1 (f / 100) else digs 3 f
/-- the text of a number that is not negative -/
def bodyT (a : Nat) : List UInt8 := digs (rcnt (a / 60000) 1) (a / 60000) ++ 45 :: (digs 2 (a % 60000 / 1000) ++ 46 :: fracT (a % 1000))
/-- the text of a number -/
def textT (n : Int) : List UInt8 := if n < 0 then 45 :: bodyT n.natAbs else bodyT n.natAbs
def ba (l : List UInt8) : ByteArray := ⟨l.toArray⟩
theorem ba_app (a b : List UInt8) : ba a ++ ba b = ba (a ++ b) := by
  unfold ba
  apply ByteArray.ext
  simp
/-- what Text answers -/
def inA (n : Int) : Bool := decide (-1099511627776 ≤ n ∧ n ≤ 1099511627776)
theorem inA_iff (n : Int) : inA n = true ↔ (-1099511627776 ≤ n ∧ n ≤ 1099511627776) := by unfold inA; simp
theorem inA_not (n : Int) : inA n = false ↔ ¬ (-1099511627776 ≤ n ∧ n ≤ 1099511627776) := by unfold inA; rw [decide_eq_false_iff_not]
def txS (n : Int) : ByteArray := if inA n = true then ba (textT n) else ba []
def txE (n : Int) : Int := if inA n = true then 0 else 5
/-- a number rounded to a tenth, in units -/
def rndT (n : Int) : Int := 100 * ((n + 50) / 100)
def prT (a b : Int) : List UInt8 := if rndT a = rndT b then textT (rndT a) else textT (rndT a) ++ [32, 46, 46, 32] ++ textT (rndT b)
def prO (a b : Int) : Bool := decide (-1099511627776 ≤ rndT a ∧ rndT b ≤ 1099511627776)
def prS (a b : Int) : ByteArray := if aok a b = true ∧ prO a b = true then ba (prT a b) else ba []
def prE (a b : Int) : Int := if aok a b = true then (if prO a b = true then 0 else 5) else 1
theorem text_41 : ba (textT 2483400) = ⟨#[52, 49, 45, 50, 51, 46, 52]⟩ := by decide +kernel
theorem print_41 : ba (prT 2483349 2483360) = ⟨#[52, 49, 45, 50, 51, 46, 51, 32, 46, 46, 32, 52, 49, 45, 50, 51, 46, 52]⟩ := by decide +kernel
theorem bodyT_len (a : Nat) : (bodyT a).length ≤ 30 := by
  unfold bodyT fracT
  have := rcnt_le (a / 60000) 1 (by omega)
  split <;> simp [digs_length] <;> omega
theorem textT_len (n : Int) : (textT n).length ≤ 31 := by
  have := bodyT_len n.natAbs
  unfold textT
  split <;> simp <;> omega

/-- what a string stands for -/
def isDig (c : UInt8) : Bool := decide (48 ≤ c.toNat ∧ c.toNat ≤ 57)
def val (l : List UInt8) : Nat := l.foldl (fun n c => 10 * n + (c.toNat - 48)) 0
theorem val_snoc (l : List UInt8) (c : UInt8) : val (l ++ [c]) = 10 * val l + (c.toNat - 48) := by unfold val; simp
/-- the part behind the minutes, in thousandths, if it has the form -/
def frP : List UInt8 → Option Nat
  | [] => some 0
  | c :: F => if c = 46 ∧ 1 ≤ F.length ∧ F.length ≤ 3 ∧ F.all isDig = true then some (val (F ++ List.replicate (3 - F.length) 48)) else none
theorem frP_cons (c : UInt8) (F : List UInt8) : frP (c :: F) = if c = 46 ∧ 1 ≤ F.length ∧ F.length ≤ 3 ∧ F.all isDig = true then some (val (F ++ List.replicate (3 - F.length) 48)) else none := rfl
/-- the part behind the degrees -/
def mnP : List UInt8 → Option (Nat × Nat)
  | h :: x :: y :: T => if h = 45 ∧ isDig x = true ∧ isDig y = true ∧ x.toNat ≤ 53 then (frP T).map (fun f => (10 * (x.toNat - 48) + (y.toNat - 48), f)) else none
  | _ => none
theorem mnP_cons (h x y : UInt8) (T : List UInt8) : mnP (h :: x :: y :: T) = if h = 45 ∧ isDig x = true ∧ isDig y = true ∧ x.toNat ≤ 53 then (frP T).map (fun f => (10 * (x.toNat - 48) + (y.toNat - 48), f)) else none := rfl
/-- the value without the sign -/
def boP (u : List UInt8) : Option (Nat × Nat × Nat) :=
  if u.takeWhile isDig = [] ∨ (1 < (u.takeWhile isDig).length ∧ (u.takeWhile isDig).head? = some 48) then none
  else (mnP (u.dropWhile isDig)).map (fun p => (val (u.takeWhile isDig), p.1, p.2))
def sgP (l : List UInt8) : Bool := decide (l.head? = some 45)
def unP (l : List UInt8) : List UInt8 := if sgP l = true then l.tail else l
def paV (l : List UInt8) : Int := match boP (unP l) with
  | none => 0
  | some (d, m, f) => if 18325193 < d ∨ 1099511627776 < d * 60000 + m * 1000 + f then 0 else if sgP l = true then -((d * 60000 + m * 1000 + f : Nat) : Int) else ((d * 60000 + m * 1000 + f : Nat) : Int)
def paE (l : List UInt8) : Int := match boP (unP l) with
  | none => 7
  | some (d, m, f) => if 18325193 < d ∨ 1099511627776 < d * 60000 + m * 1000 + f then 5 else 0
end Go.Proofs.YtndcjldnnfhedaaDoor
