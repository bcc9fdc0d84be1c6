/- Plain texts: decimal numerals, in the pieces in which both programs make them: no run of the model here. -/
import Derived.Test.YtpneahdbiikonaaDoorDgN
import Derived.Test.YtpneahdbiikonaaDoorWdM
import Derived.Lib.ItoaNum
namespace Go.Proofs.YtpneahdbiikonaaDoor
set_option linter.unusedVariables false

/-- a string of bytes -/
def ba (l : List UInt8) : ByteArray := ⟨l.toArray⟩
theorem ba_app (l m : List UInt8) : ba l ++ ba m = ba (l ++ m) := by
  show ByteArray.append _ _ = _
  unfold ba
  apply ByteArray.ext
  simp
theorem ba_size (l : List UInt8) : (ba l).size = l.length := by simp [ba, ByteArray.size]

/-- the decimal text of an integer -/
def txt (z : Int) : List UInt8 := if z < 0 then 45 :: Lib.decDigits z.natAbs else Lib.decDigits z.natAbs

theorem dec_small {n : Nat} (h : n < 10) : Lib.decDigits n = [UInt8.ofNat (48 + n)] := by rw [Lib.decDigits, dif_pos h]
theorem dec_big {n : Nat} (h : ¬ n < 10) : Lib.decDigits n = Lib.decDigits (n / 10) ++ [UInt8.ofNat (48 + n % 10)] := by rw [Lib.decDigits, dif_neg h]

/-- what the reference's loop has made when M is left -/
def TxI (N M : Nat) (out : List UInt8) : Prop := (0 < M → Lib.decDigits N = Lib.decDigits M ++ out) ∧ (M = 0 → Lib.decDigits N = out)
theorem txI_start (N : Nat) (h : 0 < N) : TxI N N [] := ⟨fun _ => by simp, fun e => by omega⟩
theorem txI_step {N M : Nat} {out : List UInt8} (h : TxI N M out) (hM : 0 < M) : TxI N (M / 10) (UInt8.ofNat (48 + M % 10) :: out) := by
  have e := h.1 hM
  by_cases h10 : M < 10
  · rw [dec_small h10] at e
    refine ⟨fun z => by omega, fun _ => ?_⟩
    rw [e, Nat.mod_eq_of_lt h10]; rfl
  · rw [dec_big h10] at e
    refine ⟨fun _ => by rw [e]; simp, fun z => by omega⟩

/-- the last k digits -/
def pd : Nat → Nat → List UInt8
  | 0, _ => []
  | k + 1, l => pd k (l / 10) ++ [UInt8.ofNat (48 + l % 10)]
theorem dec_pad (k : Nat) : ∀ (u l : Nat), 0 < u → l < 10 ^ k → Lib.decDigits (u * 10 ^ k + l) = Lib.decDigits u ++ pd k l := by
  induction k with
  | zero => intro u l h0 h1; have : l = 0 := by simpa using h1
            subst this; simp [pd]
  | succ k ih =>
    intro u l h0 h1
    have hp : 0 < 10 ^ k := Nat.pos_of_ne_zero (by simp)
    have hl : l / 10 < 10 ^ k := by rw [Nat.pow_succ] at h1; omega
    have e : u * 10 ^ (k + 1) = 10 * (u * 10 ^ k) := by rw [Nat.pow_succ]; rw [← Nat.mul_assoc, Nat.mul_comm]
    have hu : 1 * 10 ^ k ≤ u * 10 ^ k := Nat.mul_le_mul_right _ h0
    rw [e, dec_big (by omega), show (10 * (u * 10 ^ k) + l) / 10 = u * 10 ^ k + l / 10 by omega, show (10 * (u * 10 ^ k) + l) % 10 = l % 10 by omega, ih u (l / 10) h0 hl]
    simp [pd]
theorem pd_zeros (k : Nat) : ∀ l, l < 10 ^ (k + 1) → pd (k + 1) l = List.replicate (k + 1 - (Lib.decDigits l).length) 48 ++ Lib.decDigits l := by
  induction k with
  | zero =>
    intro l h
    have h10 : l < 10 := by simpa using h
    rw [dec_small h10]
    simp [pd, Nat.mod_eq_of_lt h10]
  | succ k ih =>
    intro l h
    have hl : l / 10 < 10 ^ (k + 1) := by rw [Nat.pow_succ] at h; omega
    show pd (k + 1) (l / 10) ++ _ = _
    rw [ih _ hl]
    by_cases h10 : l < 10
    · rw [dec_small h10, show l / 10 = 0 by omega, dec_small (show 0 < 10 by omega), Nat.mod_eq_of_lt h10]
      simp only [List.length_cons, List.length_nil]
      rw [show k + 1 - (0 + 1) = k by omega, show k + 1 + 1 - (0 + 1) = k + 1 by omega, List.replicate_succ']
      simp
    · rw [dec_big h10]
      simp only [List.length_append, List.length_cons, List.length_nil]
      rw [show k + 1 + 1 - ((Lib.decDigits (l / 10)).length + (0 + 1)) = k + 1 - (Lib.decDigits (l / 10)).length by omega]
      simp
theorem dec_len (n k : Nat) (h : n < 10 ^ (k + 1)) : (Lib.decDigits n).length ≤ k + 1 := by
  rw [Lib.decDigits_length]
  induction k generalizing n with
  | zero => rw [Lib.nDigits_small (by simpa using h)]; omega
  | succ k ih =>
    by_cases h10 : n < 10
    · rw [Lib.nDigits_small h10]; omega
    · rw [Lib.nDigits_big h10]
      have := ih (n / 10) (by rw [Nat.pow_succ] at h; omega)
      omega
theorem dec_pos (n : Nat) : 1 ≤ (Lib.decDigits n).length := by rw [Lib.decDigits_length]; exact Lib.nDigits_pos n
theorem dec_18 (u l : Nat) (hu : 0 < u) (hl : l < 1000000000000000000) :
    Lib.decDigits (u * 1000000000000000000 + l) = Lib.decDigits u ++ (List.replicate (18 - (Lib.decDigits l).length) 48 ++ Lib.decDigits l) := by
  have h := dec_pad 18 u l hu hl
  rw [pd_zeros 17 l hl] at h
  exact h
end Go.Proofs.YtpneahdbiikonaaDoor
