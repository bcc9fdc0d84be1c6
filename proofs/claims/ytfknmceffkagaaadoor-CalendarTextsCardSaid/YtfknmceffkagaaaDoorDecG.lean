/- Plain facts on strings of digits: where the first point stands, and the number that digits stand for. -/
import Derived.Test.YtfknmceffkagaaaDoorDecM
import Derived.Lib.IndexMore
import Derived.Lib.Repeat
namespace Go.Proofs.YtfknmceffkagaaaDoor.dc

def nPt (c : UInt8) : Bool := c != 46
theorem index_pt (l : List UInt8) : Lib.index l [46] = if l.all nPt then -1 else ((l.takeWhile nPt).length : Int) := by
  induction l with
  | nil => simp [Lib.index]
  | cons b l ih =>
    rw [Lib.index]
    by_cases h : b = 46
    · subst h; simp [nPt]
    · have h1 : ([46] : List UInt8).isPrefixOf (b :: l) = false := by simp [List.isPrefixOf]; exact fun e => h e.symm
      have h2 : nPt b = true := by simp [nPt, h]
      rw [h1, ih]
      simp only [List.all_cons, h2, Bool.true_and, List.takeWhile_cons, if_true]
      cases hc : l.all nPt
      · simp only [Bool.false_eq_true, if_false]
        rw [if_neg (by simp only [beq_iff_eq]; omega)]
        simp
      · simp
theorem take_all (p : UInt8 → Bool) (l : List UInt8) (h : l.all p = true) : l.takeWhile p = l := by
  induction l with
  | nil => rfl
  | cons c l ih => simp only [List.all_cons, Bool.and_eq_true] at h; simp [h.1, ih h.2]
theorem drop_all (p : UInt8 → Bool) (l : List UInt8) (h : l.all p = true) : l.dropWhile p = [] := by
  induction l with
  | nil => rfl
  | cons c l ih => simp only [List.all_cons, Bool.and_eq_true] at h; simp [h.1, ih h.2]
theorem cut_pt (l : List UInt8) : Lib.cut l [46] = (l.takeWhile nPt, (l.dropWhile nPt).tail, !l.all nPt) := by
  unfold Lib.cut
  rw [index_pt]
  cases hc : l.all nPt
  · simp only [Bool.false_eq_true, if_false]
    rw [if_pos (by omega)]
    have e : l = l.takeWhile nPt ++ l.dropWhile nPt := List.takeWhile_append_dropWhile.symm
    have e1 : l.take (l.takeWhile nPt).length = l.takeWhile nPt := by
      conv => lhs; rw [e]
      exact List.take_left' (by simp)
    have e2 : l.drop (l.takeWhile nPt).length = l.dropWhile nPt := by
      conv => lhs; rw [e]
      exact List.drop_left' (by simp)
    simp only [Int.toNat_natCast, List.length_cons, List.length_nil]
    rw [e1, ← List.drop_drop, e2]
    simp
  · simp only [if_true]
    rw [if_neg (by omega)]
    have h1 := take_all nPt l hc
    have h2 := drop_all nPt l hc
    rw [h1, h2]; simp

/-- the number that digits stand for -/
def val (l : List UInt8) : Nat := l.foldl (fun a c => 10 * a + (c.toNat - 48)) 0
theorem val_snoc (l : List UInt8) (c : UInt8) : val (l ++ [c]) = 10 * val l + (c.toNat - 48) := by unfold val; simp
theorem fold_val (m : List UInt8) (a : Nat) : m.foldl (fun a c => 10 * a + (c.toNat - 48)) a = a * 10 ^ m.length + m.foldl (fun a c => 10 * a + (c.toNat - 48)) 0 := by
  induction m generalizing a with
  | nil => simp
  | cons c m ih =>
    simp only [List.foldl_cons]
    rw [ih (10 * a + (c.toNat - 48)), ih (10 * 0 + (c.toNat - 48))]
    simp only [List.length_cons, Nat.pow_succ, Nat.add_mul, Nat.mul_zero, Nat.zero_add]
    rw [show 10 * a * 10 ^ m.length = a * (10 ^ m.length * 10) by rw [Nat.mul_comm 10 a, Nat.mul_assoc, Nat.mul_comm 10]]
    omega
theorem val_app (l m : List UInt8) : val (l ++ m) = val l * 10 ^ m.length + val m := by
  unfold val; rw [List.foldl_append, fold_val m]
theorem val_take_le (l : List UInt8) (j : Nat) : val (l.take j) ≤ val l := by
  conv => rhs; rw [← List.take_append_drop j l, val_app]
  exact Nat.le_trans (Nat.le_mul_of_pos_right _ (Nat.pow_pos (by omega))) (Nat.le_add_right _ _)
theorem val_zeros (l : List UInt8) (k : Nat) : val (l ++ List.replicate k 48) = val l * 10 ^ k := by
  rw [val_app]
  have : ∀ k, val (List.replicate k 48) = 0 := by
    intro k; induction k with
    | zero => rfl
    | succ k ih => rw [List.replicate_succ', val_snoc, ih]; rfl
  rw [this, List.length_replicate, Nat.add_zero]
theorem rep48 (k : Nat) : Lib.repeatL [48] k = List.replicate k 48 := by
  induction k with
  | zero => rfl
  | succ k ih => rw [Lib.repeatL, ih]; rfl
end Go.Proofs.YtfknmceffkagaaaDoor.dc
