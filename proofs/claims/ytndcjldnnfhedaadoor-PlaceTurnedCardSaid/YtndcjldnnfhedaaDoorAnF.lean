/- Angle: texts are read back. No run of the model here. -/
import Derived.Test.YtndcjldnnfhedaaDoorAnE
namespace Go.Proofs.YtndcjldnnfhedaaDoor
set_option linter.unusedVariables false

theorem dch_dig (n : Nat) : isDig (dch n) = true := by unfold isDig; rw [dch_toNat, decide_eq_true_eq]; omega
theorem digs_all (k n : Nat) : (digs k n).all isDig = true := by
  induction k generalizing n with
  | zero => rfl
  | succ k ih => rw [digs, List.all_append, ih]; simp [dch_dig]
theorem val_digs (k n : Nat) : val (digs k n) = n % 10 ^ k := by
  induction k generalizing n with
  | zero => simp [digs, val]; omega
  | succ k ih =>
    rw [digs, val_snoc, ih, dch_toNat]
    have h : n % 10 ^ (k + 1) = 10 * (n / 10 % 10 ^ k) + n % 10 := by
      rw [show (10 : Nat) ^ (k + 1) = 10 * 10 ^ k by rw [Nat.pow_succ, Nat.mul_comm], Nat.mod_mul]; omega
    omega
theorem take_dig (X Y : List UInt8) (c : UInt8) (h : X.all isDig = true) (hc : isDig c = false) : (X ++ c :: Y).takeWhile isDig = X ∧ (X ++ c :: Y).dropWhile isDig = c :: Y := by
  induction X with
  | nil => simp [hc]
  | cons b X ih =>
    simp only [List.all_cons, Bool.and_eq_true] at h
    have := ih h.2
    simp only [List.cons_append, List.takeWhile_cons, List.dropWhile_cons, h.1, if_true]
    exact ⟨by rw [this.1], this.2⟩
theorem dig_45 : isDig 45 = false := by decide
theorem digs_top (m : Nat) (hm : m ≤ 1152921504606846976) : digs (rcnt m 1) m ≠ [] ∧ ¬ (1 < (digs (rcnt m 1) m).length ∧ (digs (rcnt m 1) m).head? = some 48) := by
  have h1 := rcnt_ge m 1
  have hz := rcnt_zero m 1 hm
  obtain ⟨c, hc⟩ : ∃ c, rcnt m 1 = c + 1 := ⟨rcnt m 1 - 1, by omega⟩
  rw [hc]
  refine ⟨by rw [digs_cons]; simp, ?_⟩
  rw [digs_length, digs_cons]
  intro ⟨h2, h3⟩
  have hp := rcnt_go m 1 c (by omega) (by omega)
  rw [hc, Nat.pow_succ, ← Nat.div_div_eq_div_mul] at hz
  simp only [List.head?_cons, Option.some.injEq] at h3
  have := congrArg UInt8.toNat h3
  rw [dch_toNat] at this
  have e2 : (48 : UInt8).toNat = 48 := rfl
  omega
theorem val_top (m : Nat) (hm : m ≤ 1152921504606846976) : val (digs (rcnt m 1) m) = m := by
  rw [val_digs]
  have hz := rcnt_zero m 1 hm
  rw [Nat.div_eq_zero_iff] at hz
  rcases hz with h | h
  · exact absurd h (by have := Nat.pow_pos (a := 10) (n := rcnt m 1) (by omega); omega)
  · exact Nat.mod_eq_of_lt h
theorem frP_text (f : Nat) (hf : f < 1000) : frP (46 :: fracT f) = some f := by
  rw [frP_cons]
  unfold fracT
  by_cases h : f % 100 = 0
  · rw [if_pos h, if_pos ⟨rfl, by rw [digs_length]; omega, by rw [digs_length]; omega, digs_all _ _⟩, digs_length]
    show some (val (digs 1 (f / 100) ++ [48, 48])) = some f
    rw [show digs 1 (f / 100) ++ [48, 48] = (digs 1 (f / 100) ++ [48]) ++ [48] by simp, val_snoc, val_snoc, val_digs]
    have e2 : (48 : UInt8).toNat = 48 := rfl
    rw [e2]
    congr 1
    omega
  · rw [if_neg h, if_pos ⟨rfl, by rw [digs_length]; omega, by rw [digs_length]; omega, digs_all _ _⟩, digs_length]
    show some (val (digs 3 f ++ [])) = some f
    rw [List.append_nil, val_digs]
    congr 1
    omega
theorem mnP_text (m f : Nat) (hm : m < 60) (hf : f < 1000) : mnP (45 :: (digs 2 m ++ 46 :: fracT f)) = some (m, f) := by
  have e : digs 2 m = [dch (m / 10), dch m] := by rw [digs, digs, digs]; rfl
  rw [e]
  show mnP (45 :: dch (m / 10) :: dch m :: 46 :: fracT f) = _
  rw [mnP_cons, if_pos ⟨rfl, dch_dig _, dch_dig _, by rw [dch_toNat]; omega⟩, frP_text f hf, dch_toNat, dch_toNat]
  simp only [Option.map_some]
  congr 2
  omega
theorem boP_text (a : Nat) (ha : a ≤ 1099511627776) : boP (bodyT a) = some (a / 60000, a % 60000 / 1000, a % 1000) := by
  have hq : a / 60000 ≤ 1152921504606846976 := by omega
  obtain ⟨t1, t2⟩ := take_dig (digs (rcnt (a / 60000) 1) (a / 60000)) (digs 2 (a % 60000 / 1000) ++ 46 :: fracT (a % 1000)) 45 (digs_all _ _) dig_45
  obtain ⟨n1, n2⟩ := digs_top (a / 60000) hq
  unfold boP bodyT
  rw [t1, t2, if_neg (fun h => h.elim n1 n2), mnP_text _ _ (by omega) (by omega), val_top _ hq]
  rfl
theorem bodyT_head (a : Nat) (ha : a ≤ 1099511627776) : sgP (bodyT a) = false := by
  have hq : a / 60000 ≤ 1152921504606846976 := by omega
  obtain ⟨c, hc⟩ : ∃ c, rcnt (a / 60000) 1 = c + 1 := ⟨rcnt (a / 60000) 1 - 1, by have := rcnt_ge (a / 60000) 1; omega⟩
  unfold sgP bodyT
  rw [hc, digs_cons]
  simp only [List.cons_append, List.head?_cons, Option.some.injEq]
  rw [decide_eq_false_iff_not]
  intro h
  have := dch_dig (a / 60000 / 10 ^ c)
  rw [h] at this
  exact absurd this (by decide)
theorem text_back (n : Int) (h : inA n = true) : paV (textT n) = n ∧ paE (textT n) = 0 := by
  have hn := (inA_iff _).1 h
  obtain ⟨a, ha⟩ : ∃ a, n.natAbs = a := ⟨_, rfl⟩
  have hb := boP_text a (by omega)
  have hd : ¬ (18325193 < a / 60000 ∨ 1099511627776 < a) := by omega
  have he : a / 60000 * 60000 + a % 60000 / 1000 * 1000 + a % 1000 = a := by omega
  by_cases k : n < 0
  · have e1 : textT n = 45 :: bodyT a := by unfold textT; rw [if_pos k, ha]
    have s1 : sgP (45 :: bodyT a) = true := rfl
    have u1 : unP (45 :: bodyT a) = bodyT a := by unfold unP; rw [if_pos s1]; rfl
    rw [e1]
    unfold paV paE
    rw [u1, hb]
    simp only [he, if_neg hd, if_pos s1]
    exact ⟨by omega, trivial⟩
  · have e1 : textT n = bodyT a := by unfold textT; rw [if_neg k, ha]
    have s1 := bodyT_head a (by omega)
    have u1 : unP (bodyT a) = bodyT a := by unfold unP; rw [if_neg (by rw [s1]; simp)]
    rw [e1]
    unfold paV paE
    rw [u1, hb]
    simp only [he, if_neg hd, s1]
    exact ⟨by simp; omega, trivial⟩
end Go.Proofs.YtndcjldnnfhedaaDoor
