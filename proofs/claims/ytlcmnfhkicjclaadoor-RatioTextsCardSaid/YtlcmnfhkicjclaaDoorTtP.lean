/- Texts of fractions: plain lists of bytes: the numerals are read again. No run of the model here. -/
import Derived.Test.YtlcmnfhkicjclaaDoorRtT
import Derived.Lib.AtoiAll
import Derived.Lib.IndexMore
namespace Go.Proofs.YtlcmnfhkicjclaaDoor
set_option linter.unusedVariables false

def dgt (c : UInt8) : Bool := decide (48 ≤ c.toNat ∧ c.toNat ≤ 57)
theorem dgt_byte (r : Nat) (h : r < 10) : dgt (UInt8.ofNat (48 + r)) = true ∧ (UInt8.ofNat (48 + r)).toNat = 48 + r := by
  rcases (show r = 0 ∨ r = 1 ∨ r = 2 ∨ r = 3 ∨ r = 4 ∨ r = 5 ∨ r = 6 ∨ r = 7 ∨ r = 8 ∨ r = 9 by omega) with rfl | rfl | rfl | rfl | rfl | rfl | rfl | rfl | rfl | rfl <;> exact ⟨by decide, by decide⟩
theorem dec_all (n : Nat) : (Lib.decDigits n).all dgt = true := by
  induction n using Nat.strongRecOn with
  | ind n ih =>
    by_cases h : n < 10
    · rw [dec_small h, List.all_cons, (dgt_byte n h).1]; rfl
    · rw [dec_big h, List.all_append, ih (n / 10) (by omega), List.all_cons, (dgt_byte (n % 10) (by omega)).1]; rfl
theorem dec_ne (n : Nat) : Lib.decDigits n ≠ [] := by
  intro h
  have := dec_pos n
  rw [h] at this
  simp at this
theorem not_dgt_47 : dgt 47 = false := by decide
theorem dgt_ne {c : UInt8} (h : dgt c = true) : c.toNat ≠ 43 ∧ c.toNat ≠ 45 ∧ c ≠ 47 := by
  unfold dgt at h
  have h := of_decide_eq_true h
  refine ⟨by omega, by omega, ?_⟩
  intro e
  subst e
  revert h
  decide

/-- the numeral's value, byte by byte -/
theorem pu_snoc (l : List UInt8) (c : UInt8) : ∀ acc u, Lib.parseUint10 acc l = .ok u → Lib.parseUint10 acc (l ++ [c]) = Lib.parseUint10 u [c] := by
  induction l with
  | nil =>
    intro acc u h
    simp only [Lib.parseUint10] at h
    injection h with h
    subst h
    rfl
  | cons b r ih =>
    intro acc u h
    rw [List.cons_append]
    rw [Lib.parseUint10] at h ⊢
    by_cases h1 : 48 ≤ b.toNat ∧ b.toNat ≤ 57
    · rw [if_pos h1] at h ⊢
      by_cases h2 : 1844674407370955162 ≤ acc
      · rw [if_pos h2] at h; cases h
      · rw [if_neg h2] at h ⊢
        by_cases h3 : 18446744073709551616 ≤ acc * 10 + (b.toNat - 48)
        · rw [if_pos h3] at h; cases h
        · rw [if_neg h3] at h ⊢
          exact ih _ _ h
    · rw [if_neg h1] at h; cases h
theorem pu_one (acc r : Nat) (hr : r < 10) (ha : acc < 1000000000000) : Lib.parseUint10 acc [UInt8.ofNat (48 + r)] = .ok (acc * 10 + r) := by
  have e := (dgt_byte r hr).2
  rw [Lib.parseUint10, e, if_pos (by omega), if_neg (by omega), if_neg (by omega), Lib.parseUint10]
  congr 1
  omega
theorem pu_dec (n : Nat) : n < 1000000000000 → Lib.parseUint10 0 (Lib.decDigits n) = .ok n := by
  induction n using Nat.strongRecOn with
  | ind n ih =>
    intro hn
    by_cases h : n < 10
    · rw [dec_small h, pu_one 0 n h (by omega)]
      congr 1
      omega
    · rw [dec_big h, pu_snoc _ _ _ _ (ih (n / 10) (by omega) (by omega)), pu_one _ _ (by omega) (by omega)]
      congr 1
      omega
theorem atoi_itoa (n : Int) (h1 : -1073741824 ≤ n) (h2 : n ≤ 1073741824) : Lib.atoiAll (Lib.itoa n) = .ok n := by
  by_cases h : n < 0
  · have e : Lib.itoa n = 45 :: Lib.decDigits n.natAbs := by unfold Lib.itoa; rw [if_pos h]
    rw [e]
    unfold Lib.atoiAll
    have q : (45 : UInt8).toNat = 45 := by decide
    simp only [q]
    rw [if_pos (Or.inr trivial)]
    unfold Lib.parseMag
    rw [if_neg (dec_ne _), pu_dec _ (by omega)]
    have hb : ¬ 9223372036854775808 < n.natAbs := by omega
    simp [hb]
    try omega
  · have e : Lib.itoa n = Lib.decDigits n.toNat := by unfold Lib.itoa; rw [if_neg h]
    rw [e]
    have ha := dec_all n.toNat
    have hp := pu_dec n.toNat (by omega)
    cases hd : Lib.decDigits n.toNat with
    | nil => exact absurd hd (dec_ne _)
    | cons c r =>
      rw [hd] at ha hp
      have hc := dgt_ne (show dgt c = true by rw [List.all_cons, Bool.and_eq_true] at ha; exact ha.1)
      unfold Lib.atoiAll
      have q1 : ¬ (c.toNat = 43 ∨ c.toNat = 45) := by omega
      simp only [if_neg q1]
      unfold Lib.parseMag
      rw [if_neg (by simp), hp]
      show (if ¬ (c.toNat = 45) ∧ 9223372036854775808 ≤ n.toNat then Lib.NumEnd.range else if c.toNat = 45 ∧ 9223372036854775808 < n.toNat then Lib.NumEnd.range else Lib.NumEnd.ok (if c.toNat = 45 then -(n.toNat : Int) else (n.toNat : Int))) = _
      rw [if_neg (by omega), if_neg (by omega), if_neg hc.2.1]
      congr 1
      omega
theorem itoa_47 (n : Int) : ∀ b ∈ Lib.itoa n, b ≠ 47 := by
  intro b hb
  have hd : ∀ m, ∀ b ∈ Lib.decDigits m, b ≠ 47 := fun m b hb => (dgt_ne (List.all_eq_true.1 (dec_all m) b hb)).2.2
  unfold Lib.itoa at hb
  split at hb
  · rcases List.mem_cons.1 hb with rfl | hb
    · decide
    · exact hd _ _ hb
  · exact hd _ _ hb
theorem index_47 : ∀ (X Y : List UInt8), (∀ b ∈ X, b ≠ 47) → Lib.index (X ++ 47 :: Y) [47] = X.length
  | [], Y, _ => by
    rw [List.nil_append, Lib.index]
    simp [List.isPrefixOf]
  | b :: X, Y, h => by
    have hb : b ≠ 47 := h b (List.mem_cons_self ..)
    have ih := index_47 X Y (fun c hc => h c (List.mem_cons_of_mem _ hc))
    rw [List.cons_append, Lib.index, ih, if_neg (by simp [List.isPrefixOf]; exact fun e => hb e.symm)]
    have : ((X.length : Int) == -1) = false := by rw [beq_eq_false_iff_ne]; omega
    rw [this]
    simp
theorem index_no47 : ∀ (X : List UInt8), (∀ b ∈ X, b ≠ 47) → Lib.index X [47] = -1
  | [], _ => by rw [Lib.index]; rfl
  | b :: X, h => by
    have hb : b ≠ 47 := h b (List.mem_cons_self ..)
    have ih := index_no47 X (fun c hc => h c (List.mem_cons_of_mem _ hc))
    rw [Lib.index, ih, if_neg (by simp [List.isPrefixOf]; exact fun e => hb e.symm)]
    rfl
theorem cut_47 (X Y : List UInt8) (h : ∀ b ∈ X, b ≠ 47) : Lib.cut (X ++ 47 :: Y) [47] = (X, Y, true) := by
  unfold Lib.cut
  rw [index_47 X Y h, if_pos (by omega)]
  simp
theorem cut_no47 (X : List UInt8) (h : ∀ b ∈ X, b ≠ 47) : Lib.cut X [47] = (X, [], false) := by
  unfold Lib.cut
  rw [index_no47 X h, if_neg (by omega)]
/-- the two parts that Parse reads -/
def prU (s : List UInt8) : List UInt8 := (Lib.cut s [47]).1
def prL (s : List UInt8) : List UInt8 := if (Lib.cut s [47]).2.2 = true then (Lib.cut s [47]).2.1 else [49]
theorem rtx_parts (n d : Int) (h1 : -1073741824 ≤ n) (h2 : n ≤ 1073741824) (h3 : 1 ≤ d) (h4 : d ≤ 1073741824) : Lib.atoiAll (prU (rtx n d)) = .ok n ∧ Lib.atoiAll (prL (rtx n d)) = .ok d := by
  unfold prU prL rtx
  by_cases h : d = 1
  · subst h
    rw [if_pos rfl, cut_no47 _ (itoa_47 n)]
    exact ⟨atoi_itoa n h1 h2, (show Lib.atoiAll [49] = .ok 1 by decide)⟩
  · rw [if_neg h, cut_47 _ _ (itoa_47 n)]
    exact ⟨atoi_itoa n h1 h2, atoi_itoa d (by omega) h4⟩
/-- the text determines the fraction -/
theorem rtx_inj {n d n2 d2 : Int} (hk : rok n d = true) (hk2 : rok n2 d2 = true) (e : rtx n d = rtx n2 d2) : n = n2 ∧ d = d2 := by
  have h := (rok_iff _ _).1 hk
  have h2 := (rok_iff _ _).1 hk2
  have a := rtx_parts n d (by omega) (by omega) (by omega) (by omega)
  have b := rtx_parts n2 d2 (by omega) (by omega) (by omega) (by omega)
  rw [e] at a
  have q1 := a.1.symm.trans b.1
  have q2 := a.2.symm.trans b.2
  injection q1 with q1
  injection q2 with q2
  exact ⟨q1, q2⟩

/-- a run of at most f digits, behind what was read before -/
def run : Nat → List UInt8 → Nat → Nat × Nat
  | 0, _, acc => (acc, 0)
  | _ + 1, [], acc => (acc, 0)
  | f + 1, c :: r, acc => if dgt c = true then ((run f r (10 * acc + (c.toNat - 48))).1, (run f r (10 * acc + (c.toNat - 48))).2 + 1) else (acc, 0)
theorem run_snoc (D : List UInt8) (c : UInt8) (hD : D.all dgt = true) (hc : dgt c = true) : ∀ f acc, D.length < f → run f (D ++ [c]) acc = (10 * (run f D acc).1 + (c.toNat - 48), D.length + 1) ∧ (run f D acc).2 = D.length := by
  induction D with
  | nil =>
    intro f acc hf
    obtain ⟨f, rfl⟩ : ∃ g, f = g + 1 := ⟨f - 1, by simp at hf; omega⟩
    rw [List.nil_append]
    simp only [run, hc, if_pos]
    cases f <;> simp [run]
  | cons b r ih =>
    intro f acc hf
    obtain ⟨f, rfl⟩ : ∃ g, f = g + 1 := ⟨f - 1, by simp at hf; omega⟩
    rw [List.all_cons, Bool.and_eq_true] at hD
    rw [List.cons_append]
    simp only [run, hD.1, if_pos]
    have := ih hD.2 f (10 * acc + (b.toNat - 48)) (by simpa using hf)
    rw [this.1, this.2]
    simp
theorem run_dec (n : Nat) : ∀ f, (Lib.decDigits n).length ≤ f → run f (Lib.decDigits n) 0 = (n, (Lib.decDigits n).length) := by
  induction n using Nat.strongRecOn with
  | ind n ih =>
    intro f hf
    by_cases h : n < 10
    · rw [dec_small h] at hf ⊢
      have := run_snoc [] (UInt8.ofNat (48 + n)) rfl (dgt_byte n h).1 f 0 (by simp at hf; show 0 < f; omega)
      rw [List.nil_append] at this
      rw [this.1, (dgt_byte n h).2]
      cases f with
      | zero => simp at hf
      | succ f => simp [run]
    · rw [dec_big h] at hf ⊢
      have hl : (Lib.decDigits (n / 10)).length < f := by simp at hf; omega
      have := run_snoc _ (UInt8.ofNat (48 + n % 10)) (dec_all (n / 10)) (dgt_byte (n % 10) (by omega)).1 f 0 hl
      rw [this.1, ih (n / 10) (by omega) f (by omega), (dgt_byte (n % 10) (by omega)).2]
      simp
      omega
/-- what follows a run of digits and is none ends it -/
theorem run_end (D Y : List UInt8) (c : UInt8) (hc : dgt c = false) : ∀ f acc, D.length < f → D.all dgt = true → run f (D ++ c :: Y) acc = run f D acc := by
  induction D with
  | nil =>
    intro f acc hf _
    obtain ⟨f, rfl⟩ : ∃ g, f = g + 1 := ⟨f - 1, by simp at hf; omega⟩
    simp [run, hc]
  | cons b r ih =>
    intro f acc hf hD
    obtain ⟨f, rfl⟩ : ∃ g, f = g + 1 := ⟨f - 1, by simp at hf; omega⟩
    rw [List.all_cons, Bool.and_eq_true] at hD
    rw [List.cons_append]
    simp only [run, hD.1, if_pos]
    rw [ih f _ (by simpa using hf) hD.2]
theorem run_bd : ∀ f l acc, (run f l acc).2 ≤ f ∧ (run f l acc).2 ≤ l.length
  | 0, l, acc => by simp [run]
  | f + 1, [], acc => by simp [run]
  | f + 1, c :: r, acc => by
    have := run_bd f r (10 * acc + (c.toNat - 48))
    simp only [run]
    split
    · simp only [List.length_cons]; omega
    · simp
theorem run_val : ∀ f l acc, (run f l acc).1 < (acc + 1) * 10 ^ f
  | 0, l, acc => by simp [run]
  | f + 1, [], acc => by
    simp only [run]
    have := Nat.pow_pos (n := f + 1) (show 0 < 10 by omega)
    have h2 := Nat.mul_le_mul_left (acc + 1) (show 1 ≤ 10 ^ (f + 1) by omega)
    omega
  | f + 1, c :: r, acc => by
    have hr := run_val f r (10 * acc + (c.toNat - 48))
    simp only [run]
    split
    · rename_i h
      unfold dgt at h
      have h := of_decide_eq_true h
      refine Nat.lt_of_lt_of_le hr ?_
      rw [Nat.pow_succ, Nat.mul_comm (10 ^ f) 10, ← Nat.mul_assoc]
      exact Nat.mul_le_mul_right _ (by omega)
    · have := Nat.pow_pos (n := f + 1) (show 0 < 10 by omega)
      have h2 := Nat.mul_le_mul_left (acc + 1) (show 1 ≤ 10 ^ (f + 1) by omega)
      show acc < _
      omega
end Go.Proofs.YtlcmnfhkicjclaaDoor
