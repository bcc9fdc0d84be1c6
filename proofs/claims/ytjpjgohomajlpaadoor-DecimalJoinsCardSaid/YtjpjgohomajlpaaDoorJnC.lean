/- Each token stands in the text at its position: plain functions only. -/
import Derived.Test.YtjpjgohomajlpaaDoorJnB
namespace Go.Proofs.YtjpjgohomajlpaaDoor
open Go.RowKit
set_option linter.unusedVariables false

/-- the lines of a text -/
def linesF : List UInt8 → List (List UInt8)
  | [] => [[]]
  | c :: l => if c.toNat = 10 then [] :: linesF l else ((c :: (linesF l).headD []) :: (linesF l).tail)

theorem linesF_ne (l : List UInt8) : linesF l ≠ [] := by
  cases l with
  | nil => simp [linesF]
  | cons c l => unfold linesF; split <;> simp

theorem linesF_head (l : List UInt8) : (linesF l).headD [] = l.takeWhile notNl := by
  induction l with
  | nil => rfl
  | cons c l ih =>
    unfold linesF
    split
    · rename_i h
      rw [List.takeWhile_cons, if_neg (by unfold notNl; simp [h])]; rfl
    · rename_i h
      rw [List.takeWhile_cons, if_pos (by unfold notNl; simp [h])]
      show c :: (linesF l).headD [] = _
      rw [ih]

theorem linesF_nl (x t : List UInt8) (c : UInt8) (hx : x.all notNl = true) (hc : c.toNat = 10) : linesF (x ++ c :: t) = x :: linesF t := by
  induction x with
  | nil => rw [List.nil_append, linesF, if_pos hc]
  | cons a x ih =>
    simp only [List.all_cons, Bool.and_eq_true] at hx
    have ha : a.toNat ≠ 10 := by have := hx.1; unfold notNl at this; rw [decide_eq_true_eq] at this; exact this
    rw [List.cons_append, linesF, if_neg ha, ih hx.2]; rfl

structure PosInv (l : List UInt8) (st : St) : Prop where
  one : 1 ≤ st.line
  lines : (linesF l).drop (st.line - 1) = linesF (l.drop st.ls)
  le : st.ls ≤ st.pos
  no : (slc l st.ls st.pos).all notNl = true

theorem slc_split (l : List UInt8) (a b c : Nat) (h1 : a ≤ b) (h2 : b ≤ c) : slc l a c = slc l a b ++ slc l b c := by
  unfold slc
  have e : (l.drop b) = (l.drop a).drop (b - a) := by rw [List.drop_drop]; congr 1; omega
  rw [e, show c - a = (b - a) + (c - b) by omega, List.take_add]

theorem drop_slc (l : List UInt8) (a b : Nat) (h1 : a ≤ b) : l.drop a = slc l a b ++ l.drop b := by
  unfold slc
  have e : (l.drop b) = (l.drop a).drop (b - a) := by rw [List.drop_drop]; congr 1; omega
  rw [e, List.take_append_drop]

theorem tokOk_no {k : Int} {x : List UInt8} (h : TokOk k x) : x.all notNl = true := by
  have W : ∀ c, isWrd c = true → notNl c = true := by intro c h; simp [isWrd, notNl] at *; omega
  have D : ∀ c, isDig c = true → notNl c = true := fun c h => W c (dig_wrd h)
  have WA : ∀ x : List UInt8, x.all isWrd = true → x.all notNl = true := by
    intro x hx; rw [List.all_eq_true] at *; exact fun c hc => W c (hx c hc)
  have DA : ∀ x : List UInt8, x.all isDig = true → x.all notNl = true := by
    intro x hx; rw [List.all_eq_true] at *; exact fun c hc => D c (hx c hc)
  cases h with
  | name c x h1 h2 h3 => rw [List.all_cons, W c (let_wrd h1), WA x h2]; rfl
  | whole c x h1 h2 => rw [List.all_cons, D c h1, DA x h2]; rfl
  | frac c x d y h1 h2 h3 h4 =>
    rw [List.all_cons, List.all_append, List.all_cons, List.all_cons, D c h1, DA x h2, D d h3, DA y h4]; rfl
  | sym c h1 =>
    have hcl := sym_cases c h1
    rw [List.all_cons]
    have : notNl c = true := by unfold notNl; rw [decide_eq_true_eq]; omega
    rw [this]; rfl
  | nl => rfl

/-- a token stands where it says -/
def TokAt (l : List UInt8) (t : Tok) : Prop :=
  ∃ n k : Nat, ∃ y, t.line = ((n + 1 : Nat) : Int) ∧ t.col = ((k + 1 : Nat) : Int) ∧ (linesF l)[n]? = some y ∧ k ≤ y.length ∧ ∃ r, y.drop k = t.text ++ r

theorem slc_len (l : List UInt8) (a b : Nat) (h : b ≤ l.length) (hab : a ≤ b) : (slc l a b).length = b - a := by
  unfold slc; rw [List.length_take, List.length_drop]; omega

theorem tokAt_of {l : List UInt8} {st : St} (hi : st.pos ≤ l.length) (hp : PosInv l st) (k : Int) (x r : List UInt8) (hx : x.all notNl = true) (hd : l.drop st.pos = x ++ r) : TokAt l ⟨k, x, st.line, st.col⟩ := by
  obtain ⟨h1, h2, h3, h4⟩ := hp
  have hz := drop_slc l st.ls st.pos h3
  have hy : (linesF (l.drop st.ls)).headD [] = slc l st.ls st.pos ++ (x ++ r.takeWhile notNl) := by
    rw [linesF_head]
    conv => lhs; rw [hz, hd]
    rw [List.takeWhile_append_of_pos (fun c hc => (List.all_eq_true.1 h4) c hc), List.takeWhile_append_of_pos (fun c hc => (List.all_eq_true.1 hx) c hc)]
  have hlen := slc_len l st.ls st.pos hi h3
  have hget : (linesF l)[st.line - 1]? = some ((linesF (l.drop st.ls)).headD []) := by
    rw [← List.head?_drop, h2]
    have := linesF_ne (l.drop st.ls)
    cases h : linesF (l.drop st.ls) with
    | nil => exact absurd h this
    | cons a b => rfl
  refine ⟨st.line - 1, st.pos - st.ls, _, ?_, ?_, hget, ?_, r.takeWhile notNl, ?_⟩
  · show (st.line : Int) = _; omega
  · show st.col = _; unfold St.col; omega
  · rw [hy, List.length_append, hlen]; omega
  · rw [hy, ← hlen, List.drop_left]

theorem no_move {l : List UInt8} {st : St} (hp : PosInv l st) (b : Nat) (ts : List Tok) (hb : st.pos ≤ b) (hno : (slc l st.pos b).all notNl = true) : PosInv l ⟨b, st.line, st.ls, ts⟩ := by
  refine ⟨hp.one, hp.lines, Nat.le_trans hp.le hb, ?_⟩
  show (slc l st.ls b).all notNl = true
  rw [slc_split l st.ls st.pos b hp.le hb, List.all_append, hp.no, hno]; rfl

theorem slc_one (l : List UInt8) (a : Nat) (h : a < l.length) : slc l a (a + 1) = [l.getD a 0] := by
  unfold slc; rw [drop_head l a h, Nat.add_sub_cancel_left]; rfl
theorem notNl_of {c : UInt8} (h : c.toNat ≠ 10) : [c].all notNl = true := by simp [notNl, h]

/-- one step: the position stays true, and a token that is made stands where it says -/
theorem pos_step {l : List UInt8} {st st' : St} (hi : Inv l st) (hp : PosInv l st) (h : st.pos < l.length) (hs : stepF l st = some st') :
    PosInv l st' ∧ (st'.ts = st.ts ∨ ∃ t, st'.ts = st.ts ++ [t] ∧ TokAt l t) := by
  have hv := stepF_inv hi h hs
  have hm := tok_made h hs
  have hle := hi.pos
  have TK : ∀ (k : Int) (b : Nat), some (st.add k (slc l st.pos b) b) = some st' → PosInv l st' ∧ (st'.ts = st.ts ∨ ∃ t, st'.ts = st.ts ++ [t] ∧ TokAt l t) := by
    intro k b e
    cases e
    have hlt : st.pos < b := hv.2
    rcases hm with e | ⟨t, e, ht⟩
    · have := congrArg List.length e; simp [St.add] at this
    · have et : [(⟨k, slc l st.pos b, st.line, st.col⟩ : Tok)] = [t] := List.append_cancel_left e
      cases et
      have hno := tokOk_no ht
      exact ⟨no_move hp b _ (Nat.le_of_lt hlt) hno, .inr ⟨_, rfl, tokAt_of hle hp k _ _ hno (drop_slc l st.pos b (Nat.le_of_lt hlt))⟩⟩
  unfold stepF at hs
  split at hs
  · rename_i hc
    cases hs
    exact ⟨no_move hp _ _ (by omega) (by rw [slc_one l _ h]; exact notNl_of (by omega)), .inl rfl⟩
  split at hs
  · rename_i hc
    cases hs
    refine ⟨⟨by show 1 ≤ st.line + 1; omega, ?_, Nat.le_refl _, ?_⟩, .inr ⟨_, rfl, tokAt_of hle hp 4 [] _ rfl rfl⟩⟩
    · show (linesF l).drop (st.line + 1 - 1) = linesF (l.drop (st.pos + 1))
      have e1 : st.line + 1 - 1 = (st.line - 1) + 1 := by have := hp.one; omega
      rw [e1, ← List.drop_drop, hp.lines, drop_slc l st.ls st.pos hp.le, drop_head l st.pos h, linesF_nl _ _ _ hp.no hc]; rfl
    · show (slc l (st.pos + 1) (st.pos + 1)).all notNl = true
      unfold slc; simp
  split at hs
  · cases hs
    exact ⟨no_move hp _ _ (eor_ge _ _ _) (by rw [slc_eor]; exact all_tw _ _), .inl rfl⟩
  split at hs
  · split at hs
    · exact TK _ _ hs
    · cases hs
  split at hs
  · exact TK _ _ hs
  split at hs
  · exact TK _ _ hs
  · cases hs

theorem runF_inv' (f : Nat) (l : List UInt8) (st : St) (h : Inv l st) : Inv l (runF f l st).2 := by
  induction f generalizing st with
  | zero => exact h
  | succ f ih =>
    rw [runF]
    split
    · rename_i hlt
      cases hs : stepF l st with
      | none => exact h
      | some st' => exact ih st' (stepF_inv h hlt hs).1
    · exact h

theorem pos_all (f : Nat) (l : List UInt8) (st : St) (hi : Inv l st) (hp : PosInv l st) (h : ∀ t ∈ st.ts, TokAt l t) : PosInv l (runF f l st).2 ∧ ∀ t ∈ (runF f l st).2.ts, TokAt l t := by
  induction f generalizing st with
  | zero => exact ⟨hp, h⟩
  | succ f ih =>
    rw [runF]
    split
    · rename_i hlt
      cases hs : stepF l st with
      | none => exact ⟨hp, h⟩
      | some st' =>
        obtain ⟨hp', ht⟩ := pos_step hi hp hlt hs
        refine ih st' (stepF_inv hi hlt hs).1 hp' ?_
        rcases ht with e | ⟨t, e, ht⟩
        · rw [e]; exact h
        · rw [e]; intro u hu
          rcases List.mem_append.1 hu with hu | hu
          · exact h u hu
          · rw [List.mem_singleton] at hu; rw [hu]; exact ht
    · exact ⟨hp, h⟩

theorem tokens_at (l : List UInt8) : ∀ t ∈ tokTs l, TokAt l t := by
  have h0 : PosInv l st0 := ⟨Nat.le_refl _, rfl, Nat.le_refl _, by unfold slc; simp [st0]⟩
  have hall := pos_all l.length l st0 (inv0 l) h0 (by intro t ht; cases ht)
  unfold tokTs
  split
  · intro t ht
    rcases List.mem_append.1 ht with ht | ht
    · exact hall.2 t ht
    · rw [List.mem_singleton] at ht
      rw [ht]
      exact tokAt_of (runF_inv' l.length l st0 (inv0 l)).pos hall.1 5 [] _ rfl rfl
  · intro t ht; cases ht

end Go.Proofs.YtjpjgohomajlpaaDoor
