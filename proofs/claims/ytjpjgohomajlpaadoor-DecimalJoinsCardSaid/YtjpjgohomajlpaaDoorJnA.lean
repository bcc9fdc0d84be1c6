/- What the tokens' texts are, and that they are read again from their joined texts: plain functions only. -/
import Derived.Test.YtjpjgohomajlpaaDoorTokD
namespace Go.Proofs.YtjpjgohomajlpaaDoor
open Go.RowKit
set_option linter.unusedVariables false

/-- the kinds and texts that the reader makes -/
inductive TokOk : Int → List UInt8 → Prop
  | name (c : UInt8) (x : List UInt8) : isLet c = true → x.all isWrd = true → x.length + 1 ≤ 20 → TokOk 1 (c :: x)
  | whole (c : UInt8) (x : List UInt8) : isDig c = true → x.all isDig = true → TokOk 2 (c :: x)
  | frac (c : UInt8) (x : List UInt8) (d : UInt8) (y : List UInt8) : isDig c = true → x.all isDig = true → isDig d = true → y.all isDig = true → TokOk 2 (c :: (x ++ 46 :: d :: y))
  | sym (c : UInt8) : isSym c = true → TokOk 3 [c]
  | nl : TokOk 4 []

theorem slc_eor (p : UInt8 → Bool) (l : List UInt8) (a : Nat) : slc l a (eor p l a) = (l.drop a).takeWhile p := by
  unfold slc eor
  rw [Nat.add_sub_cancel_left]
  exact (List.prefix_iff_eq_take.1 (List.takeWhile_prefix p)).symm

theorem drop_head (l : List UInt8) (a : Nat) (h : a < l.length) : l.drop a = l.getD a 0 :: l.drop (a + 1) := by
  rw [getD_get l a h]; exact List.drop_eq_getElem_cons h

theorem drop_of_cons {l : List UInt8} {a : Nat} {c : UInt8} {t : List UInt8} (h : l.drop a = c :: t) : a < l.length ∧ l.getD a 0 = c ∧ l.drop (a + 1) = t := by
  have hlt : a < l.length := by
    rcases Nat.lt_or_ge a l.length with h1 | h1
    · exact h1
    · rw [List.drop_of_length_le h1] at h; cases h
  have e := drop_head l a hlt
  rw [h] at e
  cases e
  exact ⟨hlt, rfl, rfl⟩

theorem drop_app {l : List UInt8} {a : Nat} {x t : List UInt8} (h : l.drop a = x ++ t) : l.drop (a + x.length) = t := by
  rw [← List.drop_drop, h, List.drop_left]

theorem takeWhile_app (p : UInt8 → Bool) (x t : List UInt8) (c : UInt8) (hx : x.all p = true) (hc : p c = false) : (x ++ c :: t).takeWhile p = x := by
  induction x with
  | nil => simp [hc]
  | cons a x ih =>
    simp only [List.all_cons, Bool.and_eq_true] at hx
    rw [List.cons_append, List.takeWhile_cons, if_pos hx.1, ih hx.2]

theorem eor_at (p : UInt8 → Bool) (l : List UInt8) (a : Nat) (x t : List UInt8) (c : UInt8) (h : l.drop a = x ++ c :: t) (hx : x.all p = true) (hc : p c = false) : eor p l a = a + x.length := by
  unfold eor; rw [h, takeWhile_app p x t c hx hc]

theorem all_tw (p : UInt8 → Bool) (x : List UInt8) : (x.takeWhile p).all p = true := by
  induction x with
  | nil => rfl
  | cons a x ih =>
    rw [List.takeWhile_cons]
    cases h : p a
    · simp
    · simp [h]

theorem tok_made {l : List UInt8} {st st' : St} (h : st.pos < l.length) (hs : stepF l st = some st') : st'.ts = st.ts ∨ ∃ t, st'.ts = st.ts ++ [t] ∧ TokOk t.kind t.text := by
  have hd := drop_head l st.pos h
  obtain ⟨c, hc⟩ : ∃ c, c = l.getD st.pos 0 := ⟨_, rfl⟩
  rw [← hc] at hd
  unfold stepF at hs
  rw [← hc] at hs
  split at hs
  · cases hs; exact .inl rfl
  split at hs
  · cases hs; exact .inr ⟨_, rfl, .nl⟩
  split at hs
  · cases hs; exact .inl rfl
  split at hs
  · rename_i hl
    split at hs
    · rename_i hlen
      cases hs
      refine .inr ⟨_, rfl, ?_⟩
      show TokOk 1 (slc l st.pos (eor isWrd l st.pos))
      have e : (l.drop st.pos).takeWhile isWrd = c :: (l.drop (st.pos + 1)).takeWhile isWrd := by rw [hd, List.takeWhile_cons, if_pos (let_wrd hl)]
      rw [slc_eor, e]
      refine .name _ _ hl (all_tw _ _) ?_
      unfold eor at hlen; rw [e] at hlen; simp at hlen; omega
    · cases hs
  split at hs
  · rename_i hdg
    cases hs
    refine .inr ⟨_, rfl, ?_⟩
    show TokOk 2 (slc l st.pos (eon l st.pos))
    have e : (l.drop st.pos).takeWhile isDig = c :: (l.drop (st.pos + 1)).takeWhile isDig := by rw [hd, List.takeWhile_cons, if_pos hdg]
    unfold eon
    split
    · rename_i hf
      obtain ⟨f1, f2, f3⟩ := hf
      obtain ⟨e1, he1⟩ : ∃ e1, e1 = eor isDig l st.pos := ⟨_, rfl⟩
      rw [← he1] at f1 f2 f3 ⊢
      have hD : slc l st.pos e1 = c :: (l.drop (st.pos + 1)).takeWhile isDig := by rw [he1, slc_eor, e]
      have hge : st.pos ≤ e1 := by rw [he1]; exact eor_ge _ _ _
      have hge2 := eor_ge isDig l (e1 + 1)
      have d1 := drop_head l e1 (by omega)
      have d2 := drop_head l (e1 + 1) f1
      rw [f2] at d1
      have e2 : (l.drop (e1 + 1)).takeWhile isDig = l.getD (e1 + 1) 0 :: (l.drop (e1 + 1 + 1)).takeWhile isDig := by rw [d2, List.takeWhile_cons, if_pos f3]
      have hsp : slc l st.pos (eor isDig l (e1 + 1)) = slc l st.pos e1 ++ 46 :: slc l (e1 + 1) (eor isDig l (e1 + 1)) := by
        unfold slc
        have hs1 : l.drop st.pos = (l.drop st.pos).take (e1 - st.pos) ++ l.drop e1 := by
          have := (List.take_append_drop (e1 - st.pos) (l.drop st.pos)).symm
          rw [List.drop_drop, show st.pos + (e1 - st.pos) = e1 by omega] at this
          exact this
        have hlen : ((l.drop st.pos).take (e1 - st.pos)).length = e1 - st.pos := by rw [List.length_take, List.length_drop]; omega
        conv => lhs; rw [hs1]
        rw [List.take_append, hlen, List.take_of_length_le (by omega), d1]
        rw [show eor isDig l (e1 + 1) - st.pos - (e1 - st.pos) = (eor isDig l (e1 + 1) - (e1 + 1)) + 1 by omega, List.take_succ_cons]
      rw [hsp, hD, slc_eor, e2, List.cons_append]
      exact .frac _ _ _ _ hdg (all_tw _ _) f3 (all_tw _ _)
    · rw [slc_eor, e]; exact .whole _ _ hdg (all_tw _ _)
  split at hs
  · rename_i hsy
    cases hs
    refine .inr ⟨_, rfl, ?_⟩
    show TokOk 3 (slc l st.pos (st.pos + 1))
    have e : slc l st.pos (st.pos + 1) = [c] := by unfold slc; rw [hd, Nat.add_sub_cancel_left]; rfl
    rw [e]; exact .sym c hsy
  · cases hs

end Go.Proofs.YtjpjgohomajlpaaDoor
