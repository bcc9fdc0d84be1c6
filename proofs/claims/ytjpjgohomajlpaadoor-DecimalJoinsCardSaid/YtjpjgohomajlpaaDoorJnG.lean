/- How long the joined texts are: plain functions only. -/
import Derived.Test.YtjpjgohomajlpaaDoorJnC
namespace Go.Proofs.YtjpjgohomajlpaaDoor
open Go.RowKit
set_option linter.unusedVariables false

theorem joinT_app (a b : List Tok) : joinT (a ++ b) = joinT a ++ joinT b := by unfold joinT; rw [List.map_append, joinK_app]
theorem joinT_one (t : Tok) : joinT [t] = if t.kind = 4 then [10] else t.text ++ [32] := by
  show (if t.kind = 4 then [10] else t.text ++ [32]) ++ [] = _
  rw [List.append_nil]
theorem joinT_take (ts : List Tok) (k : Nat) (h : k < ts.length) : joinT (ts.take (k + 1)) = joinT (ts.take k) ++ (if ts[k].kind = 4 then [10] else ts[k].text ++ [32]) := by
  rw [List.take_succ_eq_append_getElem h, joinT_app, joinT_one]
theorem joinT_take_len (ts : List Tok) (k : Nat) : (joinT (ts.take k)).length ≤ (joinT ts).length := by
  conv => rhs; rw [← List.take_append_drop k ts, joinT_app]
  simp

theorem len_step {l : List UInt8} {st st' : St} (hi : Inv l st) (h : st.pos < l.length) (hs : stepF l st = some st') (hl : (joinT st.ts).length ≤ 2 * st.pos) : (joinT st'.ts).length ≤ 2 * st'.pos := by
  have hv := stepF_inv hi h hs
  have TK : ∀ (k : Int) (b : Nat), some (st.add k (slc l st.pos b) b) = some st' → (joinT st'.ts).length ≤ 2 * st'.pos := by
    intro k b e
    cases e
    have hlt : st.pos < b := hv.2
    have hsl : (slc l st.pos b).length ≤ b - st.pos := by unfold slc; rw [List.length_take]; omega
    show (joinT (st.ts ++ [_])).length ≤ 2 * b
    rw [joinT_app, joinT_one, List.length_append]
    split
    · simp; omega
    · simp; omega
  unfold stepF at hs
  split at hs
  · cases hs; show (joinT st.ts).length ≤ 2 * (st.pos + 1); omega
  split at hs
  · cases hs
    show (joinT (st.ts ++ [_])).length ≤ 2 * (st.pos + 1)
    rw [joinT_app, joinT_one, if_pos rfl, List.length_append]; simp; omega
  split at hs
  · cases hs
    have := eor_ge notNl l st.pos
    show (joinT st.ts).length ≤ 2 * eor notNl l st.pos; omega
  split at hs
  · split at hs
    · exact TK _ _ hs
    · cases hs
  split at hs
  · exact TK _ _ hs
  split at hs
  · exact TK _ _ hs
  · cases hs

theorem len_all (f : Nat) (l : List UInt8) (st : St) (hi : Inv l st) (hl : (joinT st.ts).length ≤ 2 * st.pos) : (joinT (runF f l st).2.ts).length ≤ 2 * (runF f l st).2.pos := by
  induction f generalizing st with
  | zero => exact hl
  | succ f ih =>
    rw [runF]
    split
    · rename_i hlt
      cases hs : stepF l st with
      | none => exact hl
      | some st' => exact ih st' (stepF_inv hi hlt hs).1 (len_step hi hlt hs hl)
    · exact hl

theorem joinT_len (l : List UInt8) : (joinT (tokTs l)).length ≤ 2 * l.length + 1 := by
  have h1 := len_all l.length l st0 (inv0 l) (Nat.le_refl _)
  have h2 := (runF_inv' l.length l st0 (inv0 l)).pos
  unfold tokTs
  split
  · rw [joinT_app, joinT_one, if_neg (show ¬ (5 : Int) = 4 by decide), List.length_append]; simp; omega
  · show 0 ≤ _; omega

theorem tokTs_lenD (l : List UInt8) : (tokTs l).length ≤ l.length + 1 := by
  unfold tokTs
  split
  · have := runF_inv' l.length l st0 (inv0 l)
    have h1 := this.ts
    have h2 := this.pos
    simp; omega
  · simp

theorem tokTs_last (l : List UInt8) (h : tokErr l = 0) : ∃ us t, tokTs l = us ++ [t] ∧ t.kind = 5 := by
  unfold tokErr at h
  by_cases e : (runF l.length l st0).1 = true
  · unfold tokTs; rw [if_pos e]; exact ⟨_, _, rfl, rfl⟩
  · rw [if_neg e] at h; cases h
theorem tokTs_none (l : List UInt8) (h : tokErr l ≠ 0) : tokTs l = [] := by
  unfold tokErr at h
  by_cases e : (runF l.length l st0).1 = true
  · rw [if_pos e] at h; exact absurd rfl h
  · unfold tokTs; rw [if_neg e]

end Go.Proofs.YtjpjgohomajlpaaDoor
