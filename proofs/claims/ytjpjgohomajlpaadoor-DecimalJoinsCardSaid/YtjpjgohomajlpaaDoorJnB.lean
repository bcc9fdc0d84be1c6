/- The joined texts of tokens are read as the same tokens. -/
import Derived.Test.YtjpjgohomajlpaaDoorJnA
namespace Go.Proofs.YtjpjgohomajlpaaDoor
open Go.RowKit
set_option linter.unusedVariables false

theorem step_sp {l : List UInt8} {st : St} {t : List UInt8} (h : l.drop st.pos = 32 :: t) : stepF l st = some ⟨st.pos + 1, st.line, st.ls, st.ts⟩ := by
  obtain ⟨-, hc, -⟩ := drop_of_cons h
  unfold stepF; rw [hc]; exact if_pos (Or.inl rfl)
theorem step_line {l : List UInt8} {st : St} {t : List UInt8} (h : l.drop st.pos = 10 :: t) : stepF l st = some ⟨st.pos + 1, st.line + 1, st.pos + 1, st.ts ++ [⟨4, [], st.line, st.col⟩]⟩ := by
  obtain ⟨-, hc, -⟩ := drop_of_cons h
  unfold stepF; rw [hc, if_neg (by decide), if_pos (by decide)]

theorem slc_at {l : List UInt8} {a : Nat} {x t : List UInt8} (h : l.drop a = x ++ t) : slc l a (a + x.length) = x := by
  unfold slc; rw [h, Nat.add_sub_cancel_left, List.take_left]

theorem step_tok {l : List UInt8} {st : St} {k : Int} {x t : List UInt8} (hk : TokOk k x) (h4 : k ≠ 4) (h : l.drop st.pos = x ++ 32 :: t) :
    stepF l st = some (st.add k x (st.pos + x.length)) := by
  have hsl : slc l st.pos (st.pos + x.length) = x := slc_at h
  cases hk with
  | name c y h1 h2 h3 =>
    have hcl : (97 ≤ c.toNat ∧ c.toNat ≤ 122) ∨ (65 ≤ c.toNat ∧ c.toNat ≤ 90) := by simpa [isLet] using h1
    obtain ⟨-, hc, -⟩ := drop_of_cons h
    have e : eor isWrd l st.pos = st.pos + (c :: y).length := eor_at isWrd l st.pos (c :: y) t 32 h (by simp only [List.all_cons, let_wrd h1, h2]; rfl) (by decide)
    unfold stepF
    rw [hc, if_neg (by omega), if_neg (by omega), if_neg (by omega), if_pos h1, e, if_pos (by simp; omega), hsl]
  | whole c y h1 h2 =>
    have hcl : 48 ≤ c.toNat ∧ c.toNat ≤ 57 := by simpa [isDig] using h1
    have hl0 : ¬ isLet c = true := by simp [isLet]; omega
    obtain ⟨-, hc, -⟩ := drop_of_cons h
    have e : eor isDig l st.pos = st.pos + (c :: y).length := eor_at isDig l st.pos (c :: y) t 32 h (by simp only [List.all_cons, h1, h2]; rfl) (by decide)
    have e2 : eon l st.pos = st.pos + (c :: y).length := by
      unfold eon
      rw [e, if_neg]
      rintro ⟨-, h46, -⟩
      have hd := drop_app h
      obtain ⟨-, hc2, -⟩ := drop_of_cons hd
      rw [hc2] at h46; cases h46
    unfold stepF
    rw [hc, if_neg (by omega), if_neg (by omega), if_neg (by omega), if_neg hl0, if_pos h1, e2, hsl]
  | frac c y d z h1 h2 h3 h5 =>
    have hcl : 48 ≤ c.toNat ∧ c.toNat ≤ 57 := by simpa [isDig] using h1
    have hl0 : ¬ isLet c = true := by simp [isLet]; omega
    obtain ⟨-, hc, -⟩ := drop_of_cons h
    have h' : l.drop st.pos = (c :: y) ++ 46 :: (d :: z ++ 32 :: t) := by rw [h]; simp
    have e : eor isDig l st.pos = st.pos + (c :: y).length := eor_at isDig l st.pos (c :: y) _ 46 h' (by simp only [List.all_cons, h1, h2]; rfl) (by decide)
    have hd := drop_app h'
    obtain ⟨p1, p2, p3⟩ := drop_of_cons hd
    obtain ⟨q1, q2, -⟩ := drop_of_cons p3
    have e3 : eor isDig l (st.pos + (c :: y).length + 1) = st.pos + (c :: y).length + 1 + (d :: z).length := eor_at isDig l _ (d :: z) t 32 p3 (by simp only [List.all_cons, h3, h5]; rfl) (by decide)
    have e2 : eon l st.pos = st.pos + (c :: (y ++ 46 :: d :: z)).length := by
      unfold eon
      rw [e, if_pos ⟨q1, p2, by rw [q2]; exact h3⟩, e3]
      simp; omega
    unfold stepF
    rw [hc, if_neg (by omega), if_neg (by omega), if_neg (by omega), if_neg hl0, if_pos h1, e2, hsl]
  | sym c h1 =>
    have hcl := sym_cases c h1
    have hl0 : ¬ isLet c = true := by simp [isLet]; omega
    have hd0 : ¬ isDig c = true := by simp [isDig]; omega
    obtain ⟨-, hc, -⟩ := drop_of_cons h
    unfold stepF
    rw [hc, if_neg (by omega), if_neg (by omega), if_neg (by omega), if_neg hl0, if_neg hd0, if_pos h1]
    rw [show st.pos + [c].length = st.pos + 1 from rfl] at hsl ⊢
    rw [hsl]
  | nl => exact absurd rfl h4

/-- the joined texts -/
def joinK : List (Int × List UInt8) → List UInt8
  | [] => []
  | p :: r => (if p.1 = 4 then [10] else p.2 ++ [32]) ++ joinK r
def Tok.k (t : Tok) : Int × List UInt8 := (t.kind, t.text)

theorem tokOk_nl {x : List UInt8} (h : TokOk 4 x) : x = [] := by cases h; rfl
theorem tokOk_ne {k : Int} {x : List UInt8} (h : TokOk k x) (h4 : k ≠ 4) : x ≠ [] := by cases h <;> simp at *

theorem reread (l : List UInt8) (xs : List (Int × List UInt8)) : (∀ p ∈ xs, TokOk p.1 p.2) → ∀ st, Inv l st → l.drop st.pos = joinK xs ++ [32] →
    ∃ st', runF l.length l st = (true, st') ∧ st'.ts.map Tok.k = st.ts.map Tok.k ++ xs := by
  induction xs with
  | nil =>
    intro _ st hi h
    have h' : l.drop st.pos = 32 :: [] := h
    obtain ⟨hlt, -, hn⟩ := drop_of_cons h'
    have hs := step_sp h'
    have hv := stepF_inv hi hlt hs
    have hend : ¬ st.pos + 1 < l.length := by
      intro hh
      have := drop_head l (st.pos + 1) hh
      rw [hn] at this; cases this
    refine ⟨_, (runF_step hi hlt hs).trans (runF_end hv.1 hend), ?_⟩
    simp
  | cons p r ih =>
    intro hok st hi h
    have hp := hok p (List.mem_cons_self ..)
    have hr : ∀ q ∈ r, TokOk q.1 q.2 := fun q hq => hok q (List.mem_cons_of_mem _ hq)
    by_cases h4 : p.1 = 4
    · have hx : p.2 = [] := by rw [h4] at hp; exact tokOk_nl hp
      have h' : l.drop st.pos = 10 :: (joinK r ++ [32]) := by rw [h]; show (if p.1 = 4 then [10] else _) ++ _ ++ _ = _; rw [if_pos h4]; rfl
      obtain ⟨hlt, -, hn⟩ := drop_of_cons h'
      have hs := step_line h'
      have hv := stepF_inv hi hlt hs
      obtain ⟨st', h1, h2⟩ := ih hr _ hv.1 hn
      refine ⟨st', (runF_step hi hlt hs).trans h1, ?_⟩
      rw [h2]
      have ep : p = (4, []) := by cases p; simp at h4 hx; simp [h4, hx]
      rw [ep]; simp [Tok.k]
    · have h' : l.drop st.pos = p.2 ++ 32 :: (joinK r ++ [32]) := by rw [h]; show (if p.1 = 4 then [10] else _) ++ _ ++ _ = _; rw [if_neg h4]; simp
      have hlt : st.pos < l.length := by
        rcases Nat.lt_or_ge st.pos l.length with h1 | h1
        · exact h1
        · rw [List.drop_of_length_le h1] at h'; simp at h'
      have hs := step_tok hp h4 h'
      have hv := stepF_inv hi hlt hs
      have hd := drop_app h'
      obtain ⟨hlt2, -, hn2⟩ := drop_of_cons hd
      have hs2 := step_sp (st := st.add p.1 p.2 (st.pos + p.2.length)) hd
      have hv2 := stepF_inv hv.1 hlt2 hs2
      obtain ⟨st', h1, h2⟩ := ih hr _ hv2.1 hn2
      refine ⟨st', ((runF_step hi hlt hs).trans (runF_step hv.1 hlt2 hs2)).trans h1, ?_⟩
      rw [h2]
      simp [St.add, Tok.k]

theorem made_all (f : Nat) (l : List UInt8) (st : St) (hi : Inv l st) (h : ∀ t ∈ st.ts, TokOk t.kind t.text) : ∀ t ∈ (runF f l st).2.ts, TokOk t.kind t.text := by
  induction f generalizing st with
  | zero => exact h
  | succ f ih =>
    rw [runF]
    split
    · rename_i hlt
      cases hs : stepF l st with
      | none => exact h
      | some st' =>
        refine ih st' (stepF_inv hi hlt hs).1 ?_
        rcases tok_made hlt hs with e | ⟨t, e, ht⟩
        · rw [e]; exact h
        · rw [e]; intro u hu
          rcases List.mem_append.1 hu with hu | hu
          · exact h u hu
          · rw [List.mem_singleton] at hu; rw [hu]; exact ht
    · exact h

theorem inv0 (l : List UInt8) : Inv l st0 := ⟨Nat.le_refl _, Nat.zero_le _, Nat.le_refl _, Nat.le_refl _⟩

/-- what the law's Builder holds -/
def joinT (ts : List Tok) : List UInt8 := joinK (ts.map Tok.k)

theorem joinK_app (a b : List (Int × List UInt8)) : joinK (a ++ b) = joinK a ++ joinK b := by
  induction a with
  | nil => rfl
  | cons p a ih => rw [List.cons_append]; show _ ++ joinK (a ++ b) = _ ++ joinK a ++ joinK b; rw [ih, List.append_assoc]

theorem joins (l : List UInt8) (he : tokErr l = 0) : tokErr (joinT (tokTs l)) = 0 ∧ (tokTs (joinT (tokTs l))).map Tok.k = (tokTs l).map Tok.k := by
  have hok : (runF l.length l st0).1 = true := by
    unfold tokErr at he
    by_cases h : (runF l.length l st0).1 = true
    · exact h
    · rw [if_neg h] at he; cases he
  have hts : tokTs l = (runF l.length l st0).2.ts ++ [⟨5, [], (runF l.length l st0).2.line, (runF l.length l st0).2.col⟩] := by unfold tokTs; rw [if_pos hok]
  have hall := made_all l.length l st0 (inv0 l) (by intro t ht; cases ht)
  obtain ⟨us, hus⟩ : ∃ us, us = (runF l.length l st0).2.ts := ⟨_, rfl⟩
  obtain ⟨li, hli⟩ : ∃ x, x = (runF l.length l st0).2.line := ⟨_, rfl⟩
  obtain ⟨co, hco⟩ : ∃ x, x = (runF l.length l st0).2.col := ⟨_, rfl⟩
  rw [← hus] at hts hall
  rw [← hli, ← hco] at hts
  have hj : joinT (tokTs l) = joinK (us.map Tok.k) ++ [32] := by
    rw [hts]; unfold joinT; rw [List.map_append, joinK_app]; rfl
  obtain ⟨j, hjd⟩ : ∃ j, j = joinT (tokTs l) := ⟨_, rfl⟩
  rw [← hjd] at hj ⊢
  obtain ⟨st', h1, h2⟩ := reread j (us.map Tok.k) (by intro p hp; obtain ⟨t, ht, rfl⟩ := List.mem_map.1 hp; exact hall t ht) st0 (inv0 j) (by show j.drop 0 = _; rw [List.drop_zero]; exact hj)
  have h2' : st'.ts.map Tok.k = us.map Tok.k := h2
  constructor
  · unfold tokErr; rw [h1]; rfl
  · unfold tokTs at hts ⊢
    rw [h1, if_pos rfl, hts, List.map_append, List.map_append, h2']; rfl

end Go.Proofs.YtjpjgohomajlpaaDoor
