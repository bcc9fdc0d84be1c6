/- slices.Equal at two lists of tokens that are one; both Tokens at a text that is too long. -/
import Derived.Test.YtijgaenfhmgcoaaTokI
namespace Go.Proofs.Ytijgaenfhmgcoaa
open Go.RowKit
set_option linter.unusedVariables false

set_option maxHeartbeats 1000000 in
set_option maxRecDepth 100000 in
theorem equal_none (a1 a2 : Option Addr) (c1 c2 : Nat) (w : World) :
    Calls Try.prog 20 #[.slice a1 0 c1, .slice a2 0 c2] w fun e w' => e = .returned (.bool true) ∧ ∃ q, w' = w.drewN q := by
  go_enter Try.func20, Try.ntmps20
  go_wp2_with fail
  go_loopg [13] 1 (fun m v wr => m = 1 ∧ v = .int .i64 0 ∧ w = wr)
  case atStart => exact ⟨rfl, rfl, rfl⟩
  case round =>
    obtain ⟨rfl, rfl, rfl⟩ := hrel
    go_wp2_with fail
    go_ret
    exact ⟨rfl, 0, rfl⟩

theorem equal_any (v1 v2 : Value) (B1 B2 : Nat) (ts : List Tok) (w : World) (hl : ts.length ≤ 70000)
    (h1 : w.ownsRow B1 53 4 v1 ts.length (ts.flatMap Tok.cells)) (h2 : w.ownsRow B2 53 4 v2 ts.length (ts.flatMap Tok.cells)) :
    Calls Try.prog 20 #[v1, v2] w fun e w' => e = .returned (.bool true) ∧ ∃ q, w' = w.drewN q := by
  have F : ∀ B v, w.ownsRow B 53 4 v ts.length (ts.flatMap Tok.cells) → (∃ a c, v = .slice a 0 c ∧ ts.length = 0) ∨ (∃ g c, v = .slice (some ⟨g, 0, none⟩) ts.length c) := by
    intro B v h
    rcases h.2 with ⟨rfl, h0⟩ | ⟨g, c, cur, rfl, -⟩
    · exact .inl ⟨none, 0, rfl, h0⟩
    · exact .inr ⟨g, c, rfl⟩
  by_cases h0 : ts.length = 0
  · have G : ∀ B v, w.ownsRow B 53 4 v ts.length (ts.flatMap Tok.cells) → ∃ a c, v = .slice a 0 c := by
      intro B v h
      rcases F B v h with ⟨a, c, e, -⟩ | ⟨g, c, e⟩
      · exact ⟨a, c, e⟩
      · rw [h0] at e; exact ⟨_, _, e⟩
    obtain ⟨a1, c1, rfl⟩ := G _ _ h1
    obtain ⟨a2, c2, rfl⟩ := G _ _ h2
    exact equal_none a1 a2 c1 c2 w
  · rcases F _ _ h1 with ⟨_, _, _, e⟩ | ⟨g1, c1, rfl⟩
    · exact absurd e h0
    rcases F _ _ h2 with ⟨_, _, _, e⟩ | ⟨g2, c2, rfl⟩
    · exact absurd e h0
    exact equal_some g1 c1 g2 c2 B1 B2 ts w hl h1 h2

theorem own_below {w w' : World} {B : Nat} {v : Value} {n : Nat} {xs : List Value} (h : w.ownsRow B 53 4 v n xs) (hb : Below w.heap.size w w') : w'.ownsRow B 53 4 v n xs :=
  h.kept (row := none) ⟨hb.os, hb.tape, hb.output, hb.size, fun k hk _ => hb.block k hk⟩ (by cases v <;> simp [Value.ownBlock]; split <;> simp)

def BigPost (w : World) (e : Ending) (w' : World) : Prop :=
  e = .returned (.tuple #[.slice none 0 0, .agg #[.int .i64 0, .int .i64 0], .int .i64 4]) ∧ Below w.heap.size w w'

set_option maxRecDepth 100000 in
theorem tokens_big (s : ByteArray) (w : World) (hs : 65536 < s.size) (hs2 : s.size ≤ 4611686018427387904) :
    Calls Try.prog 18 #[.string s] w (BigPost w) := by
  go_enter Try.func18, Try.ntmps18
  go_wp2_with fail
  exact bodyPost_ret (v := .tuple #[.slice none 0 0, .agg #[.int .i64 0, .int .i64 0], .int .i64 4]) (by simp [results, Try.results18, go_sem]) rfl ⟨rfl, by first | exact ((Below.refl _ _).alloc (Nat.le_refl _) _) | exact ((((Below.refl _ _).alloc (Nat.le_refl _) _).setCell (Nat.le_refl _) _).setCell (Nat.le_refl _) _)⟩

set_option maxRecDepth 100000 in
theorem rtokens_big (s : ByteArray) (w : World) (hs : 65536 < s.size) (hs2 : s.size ≤ 4611686018427387904) :
    Calls Try.prog 19 #[.string s] w (BigPost w) := by
  go_enter Try.func19, Try.ntmps19
  go_wp2_with fail
  exact bodyPost_ret (v := .tuple #[.slice none 0 0, .agg #[.int .i64 0, .int .i64 0], .int .i64 4]) (by simp [results, Try.results19, go_sem]) rfl ⟨rfl, by first | exact ((Below.refl _ _).alloc (Nat.le_refl _) _) | exact ((((Below.refl _ _).alloc (Nat.le_refl _) _).setCell (Nat.le_refl _) _).setCell (Nat.le_refl _) _)⟩

/-- how many tokens there are -/
theorem runF_inv (f : Nat) (l : List UInt8) (st : St) (h : Inv l st) : Inv l (runF f l st).2 := by
  induction f generalizing st with
  | zero => exact h
  | succ f ih =>
    rw [runF]
    split
    · rename_i hlt
      cases hs : stepF l st with
      | none => exact h
      | some st' => exact ih st' (stepF_inv h hlt hs).1
    · exact h
theorem tokTs_len (l : List UInt8) : (tokTs l).length ≤ l.length + 1 := by
  unfold tokTs
  split
  · have := runF_inv l.length l st0 ⟨Nat.le_refl _, Nat.zero_le _, Nat.le_refl _, Nat.le_refl _⟩
    have h1 := this.ts
    have h2 := this.pos
    simp; omega
  · simp

end Go.Proofs.Ytijgaenfhmgcoaa
