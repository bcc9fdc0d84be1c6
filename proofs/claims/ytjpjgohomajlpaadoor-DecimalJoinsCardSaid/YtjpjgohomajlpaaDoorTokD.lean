/- The tokens of a text, as a plain function; and the contract of Tokens. -/
import Derived.Test.YtjpjgohomajlpaaDoorTokC
import Derived.Deep.LoopGhost
import Derived.Deep.Onto
namespace Go.Proofs.YtjpjgohomajlpaaDoor
open Go.RowKit
set_option linter.unusedVariables false

structure St where
  pos : Nat
  line : Nat
  ls : Nat
  ts : List Tok

def slc (l : List UInt8) (a b : Nat) : List UInt8 := (l.drop a).take (b - a)
def St.col (st : St) : Int := (st.pos : Int) - st.ls + 1
def St.add (st : St) (k : Int) (tx : List UInt8) (b : Nat) : St := ⟨b, st.line, st.ls, st.ts ++ [⟨k, tx, st.line, st.col⟩]⟩

/-- one step of the reader -/
def stepF (l : List UInt8) (st : St) : Option St :=
  if (l.getD st.pos 0).toNat = 32 ∨ (l.getD st.pos 0).toNat = 9 then some ⟨st.pos + 1, st.line, st.ls, st.ts⟩
  else if (l.getD st.pos 0).toNat = 10 then some ⟨st.pos + 1, st.line + 1, st.pos + 1, st.ts ++ [⟨4, [], st.line, st.col⟩]⟩
  else if (l.getD st.pos 0).toNat = 35 then some ⟨eor notNl l st.pos, st.line, st.ls, st.ts⟩
  else if isLet (l.getD st.pos 0) = true then
    if eor isWrd l st.pos ≤ st.pos + 20 then some (st.add 1 (slc l st.pos (eor isWrd l st.pos)) (eor isWrd l st.pos)) else none
  else if isDig (l.getD st.pos 0) = true then some (st.add 2 (slc l st.pos (eon l st.pos)) (eon l st.pos))
  else if isSym (l.getD st.pos 0) = true then some (st.add 3 (slc l st.pos (st.pos + 1)) (st.pos + 1))
  else none

structure Inv (l : List UInt8) (st : St) : Prop where
  ls : st.ls ≤ st.pos
  pos : st.pos ≤ l.length
  ts : st.ts.length ≤ st.pos
  line : st.line ≤ st.pos + 1

theorem getD_get (l : List UInt8) (a : Nat) (h : a < l.length) : l.getD a 0 = l[a] := by
  rw [List.getD_eq_getElem?_getD, List.getElem?_eq_getElem h]; rfl
theorem eor_gt (p : UInt8 → Bool) (l : List UInt8) (a : Nat) (h : a < l.length) (hp : p (l.getD a 0) = true) : a < eor p l a := by
  rw [getD_get l a h] at hp
  rw [eor_yes p l a h hp]
  have := eor_ge p l (a + 1); omega
theorem let_wrd {c : UInt8} (h : isLet c = true) : isWrd c = true := by simp [isLet, isWrd] at *; omega
theorem dig_wrd {c : UInt8} (h : isDig c = true) : isWrd c = true := by simp [isDig, isWrd] at *; omega

theorem stepF_inv {l : List UInt8} {st st' : St} (hi : Inv l st) (h : st.pos < l.length) (hs : stepF l st = some st') : Inv l st' ∧ st.pos < st'.pos := by
  obtain ⟨i1, i2, i3, i4⟩ := hi
  unfold stepF at hs
  split at hs
  · cases hs; exact ⟨⟨by simp; omega, by simp; omega, by simp; omega, by simp; omega⟩, by simp⟩
  split at hs
  · cases hs; exact ⟨⟨by simp, by simp; omega, by simp; omega, by simp; omega⟩, by simp⟩
  split at hs
  · rename_i hc
    cases hs
    have g : st.pos < eor notNl l st.pos := eor_gt _ _ _ h (by unfold notNl; rw [decide_eq_true_eq]; omega)
    have g2 := eor_le notNl l st.pos i2
    exact ⟨⟨by simp; omega, by simp; omega, by simp; omega, by simp; omega⟩, g⟩
  split at hs
  · rename_i hc
    split at hs
    · cases hs
      have g : st.pos < eor isWrd l st.pos := eor_gt _ _ _ h (let_wrd hc)
      have g2 := eor_le isWrd l st.pos i2
      exact ⟨⟨by simp [St.add]; omega, by simp [St.add]; omega, by simp [St.add]; omega, by simp [St.add]; omega⟩, g⟩
    · cases hs
  split at hs
  · rename_i hc
    cases hs
    have g : st.pos < eor isDig l st.pos := eor_gt _ _ _ h hc
    have g1 := eon_ge l st.pos
    have g2 := eon_le l st.pos i2
    exact ⟨⟨by simp [St.add]; omega, by simp [St.add]; omega, by simp [St.add]; omega, by simp [St.add]; omega⟩, by simp [St.add]; omega⟩
  split at hs
  · cases hs
    exact ⟨⟨by simp [St.add]; omega, by simp [St.add]; omega, by simp [St.add]; omega, by simp [St.add]; omega⟩, by simp [St.add]⟩
  · cases hs

/-- all steps -/
def runF : Nat → List UInt8 → St → Bool × St
  | 0, _, st => (true, st)
  | f + 1, l, st => if st.pos < l.length then (match stepF l st with | some st' => runF f l st' | none => (false, st)) else (true, st)

theorem runF_more (l : List UInt8) (f g : Nat) (st : St) (hi : Inv l st) (hf : l.length ≤ st.pos + f) (hg : l.length ≤ st.pos + g) : runF f l st = runF g l st := by
  induction f generalizing g st with
  | zero =>
    cases g with
    | zero => rfl
    | succ g => simp only [runF]; rw [if_neg (by omega)]
  | succ f ih =>
    cases g with
    | zero => simp only [runF]; rw [if_neg (by omega)]
    | succ g =>
      simp only [runF]
      by_cases h : st.pos < l.length
      · rw [if_pos h, if_pos h]
        cases hs : stepF l st with
        | none => rfl
        | some st' =>
          have := stepF_inv hi h hs
          exact ih g st' this.1 (by omega) (by omega)
      · rw [if_neg h, if_neg h]
theorem runF_step {l : List UInt8} {st st' : St} (hi : Inv l st) (h : st.pos < l.length) (hs : stepF l st = some st') : runF l.length l st = runF l.length l st' := by
  have hv := stepF_inv hi h hs
  rw [runF_more l l.length (l.length + 1) st hi (by omega) (by omega)]
  rw [runF, if_pos h, hs]
theorem runF_stuck {l : List UInt8} {st : St} (hi : Inv l st) (h : st.pos < l.length) (hs : stepF l st = none) : runF l.length l st = (false, st) := by
  rw [runF_more l l.length (l.length + 1) st hi (by omega) (by omega)]
  rw [runF, if_pos h, hs]
theorem runF_end {l : List UInt8} {st : St} (hi : Inv l st) (h : ¬ st.pos < l.length) : runF l.length l st = (true, st) := by
  rw [runF_more l l.length (l.length + 1) st hi (by omega) (by omega)]
  rw [runF, if_neg h]

def st0 : St := ⟨0, 1, 0, []⟩
def tokTs (l : List UInt8) : List Tok := if (runF l.length l st0).1 = true then (runF l.length l st0).2.ts ++ [⟨5, [], (runF l.length l st0).2.line, (runF l.length l st0).2.col⟩] else []
def tokLine (l : List UInt8) : Int := if (runF l.length l st0).1 = true then 0 else (runF l.length l st0).2.line
def tokCol (l : List UInt8) : Int := if (runF l.length l st0).1 = true then 0 else (runF l.length l st0).2.col
def tokErr (l : List UInt8) : Int := if (runF l.length l st0).1 = true then 0 else 7

/-- what a step of the reader does to the world -/
def StepPost (w : World) (R : Nat) (s : ByteArray) (st : St) (e : Ending) (w' : World) : Prop :=
  match stepF s.data.toList st with
  | some st' => e = .returned (.bool true) ∧ (∃ v', Rd w' R s st'.pos st'.line st'.ls v' st'.ts) ∧ Below R w w'
  | none => e = .returned (.bool false) ∧ (∃ v', Rd w' R s st.pos st.line st.ls v' st.ts) ∧ Below R w w'

theorem step_any (R : Nat) (s : ByteArray) (st : St) (v : Value) (w : World) (h : Rd w R s st.pos st.line st.ls v st.ts) (hi : Inv s.data.toList st) (h3 : st.pos < s.size) (hs : s.size ≤ 65536) :
    Calls Tryd.prog 15 #[.pointer (some ⟨R, 0, none⟩)] w (StepPost w R s st) := by
  obtain ⟨i1, i2, i3, i4⟩ := hi
  have hsz := Lib.size_eq s
  have hg : s.data.toList.getD st.pos 0 = s[st.pos] := getD_get _ _ (by rw [← hsz]; exact h3)
  have ht : st.ts.length ≤ 65536 := by omega
  have hl : st.line ≤ 65537 := by omega
  unfold StepPost stepF
  rw [hg]
  by_cases k1 : s[st.pos].toNat = 32 ∨ s[st.pos].toNat = 9
  · rw [if_pos k1]
    exact step_blank R s st.pos st.ls st.line v st.ts w h i1 h3 hs ht hl k1
  rw [if_neg k1]
  by_cases k2 : s[st.pos].toNat = 10
  · rw [if_pos k2]
    exact step_nl R s st.pos st.ls st.line v st.ts w h i1 h3 hs ht hl k2
  rw [if_neg k2]
  by_cases k3 : s[st.pos].toNat = 35
  · rw [if_pos k3]
    exact step_hash R s st.pos st.ls st.line v st.ts w h i1 h3 hs ht hl k3
  rw [if_neg k3]
  by_cases k4 : isLet s[st.pos] = true
  · rw [if_pos k4]
    by_cases k5 : eor isWrd s.data.toList st.pos ≤ st.pos + 20
    · rw [if_pos k5]
      have := step_word R s st.pos st.ls st.line v st.ts w h i1 h3 hs ht hl k4 k5
      rw [Lib.extract_data] at this
      exact this
    · rw [if_neg k5]
      exact step_long R s st.pos st.ls st.line v st.ts w h i1 h3 hs ht hl k4 (by omega)
  rw [if_neg k4]
  by_cases k6 : isDig s[st.pos] = true
  · rw [if_pos k6]
    have := step_num R s st.pos st.ls st.line v st.ts w h i1 h3 hs ht hl k6
    rw [Lib.extract_data] at this
    exact this
  rw [if_neg k6]
  by_cases k7 : isSym s[st.pos] = true
  · rw [if_pos k7]
    have := step_sym R s st.pos st.ls st.line v st.ts w h i1 h3 hs ht hl k7
    rw [Lib.extract_data] at this
    exact this
  rw [if_neg k7]
  exact step_bad R s st.pos st.ls st.line v st.ts w h i1 h3 hs ht hl (by omega) (by omega) k2 k3 (by simpa using k4) (by simpa using k6) (by simpa using k7)

end Go.Proofs.YtjpjgohomajlpaaDoor
