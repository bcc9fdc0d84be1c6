/- The reference's end, joined: what it returns, by the step of the reader. -/
import Derived.Test.YtijgaenfhmgcoaaTokF
import Derived.Test.YtijgaenfhmgcoaaTokE
namespace Go.Proofs.Ytijgaenfhmgcoaa
open Go.RowKit
set_option linter.unusedVariables false

def EndIs (s : ByteArray) (i k : Nat) (kind : Int) : Prop :=
  ∀ w : World, Calls Try.prog 40 #[.string s, .int .i64 (i : Int)] w fun e w' => e = .returned (.tuple #[.int .i64 ((k : Nat) : Int), .int .i64 kind]) ∧ w = w'

inductive Step3 (s : ByteArray) (st : St) : Prop where
  | bad : stepF s.data.toList st = none → EndIs s st.pos st.pos 0 → Step3 s st
  | nl : stepF s.data.toList st = some ⟨st.pos + 1, st.line + 1, st.pos + 1, st.ts ++ [⟨4, [], st.line, st.col⟩]⟩ → EndIs s st.pos (st.pos + 1) 4 → Step3 s st
  | tok (k : Nat) (kind : Int) : st.pos ≤ k → k ≤ s.size → kind ≠ 0 → kind ≠ 4 → stepF s.data.toList st = some (st.add kind (slc s.data.toList st.pos k) k) → EndIs s st.pos k kind → Step3 s st

theorem rend_num (s : ByteArray) (i : Nat) (hi : i < s.size) (hs : s.size ≤ 65536) (hc : isDig s[i] = true) : EndIs s i (eon s.data.toList i) 2 := by
  intro w
  have hsz := Lib.size_eq s
  have hz : ∀ j, (h : j < s.size) → s.data.toList.getD j 0 = s[j] := fun j h => getD_get _ _ (by rw [← hsz]; exact h)
  unfold eon
  by_cases h1 : eor isDig s.data.toList i + 1 < s.size
  · by_cases h2 : s[eor isDig s.data.toList i].toNat = 46
    · cases h3 : isDig s[eor isDig s.data.toList i + 1]
      · rw [if_neg (by rw [hz _ h1, h3]; simp)]
        exact rend_num2 s i w hi hs _ hc rfl h1 h2 h3
      · rw [if_pos ⟨by rw [← hsz]; exact h1, by rw [hz _ (by omega), ← UInt8.toNat_inj]; exact h2, by rw [hz _ h1]; exact h3⟩]
        exact rend_num3 s i w hi hs _ _ hc rfl h1 h2 h3 rfl
    · rw [if_neg (by rintro ⟨-, h, -⟩; rw [hz _ (by omega)] at h; exact h2 (by rw [h]; rfl))]
      exact rend_num1 s i w hi hs _ hc rfl h1 h2
  · rw [if_neg (by rintro ⟨h, -⟩; rw [← hsz] at h; exact h1 h)]
    exact rend_num0 s i w hi hs _ hc rfl (by omega)

theorem step3 (s : ByteArray) (st : St) (hi : Inv s.data.toList st) (h3 : st.pos < s.size) (hs : s.size ≤ 65536)
    (k1 : ¬ (s[st.pos].toNat = 32 ∨ s[st.pos].toNat = 9)) (k3 : s[st.pos].toNat ≠ 35) : Step3 s st := by
  have hsz := Lib.size_eq s
  have hg : s.data.toList.getD st.pos 0 = s[st.pos] := getD_get _ _ (by rw [← hsz]; exact h3)
  have hp : st.pos ≤ s.data.toList.length := by rw [← hsz]; omega
  by_cases k2 : s[st.pos].toNat = 10
  · refine .nl ?_ (fun w => rend_nl s st.pos w h3 hs k2)
    unfold stepF; rw [hg, if_neg k1, if_pos k2]
  by_cases k4 : isLet s[st.pos] = true
  · by_cases k5 : eor isWrd s.data.toList st.pos ≤ st.pos + 20
    · refine .tok (eor isWrd s.data.toList st.pos) 1 (eor_ge _ _ _) (by rw [hsz]; exact eor_le _ _ _ hp) (by decide) (by decide) ?_ (fun w => rend_word s st.pos w h3 hs _ k4 rfl k5)
      unfold stepF; rw [hg, if_neg k1, if_neg k2, if_neg k3, if_pos k4, if_pos k5]
    · refine .bad ?_ (fun w => rend_long s st.pos w h3 hs _ k4 rfl (by omega))
      unfold stepF; rw [hg, if_neg k1, if_neg k2, if_neg k3, if_pos k4, if_neg k5]
  by_cases k6 : isDig s[st.pos] = true
  · refine .tok (eon s.data.toList st.pos) 2 (Nat.le_trans (eor_ge _ _ _) (eon_ge _ _)) (by rw [hsz]; exact eon_le _ _ hp) (by decide) (by decide) ?_ (rend_num s st.pos h3 hs k6)
    unfold stepF; rw [hg, if_neg k1, if_neg k2, if_neg k3, if_neg k4, if_pos k6]
  by_cases k7 : isSym s[st.pos] = true
  · refine .tok (st.pos + 1) 3 (by omega) (by omega) (by decide) (by decide) ?_ (fun w => rend_sym s st.pos w h3 hs k7)
    unfold stepF; rw [hg, if_neg k1, if_neg k2, if_neg k3, if_neg k4, if_neg k6, if_pos k7]
  · refine .bad ?_ (fun w => rend_bad s st.pos w h3 hs k2 (by simpa using k7) (by simpa using k4) (by simpa using k6))
    unfold stepF; rw [hg, if_neg k1, if_neg k2, if_neg k3, if_neg k4, if_neg k6, if_neg k7]

end Go.Proofs.Ytijgaenfhmgcoaa
