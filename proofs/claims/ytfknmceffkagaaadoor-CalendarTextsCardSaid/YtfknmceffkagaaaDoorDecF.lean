/- Contracts of the byte predicates and of endOfRun. -/
import Derived.Test.YtfknmceffkagaaaDoorDecC
namespace Go.Proofs.YtfknmceffkagaaaDoor.dc
open Go.RowKit
set_option linter.unusedVariables false

def isDig (c : UInt8) : Bool := decide (48 ≤ c.toNat ∧ c.toNat ≤ 57)
def isLet (c : UInt8) : Bool := decide ((97 ≤ c.toNat ∧ c.toNat ≤ 122) ∨ (65 ≤ c.toNat ∧ c.toNat ≤ 90))
def isWrd (c : UInt8) : Bool := decide (((97 ≤ c.toNat ∧ c.toNat ≤ 122) ∨ (65 ≤ c.toNat ∧ c.toNat ≤ 90)) ∨ (48 ≤ c.toNat ∧ c.toNat ≤ 57) ∨ c.toNat = 95)
def notNl (c : UInt8) : Bool := decide (c.toNat ≠ 10)

theorem isDigit_any (c : UInt8) (w : World) :
    Calls Tryd.prog 82 #[.int .u8 (c.toNat : Int)] w fun e w' => e = .returned (.bool (isDig c)) ∧ w = w' := by
  obtain ⟨n, hn⟩ : ∃ n, n = c.toNat := ⟨_, rfl⟩
  have D : Hid (isDig c = decide (48 ≤ n ∧ n ≤ 57)) := by show isDig c = _; rw [hn]; rfl
  rw [← hn]
  clear hn
  by_cases h1 : 48 ≤ n
  · by_cases h2 : n ≤ 57
    · go_enter Tryd.func82, Tryd.ntmps82
      go_wp2
      go_ret
      exact ⟨ret_bool (by rw [D.out]; simp [h1, h2]; try omega), rfl⟩
    · go_enter Tryd.func82, Tryd.ntmps82
      go_wp2
      go_ret
      exact ⟨ret_bool (by rw [D.out]; simp [h1, h2]; try omega), rfl⟩
  · go_enter Tryd.func82, Tryd.ntmps82
    go_wp2
    go_ret
    exact ⟨ret_bool (by rw [D.out]; simp [h1]), rfl⟩

/-- where a run of bytes ends -/
def eor (p : UInt8 → Bool) (s : List UInt8) (a : Nat) : Nat := a + ((s.drop a).takeWhile p).length
theorem eor_yes (p : UInt8 → Bool) (s : List UInt8) (a : Nat) (h : a < s.length) (hp : p s[a] = true) : eor p s a = eor p s (a + 1) := by
  unfold eor
  rw [List.drop_eq_getElem_cons h, List.takeWhile_cons, if_pos hp]
  simp; omega
theorem eor_no (p : UInt8 → Bool) (s : List UInt8) (a : Nat) (h : a < s.length) (hp : p s[a] = false) : eor p s a = a := by
  unfold eor
  rw [List.drop_eq_getElem_cons h, List.takeWhile_cons, if_neg (by simp [hp])]
  simp
theorem eor_end (p : UInt8 → Bool) (s : List UInt8) (a : Nat) (h : s.length ≤ a) : eor p s a = a := by
  unfold eor
  rw [List.drop_of_length_le h]; simp
theorem eor_le (p : UInt8 → Bool) (s : List UInt8) (a : Nat) (h : a ≤ s.length) : eor p s a ≤ s.length := by
  unfold eor
  have := (List.takeWhile_prefix p (l := s.drop a)).length_le
  simp at this; omega
theorem eor_ge (p : UInt8 → Bool) (s : List UInt8) (a : Nat) : a ≤ eor p s a := by unfold eor; omega

/-- a function value that decides about a byte -/
def Decides (f : Nat) (p : UInt8 → Bool) : Prop := ∀ (c : UInt8) (w : World), Calls Tryd.prog f #[.int .u8 (c.toNat : Int)] w fun e w' => e = .returned (.bool (p c)) ∧ w = w'

set_option maxHeartbeats 400000 in
theorem endOfRun_dig (s : ByteArray) (a : Nat) (w : World) (hs : s.size ≤ 4611686018427387904) (ha : a ≤ s.size) :
    Calls Tryd.prog 81 #[.string s, .int .i64 (a : Int), .func (.func 82) #[] #[]] w fun e w' => e = .returned (.int .i64 (eor isDig s.data.toList a : Nat)) ∧ w = w' := by
  go_enter Tryd.func81, Tryd.ntmps81
  go_wp2_with fail
  go_loop [1] (fun i => ∃ j : Nat, a ≤ j ∧ j ≤ s.size ∧ i = .int .i64 (j : Int) ∧ Hid (eor isDig s.data.toList a = eor isDig s.data.toList j)) (fun i => s.size - (intOf i).toNat)
  case atStart => exact ⟨a, Nat.le_refl _, ha, rfl, rfl⟩
  case round =>
    obtain ⟨j, hj0, hj, rfl, HE⟩ := hrel
    by_cases hlt : j < s.size
    · have hc : ∀ wx, Calls Tryd.prog 82 #[.int .u8 ((s[j]'hlt).toNat : Int)] wx fun e w' => e = .returned (.bool (isDig (s[j]'hlt))) ∧ wx = w' := isDigit_any _
      have hlt' : j < s.data.toList.length := by simpa using hlt
      cases hpc : isDig (s[j]'hlt)
      · have HN : Hid (eor isDig s.data.toList j = j) := eor_no isDig _ j hlt' hpc
        rw [hpc] at hc
        have HC := Lib.hid hc
        clear hc hpc hlt'
        go_wp2_with fail
        refine (HC.out _).mono ?_
        rintro e w' ⟨rfl, rfl⟩
        go_wp2_with fail
        go_ret
        exact ⟨ret_int (by rw [HE.out, HN.out]), rfl⟩
      · have HN : Hid (eor isDig s.data.toList j = eor isDig s.data.toList (j + 1)) := eor_yes isDig _ j hlt' hpc
        rw [hpc] at hc
        have HC := Lib.hid hc
        clear hc hpc hlt'
        go_wp2_with fail
        refine (HC.out _).mono ?_
        rintro e w' ⟨rfl, rfl⟩
        go_wp2_with fail
        go_round
        case rel => exact ⟨j + 1, by omega, by omega, by go_num, HE.out.trans HN.out⟩
        case measure => simp [intOf]; omega
    · obtain rfl : j = s.size := by omega
      have HN : Hid (eor isDig s.data.toList s.size = s.size) := eor_end isDig _ _ (by simp)
      go_wp2_with fail
      go_ret
      exact ⟨ret_int (by rw [HE.out, HN.out]), rfl⟩

end Go.Proofs.YtfknmceffkagaaaDoor.dc
