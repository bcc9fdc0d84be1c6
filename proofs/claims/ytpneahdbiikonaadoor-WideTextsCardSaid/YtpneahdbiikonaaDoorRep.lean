/- strings.Repeat of "0", a few times. -/
import Derived.Test.YtpneahdbiikonaaDoorShelf
import Derived.Shelf.Strings.Prefix
import Derived.WalkKit
import Derived.WalkSpells
import Derived.WalkLawsBesides
import Derived.Lib.Hide
import Derived.Deep.QuietTactic
import Derived.BigQuiet
namespace Go.Proofs.YtpneahdbiikonaaDoor
open Go.RowKit
set_option linter.unusedVariables false

theorem hp_is (s p : ByteArray) (b : Bool) (h : Lib.hasPrefix s.data.toList p.data.toList = b) (w : World) :
    Calls Tryd.prog 30 #[.string s, .string p] w fun e w' => e = .returned (.bool b) ∧ w = w' := by
  have := Tryd.strings_HasPrefix s p w
  rw [h] at this
  exact this.mono fun e w' ⟨h1, h2⟩ => ⟨h1, h2.symm⟩

theorem zeros_cut (s : ByteArray) (c : Nat) (hs : s.data.toList = List.replicate 64 48) (hc : c ≤ 64) : s.extract 0 c = ⟨(List.replicate c 48).toArray⟩ := by
  have h : (s.extract 0 c).data.toList = List.replicate c 48 := by
    rw [Lib.extract_data, hs, List.drop_zero, Nat.sub_zero, List.take_replicate, Nat.min_eq_left hc]
  cases hx : s.extract 0 c with
  | mk d =>
    rw [hx] at h
    congr 1
    rw [← h]

set_option maxRecDepth 100000 in
set_option maxHeartbeats 4000000 in
theorem repeat_many (c : Nat) (h1 : 2 ≤ c) (h2 : c ≤ 17) (w : World) :
    Calls Tryd.prog 17 #[.string ⟨#[48]⟩, .int .i64 (c : Int)] w fun e w' => e = .returned (.string ⟨(List.replicate c 48).toArray⟩) ∧ Below w.heap.size w w' := by
  have M : Hid (∀ wx, Calls Tryd.prog 29 #[.int .u64 1, .int .u64 (c : Int)] wx fun e w' => e = .returned (.tuple #[.int .u64 0, .int .u64 (c : Int)]) ∧ wx = w') := by
    intro wx
    have := Tryd.bits_Mul 1 c (by omega) (by omega) wx
    rw [show 1 * c / 18446744073709551616 = 0 by omega, show 1 * c % 18446744073709551616 = c by omega] at this
    exact this.mono fun e w' ⟨h1, h2⟩ => ⟨h1, h2.symm⟩
  have t0 : ((c : Int) == 0) = false := beq_eq_false_iff_ne.2 (by omega)
  have t1 : ((c : Int) == 1) = false := beq_eq_false_iff_ne.2 (by omega)
  go_enter Tryd.func17, Tryd.ntmps17
  go_wp2_with fail
  refine (M.out _).mono ?_
  rintro e w' ⟨rfl, rfl⟩
  go_wp2_with fail
  refine (hp_is _ _ false (by decide +kernel) _).mono ?_
  rintro e w' ⟨rfl, rfl⟩
  go_wp2_with fail
  refine (hp_is _ _ false (by decide +kernel) _).mono ?_
  rintro e w' ⟨rfl, rfl⟩
  go_wp2_with fail
  refine (hp_is _ _ true (by decide +kernel) _).mono ?_
  rintro e w' ⟨rfl, rfl⟩
  go_wp2_with fail
  go_ret
  exact ⟨congrArg (fun s => Ending.returned (.string s)) (zeros_cut _ c (by rfl) (by omega)), Below.refl _ _⟩

set_option maxRecDepth 100000 in
set_option maxHeartbeats 4000000 in
theorem repeat_any (c : Nat) (h2 : c ≤ 17) (w : World) :
    Calls Tryd.prog 17 #[.string ⟨#[48]⟩, .int .i64 (c : Int)] w fun e w' => e = .returned (.string ⟨(List.replicate c 48).toArray⟩) ∧ Below w.heap.size w w' := by
  by_cases h0 : c = 0
  · subst h0
    go_enter Tryd.func17, Tryd.ntmps17
    go_wp2_with fail
    go_ret
    exact ⟨rfl, Below.refl _ _⟩
  · by_cases h1 : c = 1
    · subst h1
      go_enter Tryd.func17, Tryd.ntmps17
      go_wp2_with fail
      go_ret
      exact ⟨rfl, Below.refl _ _⟩
    · exact repeat_many c (by omega) h2 w
end Go.Proofs.YtpneahdbiikonaaDoor
