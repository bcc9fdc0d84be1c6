/- Contracts of Format and Print. -/
import Derived.Test.YtfknmceffkagaaaDoorDecB
namespace Go.Proofs.YtfknmceffkagaaaDoor.dc
open Go.RowKit
set_option linter.unusedVariables false

/-- the string of a list of bytes -/
def strV (l : List UInt8) : Value := .string ⟨l.toArray⟩

theorem ba_app (a b : List UInt8) : (⟨a.toArray⟩ : ByteArray) ++ ⟨b.toArray⟩ = ⟨(a ++ b).toArray⟩ := by apply ByteArray.ext; simp
theorem ret_se {s t : ByteArray} {n : Int} (h : s = t) : Ending.returned (.tuple #[.string s, .int .i64 n]) = .returned (.tuple #[.string t, .int .i64 n]) := by rw [h]
theorem ret_s {s t : ByteArray} (h : s = t) : Ending.returned (.string s) = .returned (.string t) := by rw [h]

def vdB (d : Int) : Bool := decide (0 ≤ d ∧ d ≤ 9)
theorem vd_yes {d : Int} (h1 : 0 ≤ d) (h2 : d ≤ 9) : vdB d = true := by unfold vdB; simp; omega
theorem vd_no {d : Int} (h : d < 0 ∨ 9 < d) : vdB d = false := by unfold vdB; simp; omega
theorem vd_any (d : Int) (w : World) :
    Calls Tryd.prog 54 #[.int .i64 d] w fun e w' => e = .returned (.bool (vdB d)) ∧ w = w' := by
  by_cases h1 : 0 ≤ d
  · go_enter Tryd.func54, Tryd.ntmps54
    go_wp2
    go_ret
    exact ⟨ret_bool (by unfold vdB; simp; omega), rfl⟩
  · go_enter Tryd.func54, Tryd.ntmps54
    go_wp2
    go_ret
    exact ⟨ret_bool (by unfold vdB; simp; omega), rfl⟩

set_option maxHeartbeats 400000 in
theorem format_ok (n : Int) (d : Nat) (w : World) (hf : fitsB n = true) (hd : d ≤ 9) :
    Calls Tryd.prog 49 #[.int .i64 n, .int .i64 (d : Int)] w fun e w' => e = .returned (.tuple #[.string ⟨(decT n d).toArray⟩, .int .i64 0]) ∧ Below w.heap.size w w' := by
  have k := (fits_iff n).1 hf
  have hv := vd_yes (d := (d : Int)) (by omega) (by omega)
  go_enter Tryd.func49, Tryd.ntmps49
  go_wp2_with (first | (go_at_call 54; refine (vd_any _ _).mono ?_; rintro e w' ⟨rfl, rfl⟩) | (go_at_call 55; refine (fits_any _ _).mono ?_; rintro e w' ⟨rfl, rfl⟩) | (go_at_call 56; refine (decimalText_any _ _ _ k.1 k.2 hd).mono ?_; rintro e w1 ⟨rfl, hb⟩))
  go_ret2
  exact ⟨rfl, hb⟩

def fmtErr (n d : Int) : Int := if d < 0 ∨ 9 < d then 2 else if fitsB n = true then 0 else 5
set_option maxHeartbeats 400000 in
theorem format_err (n d : Int) (w : World) (h : fmtErr n d ≠ 0) :
    Calls Tryd.prog 49 #[.int .i64 n, .int .i64 d] w fun e w' => e = .returned (.tuple #[.string ⟨#[]⟩, .int .i64 (fmtErr n d)]) ∧ w = w' := by
  by_cases h1 : d < 0
  · have K : Hid (fmtErr n d = 2) := by show fmtErr n d = 2; unfold fmtErr; rw [if_pos (.inl h1)]
    have hv : vdB d = false := by first | exact vd_no (.inl h1) | exact vd_no (.inr h2) | exact vd_yes (by omega) (by omega)
    clear h
    go_enter Tryd.func49, Tryd.ntmps49
    go_wp2_with (first | (go_at_call 54; refine (vd_any _ _).mono ?_; rintro e w' ⟨rfl, rfl⟩))
    go_ret2
    exact ⟨by rw [K.out]; rfl, rfl⟩
  by_cases h2 : 9 < d
  · have K : Hid (fmtErr n d = 2) := by show fmtErr n d = 2; unfold fmtErr; rw [if_pos (.inr h2)]
    have hv : vdB d = false := by first | exact vd_no (.inl h1) | exact vd_no (.inr h2) | exact vd_yes (by omega) (by omega)
    clear h
    go_enter Tryd.func49, Tryd.ntmps49
    go_wp2_with (first | (go_at_call 54; refine (vd_any _ _).mono ?_; rintro e w' ⟨rfl, rfl⟩))
    go_ret2
    exact ⟨by rw [K.out]; rfl, rfl⟩
  cases h3 : fitsB n
  · have K : Hid (fmtErr n d = 5) := by show fmtErr n d = 5; unfold fmtErr; rw [if_neg (by omega), if_neg (by simp [h3])]
    have hv : vdB d = true := by first | exact vd_no (.inl h1) | exact vd_no (.inr h2) | exact vd_yes (by omega) (by omega)
    clear h
    go_enter Tryd.func49, Tryd.ntmps49
    go_wp2_with (first | (go_at_call 54; refine (vd_any _ _).mono ?_; rintro e w' ⟨rfl, rfl⟩) | (go_at_call 55; refine (fits_any _ _).mono ?_; rintro e w' ⟨rfl, rfl⟩))
    go_ret2
    exact ⟨by rw [K.out]; rfl, rfl⟩
  · exact absurd (by unfold fmtErr; rw [if_neg (by omega), if_pos h3]) h

theorem decT_len (n : Int) (d : Nat) (h1 : -1152921504606846976 ≤ n) (h2 : n ≤ 1152921504606846976) (hd : d ≤ 9) : (decT n d).length ≤ 21 := by
  have a := rnds_le19 d n.natAbs hd (by omega)
  have b := outD_length d n.natAbs (rnds d n.natAbs)
  unfold decT
  split <;> simp only [List.length_append, List.length_cons, List.length_nil] <;> (rw [b]; split <;> omega)

/-- what Print returns -/
def prErr (lo hi u d : Int) : Int := if rErr lo hi u = 0 then (if d < 0 ∨ 9 < d then 2 else 0) else rErr lo hi u
def prText (lo hi u : Int) (d : Nat) : List UInt8 := if near lo u = near hi u then decT (near lo u) d else decT (near lo u) d ++ [32, 46, 46, 32] ++ decT (near hi u) d

end Go.Proofs.YtfknmceffkagaaaDoor.dc
