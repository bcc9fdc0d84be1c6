/- Contracts of magnitude and Parse. -/
import Derived.Test.YtfknmceffkagaaaDoorDecH
import Derived.Test.YtfknmceffkagaaaDoorShelf
namespace Go.Proofs.YtfknmceffkagaaaDoor.dc
open Go.RowKit
set_option linter.unusedVariables false

def magB (l : List UInt8) : Bool := decide (val l ≤ 1152921504606846976)
def magV (l : List UInt8) : Int := if magB l = true then (val l : Int) else 0

set_option maxHeartbeats 800000 in
theorem magnitude_any (s : ByteArray) (w : World) (hs : s.size ≤ 4611686018427387904) (hd : s.data.toList.all isDig = true) :
    Calls Tryd.prog 63 #[.string s] w fun e w' => e = .returned (.tuple #[.int .i64 (magV s.data.toList), .bool (magB s.data.toList)]) ∧ w = w' := by
  have HD := Lib.hid (List.all_eq_true.1 hd)
  clear hd
  go_enter Tryd.func63, Tryd.ntmps63
  go_wp2_with fail
  go_loop [4, 9] (fun n i => ∃ j : Nat, j ≤ s.size ∧ n = .int .i64 (val (s.data.toList.take j) : Nat) ∧ i = .int .i64 (j : Int) ∧ val (s.data.toList.take j) ≤ 1152921504606846976) (fun _ i => s.size - (intOf i).toNat)
  case atStart => exact ⟨0, Nat.zero_le _, rfl, rfl, by simp [val]⟩
  case round =>
    obtain ⟨j, hj, rfl, rfl, hle⟩ := hrel
    by_cases hlt : j < s.size
    · have hlt' : j < s.data.toList.length := by simpa using hlt
      have hdg : isDig (s[j]'hlt) = true := HD.out _ (List.getElem_mem hlt')
      have hdg' : 48 ≤ (s[j]'hlt).toNat ∧ (s[j]'hlt).toNat ≤ 57 := by simpa [isDig] using hdg
      have hst : s.data.toList.take (j + 1) = s.data.toList.take j ++ [s[j]'hlt] := by
        rw [List.take_succ_eq_append_getElem hlt']; rfl
      have hv : val (s.data.toList.take (j + 1)) = 10 * val (s.data.toList.take j) + ((s[j]'hlt).toNat - 48) := by rw [hst, val_snoc]
      have hvt := val_take_le s.data.toList (j + 1)
      obtain ⟨v, hv0⟩ : ∃ v : Nat, v = val (s.data.toList.take j) := ⟨_, rfl⟩
      rw [← hv0] at hv hle ⊢
      have HV := Lib.hid hv
      have HT := Lib.hid hvt
      have HG := Lib.hid hdg'
      clear hv hvt hv0 hst hdg hlt' hdg'
      go_wp2_with fail
      · have hbig : (1152921504606846976 - ((s[j]'hlt).toNat - 48 : Int) % 256) / 10 < v := by assumption
        have h1 := HV.out; have h2 := HT.out; have h3 := HG.out
        have hm : magB s.data.toList = false := by unfold magB; simp; omega
        go_ret2
        exact ⟨by unfold magV; rw [hm]; rfl, rfl⟩
      · have hsm : (v : Int) ≤ (1152921504606846976 - ((s[j]'hlt).toNat - 48 : Int) % 256) / 10 := by assumption
        have h1 := HV.out; have h2 := HT.out; have h3 := HG.out
        go_round
        case rel => exact ⟨j + 1, by omega, by rw [h1]; go_num, by go_num, by rw [h1]; omega⟩
        case measure => simp [intOf]; omega
    · obtain rfl : j = s.size := by omega
      have e : s.data.toList.take s.size = s.data.toList := List.take_of_length_le (by simp)
      rw [e] at hle ⊢
      have hm : magB s.data.toList = true := by unfold magB; simp [hle]
      have hmv : magV s.data.toList = (val s.data.toList : Int) := by unfold magV; rw [if_pos hm]
      have HM := Lib.hid hm
      have HMV := Lib.hid hmv
      obtain ⟨v, hv0⟩ : ∃ v : Nat, v = val s.data.toList := ⟨_, rfl⟩
      rw [← hv0] at hle ⊢
      have HV := Lib.hid hv0
      clear hm hmv e hv0
      go_wp2_with fail
      go_ret2
      exact ⟨by rw [HM.out, HMV.out, ← HV.out]; rfl, rfl⟩

/-- what Parse returns -/
def pU (l : List UInt8) : List UInt8 := Lib.trimPrefix l [45]
def pAll (l : List UInt8) (d : Nat) : List UInt8 := (Lib.cut (pU l) [46]).1 ++ (Lib.cut (pU l) [46]).2.1 ++ List.replicate (d - (Lib.cut (pU l) [46]).2.1.length) 48
def pErr (l : List UInt8) (d : Nat) : Int :=
  if whlB (Lib.cut (pU l) [46]).1 = false ∨ ((Lib.cut (pU l) [46]).2.2 = true ∧ frcB (Lib.cut (pU l) [46]).2.1 d = false) then 7
  else if magB (pAll l d) = true then 0 else 5
def pVal (l : List UInt8) (d : Nat) : Int := if pErr l d = 0 then (if Lib.hasPrefix l [45] = true then -(val (pAll l d) : Int) else val (pAll l d)) else 0

theorem pU_len (l : List UInt8) : (pU l).length ≤ l.length := by unfold pU Lib.trimPrefix; split <;> simp
theorem cut_len (l : List UInt8) : (Lib.cut l [46]).1.length + (Lib.cut l [46]).2.1.length ≤ l.length := by
  unfold Lib.cut; split
  · simp; omega
  · simp
theorem digB_all {l : List UInt8} (h : digB l = true) : l.all isDig = true := by unfold digB at h; simp only [Bool.and_eq_true] at h; exact h.2
theorem whlB_all {l : List UInt8} (h : whlB l = true) : l.all isDig = true := by unfold whlB at h; simp only [Bool.and_eq_true] at h; exact digB_all h.1
theorem frcB_all {l : List UInt8} {d : Nat} (h : frcB l d = true) : l.all isDig = true ∧ l.length ≤ d := by unfold frcB at h; simp only [Bool.and_eq_true, decide_eq_true_eq] at h; exact ⟨digB_all h.1, h.2⟩
theorem cut_no (l : List UInt8) (h : (Lib.cut l [46]).2.2 = false) : (Lib.cut l [46]).2.1 = [] := by
  unfold Lib.cut at h ⊢; split at h
  · cases h
  · rename_i hh; rw [if_neg hh]

theorem parse_range (s : ByteArray) (d : Int) (w : World) (h : d < 0 ∨ 9 < d) :
    Calls Tryd.prog 52 #[.string s, .int .i64 d] w fun e w' => e = .returned (.tuple #[.int .i64 0, .int .i64 2]) ∧ w = w' := by
  have hv := vd_no h
  clear h
  go_enter Tryd.func52, Tryd.ntmps52
  go_wp2_with (go_at_call 54; refine (vd_any _ _).mono ?_; rintro e w' ⟨rfl, rfl⟩)
  go_ret2
  exact ⟨rfl, rfl⟩

end Go.Proofs.YtfknmceffkagaaaDoor.dc
