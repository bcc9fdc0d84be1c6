/- Contracts of isDigits, isWhole, isFraction, magnitude. -/
import Derived.Test.YtfknmceffkagaaaDoorDecF
import Derived.Test.YtfknmceffkagaaaDoorDecG
namespace Go.Proofs.YtfknmceffkagaaaDoor.dc
open Go.RowKit
set_option linter.unusedVariables false

def digB (l : List UInt8) : Bool := !l.isEmpty && l.all isDig
theorem eor_zero (p : UInt8 → Bool) (l : List UInt8) : decide (eor p l 0 = l.length) = l.all p := by
  unfold eor
  simp only [List.drop_zero, Nat.zero_add]
  cases h : l.all p
  · rw [decide_eq_false_iff_not]
    intro e
    have : l.takeWhile p = l := (List.takeWhile_prefix p).eq_of_length e
    have h2 : l.all p = true := by rw [← this]; exact List.all_takeWhile
    rw [h] at h2; cases h2
  · rw [take_all p l h]; simp

set_option maxHeartbeats 400000 in
theorem isDigits_any (s : ByteArray) (w : World) (hs : s.size ≤ 4611686018427387904) :
    Calls Tryd.prog 72 #[.string s] w fun e w' => e = .returned (.bool (digB s.data.toList)) ∧ w = w' := by
  cases h0 : s.toList.isEmpty
  · have D : Hid (digB s.data.toList = decide (eor isDig s.data.toList 0 = s.size)) := by
      show digB s.data.toList = _
      have e := eor_zero isDig s.data.toList
      rw [← Lib.size_eq] at e
      have e0 : s.data.toList.isEmpty = false := by rw [← Lib.toList_data]; exact h0
      unfold digB; rw [e, e0]; rfl
    have hE : eor isDig s.data.toList 0 ≤ s.size := by
      have := eor_le isDig s.data.toList 0 (by omega)
      rw [← Lib.size_eq] at this; exact this
    have h1 : (!s.toList.isEmpty) = true := by rw [h0]; rfl
    have c := Lib.hid (endOfRun_dig s 0 w hs (by omega))
    go_enter Tryd.func72, Tryd.ntmps72
    go_wp2_with (go_at_call 81; refine c.out.mono ?_; rintro e w' ⟨rfl, rfl⟩)
    go_ret
    exact ⟨ret_bool (by rw [D.out, Bool.eq_iff_iff]; simp; try omega), rfl⟩
  · have D : Hid (digB s.data.toList = false) := by
      show digB s.data.toList = _
      have e0 : s.data.toList.isEmpty = true := by rw [← Lib.toList_data]; exact h0
      unfold digB; rw [e0]; rfl
    have h1 : (!s.toList.isEmpty) = false := by rw [h0]; rfl
    go_enter Tryd.func72, Tryd.ntmps72
    go_wp2_with fail
    go_ret
    exact ⟨ret_bool (by rw [D.out]), rfl⟩

def whlB (l : List UInt8) : Bool := digB l && (decide (l.length = 1) || decide (l.head? ≠ some 48))

set_option maxHeartbeats 400000 in
theorem isWhole_any (s : ByteArray) (w : World) (hs : s.size ≤ 4611686018427387904) :
    Calls Tryd.prog 60 #[.string s] w fun e w' => e = .returned (.bool (whlB s.data.toList)) ∧ w = w' := by
  have c := isDigits_any s w hs
  cases hd : digB s.data.toList
  · have D : Hid (whlB s.data.toList = false) := by show whlB s.data.toList = _; unfold whlB; rw [hd]; rfl
    rw [hd] at c
    have C := Lib.hid c
    clear c hd
    go_enter Tryd.func60, Tryd.ntmps60
    go_wp2_with (go_at_call 72; refine C.out.mono ?_; rintro e w' ⟨rfl, rfl⟩)
    go_ret
    exact ⟨ret_bool (by rw [D.out]), rfl⟩
  · rw [hd] at c
    have hpos : 0 < s.size := by
      unfold digB at hd; rw [Lib.size_eq]
      cases hl : s.data.toList with
      | nil => rw [hl] at hd; cases hd
      | cons a b => simp
    by_cases h1 : s.size = 1
    · have D : Hid (whlB s.data.toList = true) := by show whlB s.data.toList = _; unfold whlB; rw [hd, ← Lib.size_eq]; simp [h1]
      have C := Lib.hid c
      have hb : ((s.size : Int) == 1) = true := by simp [h1]
      have h2 := Lib.hid h1
      clear c hd h1
      go_enter Tryd.func60, Tryd.ntmps60
      go_wp2_with (go_at_call 72; refine C.out.mono ?_; rintro e w' ⟨rfl, rfl⟩)
      go_ret
      exact ⟨ret_bool (by rw [D.out]), rfl⟩
    · have D : Hid (whlB s.data.toList = decide (s[0].toNat ≠ 48)) := by
        show whlB s.data.toList = _
        have e : s.data.toList.head? = some s[0] := by
          rw [List.head?_eq_getElem?, List.getElem?_eq_getElem (by simpa using hpos)]; rfl
        unfold whlB; rw [hd, e, ← Lib.size_eq, Bool.eq_iff_iff]
        simp [h1, ← UInt8.toNat_inj]
      have C := Lib.hid c
      have hb : ((s.size : Int) == 1) = false := by simp; omega
      have h2 := Lib.hid h1
      clear c hd h1
      go_enter Tryd.func60, Tryd.ntmps60
      go_wp2_with (go_at_call 72; refine C.out.mono ?_; rintro e w' ⟨rfl, rfl⟩)
      go_ret
      exact ⟨ret_bool (by rw [D.out, Bool.eq_iff_iff]; simp; try omega), rfl⟩

def frcB (l : List UInt8) (d : Nat) : Bool := digB l && decide (l.length ≤ d)
set_option maxHeartbeats 400000 in
theorem isFraction_any (s : ByteArray) (d : Nat) (w : World) (hs : s.size ≤ 4611686018427387904) :
    Calls Tryd.prog 61 #[.string s, .int .i64 (d : Int)] w fun e w' => e = .returned (.bool (frcB s.data.toList d)) ∧ w = w' := by
  have c := isDigits_any s w hs
  cases hd : digB s.data.toList
  · have D : Hid (frcB s.data.toList d = false) := by show frcB s.data.toList d = _; unfold frcB; rw [hd]; rfl
    rw [hd] at c
    have C := Lib.hid c
    clear c hd
    go_enter Tryd.func61, Tryd.ntmps61
    go_wp2_with (go_at_call 72; refine C.out.mono ?_; rintro e w' ⟨rfl, rfl⟩)
    go_ret
    exact ⟨ret_bool (by rw [D.out]), rfl⟩
  · have D : Hid (frcB s.data.toList d = decide (s.size ≤ d)) := by show frcB s.data.toList d = _; unfold frcB; rw [hd, ← Lib.size_eq]; rfl
    rw [hd] at c
    have C := Lib.hid c
    clear c hd
    go_enter Tryd.func61, Tryd.ntmps61
    go_wp2_with (go_at_call 72; refine C.out.mono ?_; rintro e w' ⟨rfl, rfl⟩)
    go_ret
    exact ⟨ret_bool (by rw [D.out]; try simp), rfl⟩

end Go.Proofs.YtfknmceffkagaaaDoor.dc
