/- Angle: contracts of the program's isDigits, isDegrees, isMinutes, isFraction. -/
import Derived.Test.YtgcoddjjkcdfmaaGreatDoorAnX
import Derived.Deep.LoopGhost
namespace Go.Proofs.YtgcoddjjkcdfmaaGreatDoor
open Go.RowKit
set_option linter.unusedVariables false
set_option maxRecDepth 100000

/-- a number: at least one digit, and digits alone -/
def dgB (l : List UInt8) : Bool := decide (l ≠ []) && l.all isDig
theorem at_toList (s : ByteArray) (i : Nat) (h : i < s.size) : s.data.toList[i]'(by simpa using h) = s[i]'h := rfl
theorem all_at (s : ByteArray) (p : UInt8 → Bool) (h : ∀ (j : Nat) (hj : j < s.size), p (s[j]'hj) = true) : s.data.toList.all p = true := by
  rw [List.all_eq_true]
  intro x hx
  obtain ⟨j, hj, rfl⟩ := List.getElem_of_mem hx
  exact h j (by simpa using hj)
theorem not_all_at (s : ByteArray) (p : UInt8 → Bool) (j : Nat) (hj : j < s.size) (h : p (s[j]'hj) = false) : s.data.toList.all p = false := by
  rw [List.all_eq_false]
  exact ⟨s[j]'hj, List.getElem_mem (by simpa using hj), by rw [h]; simp⟩
theorem nil_size (s : ByteArray) : s.data.toList = [] ↔ s.size = 0 := by
  constructor
  · intro h
    have := congrArg List.length h
    simpa using this
  · intro h
    exact List.eq_nil_of_length_eq_zero (by simpa using h)

set_option maxHeartbeats 4000000 in
theorem pDigits (s : ByteArray) (w : World) (hs : s.size ≤ 1000) :
    Calls Tryz.prog 76 #[.string s] w fun e w' => e = .returned (.bool (dgB s.data.toList)) ∧ w' = w := by
  obtain ⟨R, hR⟩ : ∃ R, dgB s.data.toList = R := ⟨_, rfl⟩
  rw [hR]
  have HR := Lib.hid hR
  clear hR
  go_enter Tryz.func76, Tryz.ntmps76
  go_wp2_with fail
  go_loopg [6] s.size (fun m v6 wr => ∃ i : Nat, m = s.size - i ∧ v6 = .int .i64 (i : Int) ∧ Hid (i ≤ s.size) ∧ Hid (∀ (j : Nat) (hj : j < s.size), j < i → isDig (s[j]'hj) = true) ∧ w = wr)
  case atStart => exact ⟨0, by omega, by rfl, Nat.zero_le _, fun j _ h => absurd h (Nat.not_lt_zero j), rfl⟩
  case round =>
    obtain ⟨i, hg, rfl, HK, HA, rfl⟩ := hrel
    have HG := Lib.hid hg
    clear hg
    by_cases hlt : i < s.size
    · obtain ⟨c, hc⟩ : ∃ c, s[i]'hlt = c := ⟨_, rfl⟩
      obtain ⟨X, hX⟩ : ∃ X, c.toNat = X := ⟨_, rfl⟩
      have hcx : (s[i]'hlt).toNat = X := by rw [hc, hX]
      have hlt' : (i : Int) < (s.size : Int) := by omega
      by_cases d1 : X < 48
      · have HF := Lib.hid (not_all_at s isDig i hlt (by rw [hc]; unfold isDig; rw [hX]; exact decide_eq_false (by omega)))
        have t1 : decide ((X : Int) < 48) = true := decide_eq_true (by omega)
        clear hc hX
        go_wp2_with fail
        go_ret
        exact ⟨ret_bool (by rw [← HR.out]; unfold dgB; rw [HF.out, Bool.and_false]), rfl⟩
      · have t1 : decide ((X : Int) < 48) = false := decide_eq_false (by omega)
        by_cases d2 : 57 < X
        · have HF := Lib.hid (not_all_at s isDig i hlt (by rw [hc]; unfold isDig; rw [hX]; exact decide_eq_false (by omega)))
          have t2 : decide ((X : Int) > 57) = true := decide_eq_true (by omega)
          clear hc hX
          go_wp2_with fail
          go_ret
          exact ⟨ret_bool (by rw [← HR.out]; unfold dgB; rw [HF.out, Bool.and_false]), rfl⟩
        · have t2 : decide ((X : Int) > 57) = false := decide_eq_false (by omega)
          have HD := Lib.hid (show isDig (s[i]'hlt) = true by rw [hc]; unfold isDig; rw [hX]; exact decide_eq_true (by omega))
          clear hc hX
          go_wp2_with fail
          go_roundg (s.size - (i + 1))
          case measure => have := HG.out; omega
          case rel =>
            refine ⟨i + 1, rfl, by go_num, by show i + 1 ≤ s.size; omega, ?_, rfl⟩
            intro j hj hji
            rcases Nat.lt_or_ge j i with h | h
            · exact HA.out j hj h
            · have e : j = i := by omega
              subst e
              exact HD.out
    · have hi : ¬ (i : Int) < (s.size : Int) := by omega
      have HF := Lib.hid (all_at s isDig (fun j hj => HA.out j hj (by omega)))
      by_cases h0 : s.size = 0
      · have HN := Lib.hid ((nil_size s).2 h0)
        clear hlt
        go_wp2_with fail
        go_ret
        exact ⟨ret_bool (by rw [← HR.out]; unfold dgB; rw [Lib.toList_data, HN.out]; simp), rfl⟩
      · have HN := Lib.hid (show s.data.toList ≠ [] from fun h => h0 ((nil_size s).1 h))
        clear hlt
        go_wp2_with fail
        go_ret
        exact ⟨ret_bool (by rw [← HR.out]; unfold dgB; rw [HF.out, Lib.toList_data]; generalize s.data.toList = l; cases l <;> simp), rfl⟩
theorem pDigits_is (s : ByteArray) (r : Bool) (h : dgB s.data.toList = r) (w : World) (hs : s.size ≤ 1000) :
    Calls Tryz.prog 76 #[.string s] w fun e w' => e = .returned (.bool r) ∧ w' = w := h ▸ pDigits s w hs

/-- degrees: no superfluous zeros -/
def dgrB (l : List UInt8) : Bool := dgB l && (decide (l.length = 1) || decide (l.head? ≠ some 48))
set_option maxHeartbeats 2000000 in
theorem pDegrees (s : ByteArray) (w : World) (hs : s.size ≤ 1000) :
    Calls Tryz.prog 57 #[.string s] w fun e w' => e = .returned (.bool (dgrB s.data.toList)) ∧ w' = w := by
  unfold dgrB
  cases hd : dgB s.data.toList
  · have C := Lib.hid (fun wx => pDigits_is s false hd wx hs)
    rw [Bool.false_and]
    clear hd
    go_enter Tryz.func57, Tryz.ntmps57
    go_wp2_with fail
    refine (C.out _).mono ?_
    rintro e w1 ⟨rfl, rfl⟩
    go_wp2_with fail
    go_ret
    exact ⟨rfl, rfl⟩
  · have C := Lib.hid (fun wx => pDigits_is s true hd wx hs)
    rw [Bool.true_and]
    have hz : 0 < s.size := by
      rcases Nat.eq_zero_or_pos s.size with h | h
      · unfold dgB at hd
        rw [(nil_size s).2 h] at hd
        simp at hd
      · exact h
    have hl : s.data.toList.length = s.size := by simp
    by_cases h1 : s.size = 1
    · have t1 : ((s.size : Int) == 1) = true := beq_iff_eq.2 (by omega)
      rw [decide_eq_true (show s.data.toList.length = 1 by omega), Bool.true_or]
      clear hd hl h1
      go_enter Tryz.func57, Tryz.ntmps57
      go_wp2_with fail
      refine (C.out _).mono ?_
      rintro e w1 ⟨rfl, rfl⟩
      go_wp2_with fail
      go_ret
      exact ⟨rfl, rfl⟩
    · have t1 : ((s.size : Int) == 1) = false := beq_eq_false_iff_ne.2 (by omega)
      rw [decide_eq_false (show ¬ s.data.toList.length = 1 by omega), Bool.false_or]
      obtain ⟨c, hc⟩ : ∃ c, s[0]'hz = c := ⟨_, rfl⟩
      obtain ⟨X, hX⟩ : ∃ X, c.toNat = X := ⟨_, rfl⟩
      have hcx : (s[0]'hz).toNat = X := by rw [hc, hX]
      have hh : s.data.toList.head? = some c := by
        rw [← hc, List.head?_eq_getElem?, List.getElem?_eq_getElem (by omega)]
        rfl
      rw [hh]
      by_cases h2 : X = 48
      · have t2 : ((X : Int) != 48) = false := by rw [bne_eq_false_iff_eq]; omega
        have e : c = 48 := by
          apply UInt8.toNat_inj.1
          rw [hX, h2]; rfl
        rw [decide_eq_false (show ¬ (some c ≠ some (48 : UInt8)) by rw [e]; simp)]
        clear hd hl h1 h2 hh e hc hX
        go_enter Tryz.func57, Tryz.ntmps57
        go_wp2_with fail
        refine (C.out _).mono ?_
        rintro e w1 ⟨rfl, rfl⟩
        go_wp2_with fail
        go_ret
        exact ⟨rfl, rfl⟩
      · have t2 : ((X : Int) != 48) = true := by rw [bne_iff_ne]; omega
        have e : c ≠ 48 := by
          rintro rfl
          exact h2 (hX.symm.trans rfl)
        rw [decide_eq_true (show some c ≠ some (48 : UInt8) by simpa using e)]
        clear hd hl h1 h2 hh e hc hX
        go_enter Tryz.func57, Tryz.ntmps57
        go_wp2_with fail
        refine (C.out _).mono ?_
        rintro e w1 ⟨rfl, rfl⟩
        go_wp2_with fail
        go_ret
        exact ⟨rfl, rfl⟩

/-- fractions: one to three digits -/
def frcB (l : List UInt8) : Bool := dgB l && decide (l.length ≤ 3)
set_option maxHeartbeats 2000000 in
theorem pFractionB (s : ByteArray) (w : World) (hs : s.size ≤ 1000) :
    Calls Tryz.prog 59 #[.string s] w fun e w' => e = .returned (.bool (frcB s.data.toList)) ∧ w' = w := by
  unfold frcB
  have hl : s.data.toList.length = s.size := by simp
  cases hd : dgB s.data.toList
  · have C := Lib.hid (fun wx => pDigits_is s false hd wx hs)
    rw [Bool.false_and]
    clear hd hl
    go_enter Tryz.func59, Tryz.ntmps59
    go_wp2_with fail
    refine (C.out _).mono ?_
    rintro e w1 ⟨rfl, rfl⟩
    go_wp2_with fail
    go_ret
    exact ⟨rfl, rfl⟩
  · have C := Lib.hid (fun wx => pDigits_is s true hd wx hs)
    rw [Bool.true_and]
    by_cases h1 : s.size ≤ 3
    · have t1 : decide ((s.size : Int) ≤ 3) = true := decide_eq_true (by omega)
      rw [decide_eq_true (show s.data.toList.length ≤ 3 by omega)]
      clear hd hl h1
      go_enter Tryz.func59, Tryz.ntmps59
      go_wp2_with fail
      refine (C.out _).mono ?_
      rintro e w1 ⟨rfl, rfl⟩
      go_wp2_with fail
      go_ret
      exact ⟨ret_bool (by simp), rfl⟩
    · have t1 : decide ((s.size : Int) ≤ 3) = false := decide_eq_false (by omega)
      rw [decide_eq_false (show ¬ s.data.toList.length ≤ 3 by omega)]
      clear hd hl h1
      go_enter Tryz.func59, Tryz.ntmps59
      go_wp2_with fail
      refine (C.out _).mono ?_
      rintro e w1 ⟨rfl, rfl⟩
      go_wp2_with fail
      go_ret
      exact ⟨ret_bool (by simp), rfl⟩

/-- minutes: two digits, less than 60 -/
def mnB (l : List UInt8) : Bool := dgB l && decide (l.length = 2) && Op.bytesLess l [54, 48]
set_option maxHeartbeats 2000000 in
theorem pMinutes (s : ByteArray) (w : World) (hs : s.size ≤ 1000) :
    Calls Tryz.prog 58 #[.string s] w fun e w' => e = .returned (.bool (mnB s.data.toList)) ∧ w' = w := by
  unfold mnB
  have hl : s.data.toList.length = s.size := by simp
  cases hd : dgB s.data.toList
  · have C := Lib.hid (fun wx => pDigits_is s false hd wx hs)
    rw [Bool.false_and, Bool.false_and]
    clear hd hl
    go_enter Tryz.func58, Tryz.ntmps58
    go_wp2_with fail
    refine (C.out _).mono ?_
    rintro e w1 ⟨rfl, rfl⟩
    go_wp2_with fail
    go_ret
    exact ⟨rfl, rfl⟩
  · have C := Lib.hid (fun wx => pDigits_is s true hd wx hs)
    rw [Bool.true_and]
    by_cases h1 : s.size = 2
    · have t1 : ((s.size : Int) == 2) = true := beq_iff_eq.2 (by omega)
      rw [decide_eq_true (show s.data.toList.length = 2 by omega), Bool.true_and]
      clear hd hl h1
      go_enter Tryz.func58, Tryz.ntmps58
      go_wp2_with fail
      refine (C.out _).mono ?_
      rintro e w1 ⟨rfl, rfl⟩
      go_wp2_with fail
      go_ret
      exact ⟨ret_bool (by rw [Lib.toList_data]), rfl⟩
    · have t1 : ((s.size : Int) == 2) = false := beq_eq_false_iff_ne.2 (by omega)
      rw [decide_eq_false (show ¬ s.data.toList.length = 2 by omega), Bool.false_and]
      clear hd hl h1
      go_enter Tryz.func58, Tryz.ntmps58
      go_wp2_with fail
      refine (C.out _).mono ?_
      rintro e w1 ⟨rfl, rfl⟩
      go_wp2_with fail
      go_ret
      exact ⟨rfl, rfl⟩
end Go.Proofs.YtgcoddjjkcdfmaaGreatDoor
