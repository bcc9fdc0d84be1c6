/- Calendar: the numbers of dates, on both sides. -/
import Derived.Test.YtfknmceffkagaaaDoorCaB
namespace Go.Proofs.YtfknmceffkagaaaDoor
open Go.RowKit
set_option linter.unusedVariables false
set_option maxRecDepth 100000

def vD (y m d : Int) : Value := .agg #[.int .i64 y, .int .i64 m, .int .i64 d]
/-- a date and an error -/
def vDE (y m d e : Int) : Value := .tuple #[.agg #[.int .i64 y, .int .i64 m, .int .i64 d], .int .i64 e]
def vIE (x e : Int) : Value := .tuple #[.int .i64 x, .int .i64 e]
def ymB (y m : Int) : Bool := decide (1 ≤ y ∧ y ≤ 9999 ∧ 1 ≤ m ∧ m ≤ 12)
theorem ymB_iff {y m : Int} : ymB y m = true ↔ (1 ≤ y ∧ y ≤ 9999 ∧ 1 ≤ m ∧ m ≤ 12) := by unfold ymB; simp
theorem days_any (y m : Int) (w : World) (H : HasLen w) :
    Calls Tryd.prog 10 #[.int .i64 y, .int .i64 m] w fun e w' => e = .returned (if ymB y m = true then vIE (dim (leapB y) m) 0 else vIE 0 2) ∧ w' = w := by
  by_cases c1 : y < 1
  · rw [if_neg (fun k => by have := ymB_iff.1 k; omega)]
    clear H
    go_enter Tryd.func10, Tryd.ntmps10
    go_wp2_with fail
    go_ret2
    exact ⟨rfl, rfl⟩
  · by_cases c2 : 9999 < y
    · rw [if_neg (fun k => by have := ymB_iff.1 k; omega)]
      clear H
      go_enter Tryd.func10, Tryd.ntmps10
      go_wp2_with fail
      go_ret2
      exact ⟨rfl, rfl⟩
    · by_cases c3 : m < 1
      · rw [if_neg (fun k => by have := ymB_iff.1 k; omega)]
        clear H
        go_enter Tryd.func10, Tryd.ntmps10
        go_wp2_with fail
        go_ret2
        exact ⟨rfl, rfl⟩
      · by_cases c4 : 12 < m
        · rw [if_neg (fun k => by have := ymB_iff.1 k; omega)]
          clear H
          go_enter Tryd.func10, Tryd.ntmps10
          go_wp2_with fail
          go_ret2
          exact ⟨rfl, rfl⟩
        · rw [if_pos (ymB_iff.2 (by omega))]
          have C1 := Lib.hid (length_any y m w H (by omega) (by omega))
          generalize dim (leapB y) m = v at *
          clear H
          go_enter Tryd.func10, Tryd.ntmps10
          go_wp2_with fail
          refine (C1.out).mono ?_
          rintro e w1 ⟨rfl, rfl⟩
          go_wp2_with fail
          go_ret2
          exact ⟨rfl, rfl⟩
theorem okD_ym {y m d : Int} (h : ymB y m = true) : okD y m d = decide (1 ≤ d ∧ d ≤ dim (leapB y) m) := by
  have k := ymB_iff.1 h
  unfold okD
  rw [decide_eq_decide]
  omega
theorem okD_bad {y m d : Int} (h : ¬ ymB y m = true) : okD y m d = false := okD_not.2 (fun k => h (ymB_iff.2 (by omega)))
theorem valid_any (y m d : Int) (w : World) (H : HasLen w) :
    Calls Tryd.prog 11 #[.agg #[.int .i64 y, .int .i64 m, .int .i64 d]] w fun e w' => e = .returned (.bool (okD y m d)) ∧ Below w.heap.size w w' := by
  have A := At3.new w (.int .i64 y) (.int .i64 m) (.int .i64 d) 23
  have C1 := Lib.hid (days_any y m (w.alloc (.cells #[.int .i64 y, .int .i64 m, .int .i64 d] 23)) (H.below (below1 _ _)))
  obtain ⟨A0, A1, A2, -, -, -, -⟩ := id A
  clear H
  by_cases hy : ymB y m = true
  · rw [okD_ym hy]
    rw [if_pos hy] at C1
    have hd := dim_in (leapB y) m
    generalize dim (leapB y) m = v at *
    unfold vIE at C1
    clear hy
    by_cases c1 : 1 ≤ d
    · by_cases c2 : d ≤ v
      · rw [decide_eq_true (show 1 ≤ d ∧ d ≤ v from ⟨c1, c2⟩)]
        go_enter Tryd.func11, Tryd.ntmps11
        go_wp2_with fail
        refine (C1.out).mono ?_
        rintro e w1 ⟨rfl, rfl⟩
        go_wp2_with fail
        go_ret
        exact ⟨by first | rfl | exact ret_bool (by first | (simp; done) | (simp; omega)), below1 _ _⟩
      · rw [decide_eq_false (show ¬ (1 ≤ d ∧ d ≤ v) by omega)]
        go_enter Tryd.func11, Tryd.ntmps11
        go_wp2_with fail
        refine (C1.out).mono ?_
        rintro e w1 ⟨rfl, rfl⟩
        go_wp2_with fail
        go_ret
        exact ⟨by first | rfl | exact ret_bool (by first | (simp; done) | (simp; omega)), below1 _ _⟩
    · rw [decide_eq_false (show ¬ (1 ≤ d ∧ d ≤ v) by omega)]
      go_enter Tryd.func11, Tryd.ntmps11
      go_wp2_with fail
      refine (C1.out).mono ?_
      rintro e w1 ⟨rfl, rfl⟩
      go_wp2_with fail
      go_ret
      exact ⟨by first | rfl | exact ret_bool (by first | (simp; done) | (simp; omega)), below1 _ _⟩
  · rw [okD_bad hy]
    rw [if_neg hy] at C1
    unfold vIE at C1
    go_enter Tryd.func11, Tryd.ntmps11
    go_wp2_with fail
    refine (C1.out).mono ?_
    rintro e w1 ⟨rfl, rfl⟩
    go_wp2_with fail
    go_ret
    exact ⟨by first | rfl | exact ret_bool (by first | (simp; done) | (simp; omega)), below1 _ _⟩
set_option maxHeartbeats 1000000 in
theorem doy_any (y m d : Int) (w : World) (H : HasLen w) (ok : okD y m d = true) :
    Calls Tryd.prog 35 #[.agg #[.int .i64 y, .int .i64 m, .int .i64 d]] w fun e w' => e = .returned (.int .i64 (cum (leapB y) m + d)) ∧ Below w.heap.size w w' := by
  have A := At3.new w (.int .i64 y) (.int .i64 m) (.int .i64 d) 23
  have HB := Lib.hid (below1 w (.cells #[.int .i64 y, .int .i64 m, .int .i64 d] 23))
  have HX := H.below HB.out
  clear H
  obtain ⟨A0, A1, A2, -, -, -, -⟩ := id A
  clear A
  have OK := Lib.hid (okD_iff.1 ok)
  clear ok
  have CL := Lib.hid (fun (k : Int) (wx : World) (hx : HasLen wx) (k1 : 1 ≤ k) (k2 : k ≤ 12) => length_any y k wx hx k1 k2)
  have DI := Lib.hid (fun k => dim_in (leapB y) k)
  have CI := Lib.hid (fun k (k1 : 1 ≤ k) (k2 : k ≤ 12) => cum_in (leapB y) (m := k) k1 k2)
  have CS := Lib.hid (fun k (k1 : 1 ≤ k) (k2 : k ≤ 12) => cum_succ (leapB y) (m := k) k1 k2)
  have CO := Lib.hid (cum_one (leapB y))
  have YI := Lib.hid (ylen_in (leapB y))
  generalize leapB y = l at *
  go_enter Tryd.func35, Tryd.ntmps35
  go_wp2_with fail
  go_loopg [3, 4] 12 (fun g v3 v4 wr => ∃ j : Nat, g = 12 - j ∧ v3 = .int .i64 (cum l ((j : Int) + 1) + d) ∧ v4 = .int .i64 ((j : Int) + 1) ∧ Hid ((j : Int) + 1 ≤ m) ∧ (w.alloc (.cells #[.int .i64 y, .int .i64 m, .int .i64 d] 23)) = wr)
  case atStart => exact ⟨0, rfl, by rw [show ((0 : Nat) : Int) + 1 = 1 by rfl, CO.out]; go_num, by go_num, OK.out.2.2.1, rfl⟩
  case round =>
    obtain ⟨j, hm, rfl, rfl, HJ, rfl⟩ := hrel
    have HG := Lib.hid hm
    clear hm
    have b0 := OK.out.2.2.2.2.1
    have b1 := OK.out.2.2.2.2.2
    have b2 := (DI.out m).2
    have b3 := OK.out.2.2.2.1
    have b4 := HJ.out
    have q := CI.out ((j : Int) + 1) (by omega) (by omega)
    have q2 := DI.out ((j : Int) + 1)
    have q3 := YI.out
    have q4 := CS.out ((j : Int) + 1) (by omega) (by omega)
    have NX := Lib.hid q4
    obtain ⟨c, hc⟩ : ∃ c, cum l ((j : Int) + 1) = c := ⟨_, rfl⟩
    obtain ⟨v, hv⟩ : ∃ v, dim l ((j : Int) + 1) = v := ⟨_, rfl⟩
    have d1 : d ≤ 31 := by omega
    have j1 : (j : Int) ≤ 11 := by omega
    have c1 : 0 ≤ c := by omega
    have c2 : c ≤ 366 := by omega
    have v1 : 28 ≤ v := by omega
    have v2 : v ≤ 31 := by omega
    rw [hc, hv] at NX
    rw [hc]
    by_cases hlt : (j : Int) + 1 < m
    · have CK := CL.out ((j : Int) + 1)
      rw [hv] at CK
      have CK := Lib.hid CK
      clear q q2 q3 q4 hc hv b1 b2 b3 b4
      go_wp2_with fail
      refine (CK.out _ HX (by omega) (by omega)).mono ?_
      rintro e w1 ⟨rfl, rfl⟩
      go_wp2_with fail
      go_roundg (12 - (j + 1))
      case measure => have := HG.out; omega
      case rel => exact ⟨j + 1, rfl, by rw [show ((j + 1 : Nat) : Int) + 1 = (j : Int) + 1 + 1 by omega, NX.out]; go_num, by go_num, by show _ ≤ _; omega, rfl⟩
    · have e : (j : Int) + 1 = m := by omega
      have HC := Lib.hid (show c = cum l m by rw [← e]; exact hc.symm)
      clear q q2 q3 q4 hc hv e
      go_wp2_with fail
      go_ret
      exact ⟨ret_int (by rw [HC.out]), HB.out⟩
set_option maxHeartbeats 1000000 in
theorem rdoy_any (y m d : Int) (w : World) (ok : okD y m d = true) :
    Calls Tryd.prog 22 #[.agg #[.int .i64 y, .int .i64 m, .int .i64 d]] w fun e w' => e = .returned (.int .i64 (cum (leapB y) m + d)) ∧ Below w.heap.size w w' := by
  have A := At3.new w (.int .i64 y) (.int .i64 m) (.int .i64 d) 23
  have HB := Lib.hid (below1 w (.cells #[.int .i64 y, .int .i64 m, .int .i64 d] 23))
  obtain ⟨A0, A1, A2, -, -, -, -⟩ := id A
  clear A
  have OK := Lib.hid (okD_iff.1 ok)
  clear ok
  have CL := Lib.hid (fun (k : Int) (wx : World) => rdays_any y k wx)
  have DI := Lib.hid (fun k => dim_in (leapB y) k)
  have CI := Lib.hid (fun k (k1 : 1 ≤ k) (k2 : k ≤ 12) => cum_in (leapB y) (m := k) k1 k2)
  have CS := Lib.hid (fun k (k1 : 1 ≤ k) (k2 : k ≤ 12) => cum_succ (leapB y) (m := k) k1 k2)
  have CO := Lib.hid (cum_one (leapB y))
  have YI := Lib.hid (ylen_in (leapB y))
  generalize leapB y = l at *
  go_enter Tryd.func22, Tryd.ntmps22
  go_wp2_with fail
  go_loopg [3, 4] 12 (fun g v3 v4 wr => ∃ j : Nat, g = 12 - j ∧ v3 = .int .i64 (cum l ((j : Int) + 1) + d) ∧ v4 = .int .i64 ((j : Int) + 1) ∧ Hid ((j : Int) + 1 ≤ m) ∧ (w.alloc (.cells #[.int .i64 y, .int .i64 m, .int .i64 d] 23)) = wr)
  case atStart => exact ⟨0, rfl, by rw [show ((0 : Nat) : Int) + 1 = 1 by rfl, CO.out]; go_num, by go_num, OK.out.2.2.1, rfl⟩
  case round =>
    obtain ⟨j, hm, rfl, rfl, HJ, rfl⟩ := hrel
    have HG := Lib.hid hm
    clear hm
    have b0 := OK.out.2.2.2.2.1
    have b1 := OK.out.2.2.2.2.2
    have b2 := (DI.out m).2
    have b3 := OK.out.2.2.2.1
    have b4 := HJ.out
    have q := CI.out ((j : Int) + 1) (by omega) (by omega)
    have q2 := DI.out ((j : Int) + 1)
    have q3 := YI.out
    have q4 := CS.out ((j : Int) + 1) (by omega) (by omega)
    have NX := Lib.hid q4
    obtain ⟨c, hc⟩ : ∃ c, cum l ((j : Int) + 1) = c := ⟨_, rfl⟩
    obtain ⟨v, hv⟩ : ∃ v, dim l ((j : Int) + 1) = v := ⟨_, rfl⟩
    have d1 : d ≤ 31 := by omega
    have j1 : (j : Int) ≤ 11 := by omega
    have c1 : 0 ≤ c := by omega
    have c2 : c ≤ 366 := by omega
    have v1 : 28 ≤ v := by omega
    have v2 : v ≤ 31 := by omega
    rw [hc, hv] at NX
    rw [hc]
    by_cases hlt : (j : Int) + 1 < m
    · have CK := CL.out ((j : Int) + 1)
      rw [hv] at CK
      have CK := Lib.hid CK
      clear q q2 q3 q4 hc hv b1 b2 b3 b4
      go_wp2_with fail
      refine (CK.out _).mono ?_
      rintro e w1 ⟨rfl, rfl⟩
      go_wp2_with fail
      go_roundg (12 - (j + 1))
      case measure => have := HG.out; omega
      case rel => exact ⟨j + 1, rfl, by rw [show ((j + 1 : Nat) : Int) + 1 = (j : Int) + 1 + 1 by omega, NX.out]; go_num, by go_num, by show _ ≤ _; omega, rfl⟩
    · have e : (j : Int) + 1 = m := by omega
      have HC := Lib.hid (show c = cum l m by rw [← e]; exact hc.symm)
      clear q q2 q3 q4 hc hv e
      go_wp2_with fail
      go_ret
      exact ⟨ret_int (by rw [HC.out]), HB.out⟩
end Go.Proofs.YtfknmceffkagaaaDoor
