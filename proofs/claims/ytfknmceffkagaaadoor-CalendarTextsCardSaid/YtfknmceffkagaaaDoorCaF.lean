/- Calendar: the date of a number, on both sides; sums of dates and days; the order of dates. -/
import Derived.Test.YtfknmceffkagaaaDoorCaE
namespace Go.Proofs.YtfknmceffkagaaaDoor
open Go.RowKit
set_option linter.unusedVariables false
set_option maxRecDepth 100000

theorem dateOf_no (n : Int) (w : World) (h : n < -730119 ∨ 2921939 < n) :
    Calls Tryd.prog 23 #[.int .i64 n] w fun e w' => e = .returned (.tuple #[.agg #[.int .i64 0, .int .i64 0, .int .i64 0], .int .i64 2]) ∧ Below w.heap.size w w' := by
  have R := At3.new w (.int .i64 0) (.int .i64 0) (.int .i64 0) 23
  have HB := Lib.hid (below1 w (.cells #[.int .i64 0, .int .i64 0, .int .i64 0] 23))
  obtain ⟨R0, R1, R2, R3, R4, R5, -⟩ := id R
  by_cases c : n < -730119
  · clear h
    go_enter Tryd.func23, Tryd.ntmps23
    go_wp2_with fail
    refine bodyPost_ret (v := .tuple #[.agg #[.int .i64 0, .int .i64 0, .int .i64 0], .int .i64 2]) (by simp [results, Tryd.results23, go_sem]) rfl ⟨rfl, ?_⟩
    first
      | exact HB.out
      | exact below_set3 HB.out (by omega) _ _ _
  · have c2 : 2921939 < n := by omega
    clear h
    go_enter Tryd.func23, Tryd.ntmps23
    go_wp2_with fail
    refine bodyPost_ret (v := .tuple #[.agg #[.int .i64 0, .int .i64 0, .int .i64 0], .int .i64 2]) (by simp [results, Tryd.results23, go_sem]) rfl ⟨rfl, ?_⟩
    first
      | exact HB.out
      | exact below_set3 HB.out (by omega) _ _ _
set_option maxHeartbeats 2000000 in
theorem dateOf_ok (n y m d : Int) (w : World) (H : HasLen w) (ok : okD y m d = true) (hn : num y m d = n) :
    Calls Tryd.prog 23 #[.int .i64 n] w fun e w' => e = .returned (.tuple #[.agg #[.int .i64 y, .int .i64 m, .int .i64 d], .int .i64 0]) ∧ Below w.heap.size w w' := by
  have R := At3.new w (.int .i64 0) (.int .i64 0) (.int .i64 0) 23
  have HB := Lib.hid (below1 w (.cells #[.int .i64 0, .int .i64 0, .int .i64 0] 23))
  have HX := H.below HB.out
  clear H
  have OK := Lib.hid (okD_iff.1 ok)
  have b := bef_in (y := y) (by have := OK.out; omega) (by have := OK.out; omega)
  have q := num_in ok
  have r := num_range ok
  have yi := year_is ok hn
  have q2 := ylen_in (leapB y)
  rw [hn] at q r
  have CY := Lib.hid (fun (wx : World) => yearOf_any n y wx OK.out.1 OK.out.2.1 yi.1 yi.2)
  have CN := Lib.hid (fun (wx : World) => newYear_any y wx OK.out.1 (by have := OK.out; omega))
  have CL := Lib.hid (fun (k : Int) (wx : World) (hx : HasLen wx) (k1 : 1 ≤ k) (k2 : k ≤ 12) => length_any y k wx hx k1 k2)
  have DI := Lib.hid (fun k => dim_in (leapB y) k)
  have CI := Lib.hid (fun k (k1 : 1 ≤ k) (k2 : k ≤ 12) => cum_in (leapB y) (m := k) k1 k2)
  have CS := Lib.hid (fun k (k1 : 1 ≤ k) (k2 : k ≤ 12) => cum_succ (leapB y) (m := k) k1 k2)
  have CM := Lib.hid (fun k (k1 : 1 ≤ k) (k2 : k < m) => cum_mono (leapB y) (m := k) (n := m) k1 k2 (by have := OK.out; omega))
  have CO := Lib.hid (cum_one (leapB y))
  have YI := Lib.hid (ylen_in (leapB y))
  have e : n = bef y - 730119 + (cum (leapB y) m + d) - 1 := by rw [← hn]; unfold num; omega
  obtain ⟨c, hc⟩ : ∃ c, cum (leapB y) m + d = c := ⟨_, rfl⟩
  rw [hc] at q e
  have HC := Lib.hid hc
  obtain ⟨u, hu⟩ : ∃ u, bef y - 730119 = u := ⟨_, rfl⟩
  rw [hu] at CN e
  have u1 : -730119 ≤ u := by omega
  have u2 : u ≤ 2921940 := by omega
  have c1 : 1 ≤ c := by omega
  have c2 : c ≤ 366 := by omega
  have r1 : -730119 ≤ n := r.1
  have r2 : n ≤ 2921939 := r.2
  have e1 : n - u + 1 = c := by omega
  clear b q q2 r yi hc hu e ok hn
  generalize leapB y = l at *
  obtain ⟨R0, R1, R2, R3, R4, R5, -⟩ := id R
  go_enter Tryd.func23, Tryd.ntmps23
  go_wp2_with fail
  refine (CY.out _).mono ?_
  rintro e w1 ⟨rfl, hb⟩
  have R := R.keep hb
  have HX := HX.below hb
  have HB := Lib.hid (bstep HB.out hb)
  clear hb R0 R1 R2 R3 R4 R5 CY
  go_wp2_with fail
  refine (CN.out _).mono ?_
  rintro e w2 ⟨rfl, rfl⟩
  go_wp2_with fail

  go_loopg [5, 6] 12 (fun g v5 v6 wr => ∃ j : Nat, g = 12 - j ∧ v5 = .int .i64 ((j : Int) + 1) ∧ v6 = .int .i64 (c - cum l ((j : Int) + 1)) ∧ Hid ((j : Int) + 1 ≤ m) ∧ w2 = wr)
  case atStart => exact ⟨0, rfl, by go_num, by rw [show ((0 : Nat) : Int) + 1 = 1 by rfl, CO.out]; go_num, OK.out.2.2.1, rfl⟩
  case round =>
    obtain ⟨j, hm, rfl, rfl, HJ, rfl⟩ := hrel
    have HG := Lib.hid hm
    clear hm
    have b0 := OK.out.2.2.2.2.1
    have b1 := OK.out.2.2.2.2.2
    have b2 := (DI.out m).2
    have b3 := OK.out.2.2.2.1
    have b4 := HJ.out
    have j1 : (j : Int) ≤ 11 := by omega
    have q := CI.out ((j : Int) + 1) (by omega) (by omega)
    have q2 := DI.out ((j : Int) + 1)
    have q3 := YI.out
    have q4 := CS.out ((j : Int) + 1) (by omega) (by omega)
    have NX := Lib.hid q4
    have hc := HC.out
    obtain ⟨p, hp⟩ : ∃ p, c - cum l ((j : Int) + 1) = p := ⟨_, rfl⟩
    obtain ⟨v, hv⟩ : ∃ v, dim l ((j : Int) + 1) = v := ⟨_, rfl⟩
    have HP := Lib.hid hp
    have HV := Lib.hid hv
    have v1 : 28 ≤ v := by omega
    have v2 : v ≤ 31 := by omega
    have p1 : -366 ≤ p := by omega
    have p2 : p ≤ 366 := by omega
    have CK := CL.out ((j : Int) + 1)
    rw [hv] at CK
    have CK := Lib.hid CK
    rw [hp]
    by_cases hlt : (j : Int) + 1 < m
    · have q5 := CM.out ((j : Int) + 1) (by omega) hlt
      have big : v < p := by omega
      clear q q2 q3 q4 q5 hc hp hv b0 b1 b2 b3 b4
      go_wp2_with fail
      refine (CK.out _ HX (by omega) (by omega)).mono ?_
      rintro e w3 ⟨rfl, rfl⟩
      go_wp2_with fail
      refine (CK.out _ HX (by omega) (by omega)).mono ?_
      rintro e w3 ⟨rfl, rfl⟩
      go_wp2_with fail
      go_roundg (12 - (j + 1))
      case measure => have := HG.out; omega
      case rel => exact ⟨j + 1, rfl, by go_num, by rw [show ((j + 1 : Nat) : Int) + 1 = (j : Int) + 1 + 1 by omega, NX.out, HV.out, ← HP.out]; go_num, by show _ ≤ _; omega, rfl⟩
    · have e : (j : Int) + 1 = m := by omega
      have small : p ≤ v := by rw [← e] at b1 hc; omega
      have HD := Lib.hid (show p = d by rw [← e] at hc; omega)
      have HE := Lib.hid e
      clear q q2 q3 q4 hc hp hv b0 b1 b2 b3 b4 e
      obtain ⟨R0, R1, R2, R3, R4, R5, -⟩ := id R
      obtain ⟨z0, z1, z2, -, -, -, -⟩ := R.put (.int .i64 y) (.int .i64 ((j : Int) + 1)) (.int .i64 p)
      go_wp2_with fail
      refine (CK.out _ HX (by omega) (by omega)).mono ?_
      rintro e w3 ⟨rfl, rfl⟩
      go_wp2_with fail
      refine bodyPost_ret (v := .tuple #[.agg #[.int .i64 y, .int .i64 ((j : Int) + 1), .int .i64 p], .int .i64 0]) (by simp [results, Tryd.results23, go_sem, z0, z1, z2]) rfl ⟨by rw [HD.out, HE.out], ?_⟩
      exact below_set3 HB.out (by omega) _ _ _
end Go.Proofs.YtfknmceffkagaaaDoor
