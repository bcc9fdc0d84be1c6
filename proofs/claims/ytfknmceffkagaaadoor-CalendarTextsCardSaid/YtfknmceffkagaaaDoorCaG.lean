/- Calendar: the date of a number by the reference; sums of dates and days; the order of dates. -/
import Derived.Test.YtfknmceffkagaaaDoorCaF
import Derived.Test.YtfknmceffkagaaaDoorShelf
namespace Go.Proofs.YtfknmceffkagaaaDoor
open Go.RowKit
set_option linter.unusedVariables false
set_option maxRecDepth 100000

set_option maxHeartbeats 2000000 in
theorem rdateOf_ok (n y m d : Int) (w : World) (ok : okD y m d = true) (hn : num y m d = n) :
    Calls Tryd.prog 26 #[.int .i64 n] w fun e w' => e = .returned (.agg #[.int .i64 y, .int .i64 m, .int .i64 d]) ∧ Below w.heap.size w w' := by
  have R := At3.new w (.int .i64 0) (.int .i64 0) (.int .i64 0) 23
  have HB := Lib.hid (below1 w (.cells #[.int .i64 0, .int .i64 0, .int .i64 0] 23))
  have OK := Lib.hid (okD_iff.1 ok)
  have b := bef_in (y := y) (by have := OK.out; omega) (by have := OK.out; omega)
  have q := num_in ok
  have r := num_range ok
  have yi := year_is ok hn
  have q2 := ylen_in (leapB y)
  rw [hn] at q r
  have Y := Lib.hid yi
  have CN := Lib.hid (fun (k : Int) (wx : World) (k1 : 1 ≤ k) (k2 : k ≤ 10000) => rbefore_any k wx k1 k2)
  have CZ := Lib.hid (fun (wx : World) => toldS (rbefore_any 2000 wx (by omega) (by omega)) (show bef 2000 = 730119 by decide))
  have CL := Lib.hid (fun (k : Int) (wx : World) => rdays_any y k wx)
  have DI := Lib.hid (fun k => dim_in (leapB y) k)
  have CI := Lib.hid (fun k (k1 : 1 ≤ k) (k2 : k ≤ 12) => cum_in (leapB y) (m := k) k1 k2)
  have CS := Lib.hid (fun k (k1 : 1 ≤ k) (k2 : k ≤ 12) => cum_succ (leapB y) (m := k) k1 k2)
  have CM := Lib.hid (fun k (k1 : 1 ≤ k) (k2 : k < m) => cum_mono (leapB y) (m := k) (n := m) k1 k2 (by have := OK.out; omega))
  have CO := Lib.hid (cum_one (leapB y))
  have YI := Lib.hid (ylen_in (leapB y))
  have e : n = bef y - 730119 + (cum (leapB y) m + d) - 1 := by rw [← hn]; unfold num; omega
  obtain ⟨c, hc⟩ : ∃ c, cum (leapB y) m + d - 1 = c := ⟨_, rfl⟩
  have HC := Lib.hid hc
  obtain ⟨u, hu⟩ : ∃ u, bef y - 730119 = u := ⟨_, rfl⟩
  have HU := Lib.hid hu
  have u1 : -730119 ≤ u := by omega
  have u2 : u ≤ 2921940 := by omega
  have c1 : 0 ≤ c := by omega
  have c2 : c ≤ 366 := by omega
  have r1 : -730119 ≤ n := r.1
  have r2 : n ≤ 2921939 := r.2
  have e1 : n - u = c := by omega
  clear b q q2 r yi hc hu e ok hn
  generalize leapB y = l at *
  obtain ⟨R0, R1, R2, R3, R4, R5, -⟩ := id R
  have R := Lib.hid R
  go_enter Tryd.func26, Tryd.ntmps26
  go_wp2_with fail
  obtain ⟨N, hN⟩ : ∃ N : Nat, N = 9999 := ⟨_, rfl⟩
  have HN := Lib.hid hN
  rw [show (9999 : Int) = (N : Int) by rw [hN]; rfl]
  have n1 : N < 4611686018427387904 := by omega
  clear hN
  go_loopg [3, 4] N (fun kx s3 s4 wr => ∃ (lo hi : Nat), s3 = .int .i64 lo ∧ s4 = .int .i64 hi ∧ lo ≤ hi ∧ hi ≤ N ∧ hi - lo ≤ kx ∧ Hid (1 ≤ (lo : Int) ∧ (lo : Int) ≤ y ∧ y ≤ (hi : Int)) ∧ w.alloc (.cells #[.int .i64 0, .int .i64 0, .int .i64 0] 23) = wr)
  case atStart => exact ⟨1, N, rfl, rfl, by have := HN.out; omega, Nat.le_refl _, by omega, (by show (1 : Int) ≤ ((1 : Nat) : Int) ∧ ((1 : Nat) : Int) ≤ y ∧ y ≤ (N : Int); have := HN.out; have := OK.out; omega), rfl⟩
  case round =>
    obtain ⟨lo, hi, rfl, rfl, hlh, hin, hg, I, rfl⟩ := hrel
    by_cases hlt : lo < hi
    · obtain ⟨k, hk⟩ : ∃ k, k = (lo + hi + 1) / 2 := ⟨_, rfl⟩
      have hk1 : ((lo : Int) + (hi : Int) + 1).tdiv 2 = (k : Int) := by rw [Int.tdiv_eq_ediv_of_nonneg (by omega)]; omega
      have kb : 1 ≤ (k : Int) ∧ (k : Int) ≤ 9999 := by have := HN.out; have := I.out; omega
      have C1 := Lib.hid (fun (wx : World) => CN.out (k : Int) wx kb.1 (by omega))
      have bk := bef_in (y := (k : Int)) kb.1 (by omega)
      have JA : (bef (k : Int) - 730119 ≤ n → (k : Int) ≤ y) ∧ (¬ bef (k : Int) - 730119 ≤ n → y ≤ (k : Int) - 1) := by
        constructor
        · intro h
          refine Int.not_lt.1 fun h' => ?_
          have := bef_le (show y + 1 ≤ (k : Int) by omega)
          have := Y.out.2
          omega
        · intro h
          refine Int.le_sub_one_of_lt (Int.not_le.1 fun h' => h ?_)
          have := bef_le h'
          have := Y.out.1
          omega
      have JA := Lib.hid JA
      obtain ⟨v, hv⟩ : ∃ v, bef (k : Int) = v := ⟨_, rfl⟩
      rw [hv] at C1 JA bk
      have v1 := bk.1
      have v2 := bk.2
      have HK := Lib.hid hk
      have KB := Lib.hid kb
      have k1 : (k : Int) ≤ 9999 := kb.2
      have k0 : 1 ≤ (k : Int) := kb.1
      clear bk hv hk kb
      by_cases hp : v - 730119 ≤ n
      · have J := Lib.hid (JA.out.1 hp)
        go_wp2_with fail
        refine (C1.out _).mono ?_
        rintro e w2 ⟨rfl, rfl⟩
        go_wp2_with fail
        refine (CZ.out _).mono ?_
        rintro e w2 ⟨rfl, rfl⟩
        go_wp2_with fail
        go_roundg (hi - k)
        case measure => have := HK.out; omega
        case rel => exact ⟨k, hi, rfl, rfl, by have := HK.out; omega, hin, Nat.le_refl _, ⟨by omega, J.out, I.out.2.2⟩, rfl⟩
      · have J := Lib.hid (JA.out.2 hp)
        go_wp2_with fail
        refine (C1.out _).mono ?_
        rintro e w2 ⟨rfl, rfl⟩
        go_wp2_with fail
        refine (CZ.out _).mono ?_
        rintro e w2 ⟨rfl, rfl⟩
        go_wp2_with fail
        go_roundg (k - 1 - lo)
        case measure => have := HK.out; omega
        case rel => exact ⟨lo, k - 1, rfl, by rw [show ((k - 1 : Nat) : Int) = (k : Int) - 1 by omega], by have := HK.out; omega, by have := HK.out; omega, Nat.le_refl _, ⟨I.out.1, I.out.2.1, by have := J.out; omega⟩, rfl⟩
    · obtain rfl : hi = lo := by omega
      have ey : (hi : Int) = y := by have := I.out; omega
      have EY := Lib.hid ey
      have C1 := Lib.hid (fun (wx : World) => CN.out y wx (by have := OK.out; omega) (by have := OK.out; omega))
      obtain ⟨v, hv⟩ : ∃ v, bef y = v := ⟨_, rfl⟩
      have e2 : v - 730119 = u := by rw [← hv]; exact HU.out
      rw [hv] at C1
      have v1 : 0 ≤ v := by omega
      have v2 : v ≤ 3652059 := by omega
      rw [ey]
      clear hv ey hlt hlh hg hin I
      have hz : ¬ y < y := by omega
      go_wp2_with fail
      refine (C1.out _).mono ?_
      rintro e w2 ⟨rfl, rfl⟩
      go_wp2_with fail
      refine (CZ.out _).mono ?_
      rintro e w2 ⟨rfl, rfl⟩
      go_wp2_with fail
      go_loopg [6, 7] 12 (fun g v6 v7 wr => ∃ j : Nat, g = 12 - j ∧ v7 = .int .i64 ((j : Int) + 1) ∧ v6 = .int .i64 (c - cum l ((j : Int) + 1)) ∧ Hid ((j : Int) + 1 ≤ m) ∧ w.alloc (.cells #[.int .i64 0, .int .i64 0, .int .i64 0] 23) = wr)
      case atStart => exact ⟨0, rfl, by go_num, by rw [show ((0 : Nat) : Int) + 1 = 1 by rfl, CO.out]; go_num, OK.out.2.2.1, rfl⟩
      case round =>
        obtain ⟨j, hm, rfl, rfl, HJ, rfl⟩ := hrel
        have HG := Lib.hid hm
        clear hm
        have b0 := OK.out.2.2.2.2.1
        have b1 := OK.out.2.2.2.2.2
        have b2 := (DI.out m).2
        have b3 := OK.out.2.2.2.1
        have b4 := HJ.out
        have j1 : (j : Int) ≤ 11 := by omega
        have q := CI.out ((j : Int) + 1) (by omega) (by omega)
        have q2 := DI.out ((j : Int) + 1)
        have q3 := YI.out
        have q4 := CS.out ((j : Int) + 1) (by omega) (by omega)
        have NX := Lib.hid q4
        have hc := HC.out
        obtain ⟨p, hp⟩ : ∃ p, c - cum l ((j : Int) + 1) = p := ⟨_, rfl⟩
        obtain ⟨v, hv⟩ : ∃ v, dim l ((j : Int) + 1) = v := ⟨_, rfl⟩
        have HP := Lib.hid hp
        have HV := Lib.hid hv
        have v1 : 28 ≤ v := by omega
        have v2 : v ≤ 31 := by omega
        have p1 : -366 ≤ p := by omega
        have p2 : p ≤ 366 := by omega
        have CK := CL.out ((j : Int) + 1)
        rw [hv] at CK
        have CK := Lib.hid CK
        rw [hp]
        by_cases hlt : (j : Int) + 1 < m
        · have q5 := CM.out ((j : Int) + 1) (by omega) hlt
          have big : v ≤ p := by omega
          clear q q2 q3 q4 q5 hc hp hv b0 b1 b2 b3 b4
          go_wp2_with fail
          refine (CK.out _).mono ?_
          rintro e w3 ⟨rfl, rfl⟩
          go_wp2_with fail
          refine (CK.out _).mono ?_
          rintro e w3 ⟨rfl, rfl⟩
          go_wp2_with fail
          go_roundg (12 - (j + 1))
          case measure => have := HG.out; omega
          case rel => exact ⟨j + 1, rfl, by go_num, by rw [show ((j + 1 : Nat) : Int) + 1 = (j : Int) + 1 + 1 by omega, NX.out, HV.out, ← HP.out]; go_num, by show _ ≤ _; omega, rfl⟩
        · have e : (j : Int) + 1 = m := by omega
          have small : ¬ v ≤ p := by rw [← e] at b1 hc; omega
          have HD := Lib.hid (show p + 1 = d by rw [← e] at hc; omega)
          have HE := Lib.hid e
          clear q q2 q3 q4 hc hp hv b0 b1 b2 b3 b4 e
          obtain ⟨R0, R1, R2, R3, R4, R5, -⟩ := id R.out
          go_wp2_with fail
          refine (CK.out _).mono ?_
          rintro e w3 ⟨rfl, rfl⟩
          go_wp2_with fail
          refine bodyPost_ret (v := .agg #[.int .i64 y, .int .i64 ((j : Int) + 1), .int .i64 (p + 1)]) (by simp [results, Tryd.results26, go_sem]) rfl ⟨by rw [HD.out, HE.out], ?_⟩
          exact below1 _ _
set_option maxHeartbeats 1000000 in
theorem add_ok (y m d k y' m' d' : Int) (w : World) (H : HasLen w) (ok : okD y m d = true) (ok' : okD y' m' d' = true) (hn : num y' m' d' = num y m d + k) :
    Calls Tryd.prog 27 #[.agg #[.int .i64 y, .int .i64 m, .int .i64 d], .int .i64 k] w fun e w' => e = .returned (.tuple #[.agg #[.int .i64 y', .int .i64 m', .int .i64 d'], .int .i64 0]) ∧ Below w.heap.size w w' := by
  have HB := Lib.hid (below2 w (.cells #[.int .i64 y, .int .i64 m, .int .i64 d] 23) (.cells #[.int .i64 0, .int .i64 0, .int .i64 0] 23))
  have A := (At3.new w (.int .i64 y) (.int .i64 m) (.int .i64 d) 23).alloc (.cells #[.int .i64 0, .int .i64 0, .int .i64 0] 23)
  have R := At3.new (w.alloc (.cells #[.int .i64 y, .int .i64 m, .int .i64 d] 23)) (.int .i64 0) (.int .i64 0) (.int .i64 0) 23
  simp at R
  have HX := H.below HB.out
  clear H
  have CN := Lib.hid (number_ok y m d _ HX ok)
  have r := num_range ok
  have r' := num_range ok'
  have CD := Lib.hid (fun (wx : World) (hx : HasLen wx) => dateOf_ok (num y' m' d') y' m' d' wx hx ok' rfl)
  rw [hn] at CD r'
  generalize num y m d = n at *
  obtain ⟨s, hs⟩ : ∃ s, n + k = s := ⟨_, rfl⟩
  rw [hs] at CD r'
  have e0 : wrap64 (n + k) = s := w64_is hs (by omega) (by omega)
  have k1 : -5000000 ≤ k := by omega
  have k2 : k ≤ 5000000 := by omega
  have n1 : -730119 ≤ n := r.1
  have n2 : n ≤ 2921939 := r.2
  clear r r' hn ok ok'
  obtain ⟨A0, A1, A2, -, -, -, -⟩ := id A
  obtain ⟨R0, R1, R2, R3, R4, R5, -⟩ := id R
  go_enter Tryd.func27, Tryd.ntmps27
  go_wp2_with fail
  refine (CN.out).mono ?_
  rintro e w1 ⟨rfl, hb⟩
  have R := R.keep hb
  have HX := HX.below hb
  have HB := Lib.hid (bstep HB.out hb)
  clear hb A A0 A1 A2 R0 R1 R2 R3 R4 R5 CN
  obtain ⟨R0, R1, R2, R3, R4, R5, -⟩ := id R
  go_wp2_with fail
  refine (CD.out _ HX).mono ?_
  rintro e w2 ⟨rfl, hb⟩
  have R := R.keep hb
  have HB := Lib.hid (bstep HB.out hb)
  clear hb R0 R1 R2 R3 R4 R5
  obtain ⟨R0, R1, R2, R3, R4, R5, -⟩ := id R
  obtain ⟨z0, z1, z2, -, -, -, -⟩ := R.put (.int .i64 y') (.int .i64 m') (.int .i64 d')
  go_wp2_with fail
  refine bodyPost_ret (v := .tuple #[.agg #[.int .i64 y', .int .i64 m', .int .i64 d'], .int .i64 0]) (by simp [results, Tryd.results27, go_sem, z0, z1, z2]) rfl ⟨rfl, ?_⟩
  exact below_set3 HB.out (by omega) _ _ _
theorem wrap_far {n k : Int} (n1 : -730119 ≤ n) (n2 : n ≤ 2921939) (k1 : -9223372036854775808 ≤ k) (k2 : k ≤ 9223372036854775807) (h : n + k < -730119 ∨ 2921939 < n + k) : wrap64 (n + k) < -730119 ∨ 2921939 < wrap64 (n + k) := by
  by_cases a : -9223372036854775808 ≤ n + k
  · by_cases b : n + k ≤ 9223372036854775807
    · rw [w64_is rfl a b]; exact h
    · have : wrap64 (n + k) = n + k - 18446744073709551616 := by unfold wrap64; omega
      omega
  · have : wrap64 (n + k) = n + k + 18446744073709551616 := by unfold wrap64; omega
    omega
set_option maxHeartbeats 1000000 in
theorem add_range (y m d k : Int) (w : World) (H : HasLen w) (ok : okD y m d = true) (k1 : -9223372036854775808 ≤ k) (k2 : k ≤ 9223372036854775807) (h : num y m d + k < -730119 ∨ 2921939 < num y m d + k) :
    Calls Tryd.prog 27 #[.agg #[.int .i64 y, .int .i64 m, .int .i64 d], .int .i64 k] w fun e w' => e = .returned (.tuple #[.agg #[.int .i64 0, .int .i64 0, .int .i64 0], .int .i64 2]) ∧ Below w.heap.size w w' := by
  have HB := Lib.hid (below2 w (.cells #[.int .i64 y, .int .i64 m, .int .i64 d] 23) (.cells #[.int .i64 0, .int .i64 0, .int .i64 0] 23))
  have A := (At3.new w (.int .i64 y) (.int .i64 m) (.int .i64 d) 23).alloc (.cells #[.int .i64 0, .int .i64 0, .int .i64 0] 23)
  have R := At3.new (w.alloc (.cells #[.int .i64 y, .int .i64 m, .int .i64 d] 23)) (.int .i64 0) (.int .i64 0) (.int .i64 0) 23
  simp at R
  have CN := Lib.hid (number_ok y m d _ (H.below HB.out) ok)
  clear H
  have r := num_range ok
  have CD := Lib.hid (fun (wx : World) => dateOf_no (wrap64 (num y m d + k)) wx (wrap_far r.1 r.2 k1 k2 h))
  generalize num y m d = n at *
  obtain ⟨s, hs⟩ : ∃ s, wrap64 (n + k) = s := ⟨_, rfl⟩
  rw [hs] at CD
  clear r h ok k1 k2
  obtain ⟨A0, A1, A2, -, -, -, -⟩ := id A
  obtain ⟨R0, R1, R2, R3, R4, R5, -⟩ := id R
  go_enter Tryd.func27, Tryd.ntmps27
  go_wp2_with fail
  refine (CN.out).mono ?_
  rintro e w1 ⟨rfl, hb⟩
  have R := R.keep hb
  have HB := Lib.hid (bstep HB.out hb)
  clear hb A A0 A1 A2 R0 R1 R2 R3 R4 R5 CN
  obtain ⟨R0, R1, R2, R3, R4, R5, -⟩ := id R
  go_wp2_with fail
  refine (CD.out _).mono ?_
  rintro e w2 ⟨rfl, hb⟩
  have R := R.keep hb
  have HB := Lib.hid (bstep HB.out hb)
  clear hb R0 R1 R2 R3 R4 R5
  obtain ⟨R0, R1, R2, R3, R4, R5, -⟩ := id R
  obtain ⟨z0, z1, z2, -, -, -, -⟩ := R.put (.int .i64 0) (.int .i64 0) (.int .i64 0)
  go_wp2_with fail
  refine bodyPost_ret (v := .tuple #[.agg #[.int .i64 0, .int .i64 0, .int .i64 0], .int .i64 2]) (by simp [results, Tryd.results27, go_sem, z0, z1, z2]) rfl ⟨rfl, ?_⟩
  exact below_set3 HB.out (by omega) _ _ _
theorem add_no (y m d k : Int) (w : World) (H : HasLen w) (ok : okD y m d = false) :
    Calls Tryd.prog 27 #[.agg #[.int .i64 y, .int .i64 m, .int .i64 d], .int .i64 k] w fun e w' => e = .returned (.tuple #[.agg #[.int .i64 0, .int .i64 0, .int .i64 0], .int .i64 1]) ∧ Below w.heap.size w w' := by
  have HB := Lib.hid (below2 w (.cells #[.int .i64 y, .int .i64 m, .int .i64 d] 23) (.cells #[.int .i64 0, .int .i64 0, .int .i64 0] 23))
  have A := (At3.new w (.int .i64 y) (.int .i64 m) (.int .i64 d) 23).alloc (.cells #[.int .i64 0, .int .i64 0, .int .i64 0] 23)
  have R := At3.new (w.alloc (.cells #[.int .i64 y, .int .i64 m, .int .i64 d] 23)) (.int .i64 0) (.int .i64 0) (.int .i64 0) 23
  simp at R
  have CN := Lib.hid (number_no y m d _ (H.below HB.out) ok)
  clear H ok
  obtain ⟨A0, A1, A2, -, -, -, -⟩ := id A
  obtain ⟨R0, R1, R2, R3, R4, R5, -⟩ := id R
  go_enter Tryd.func27, Tryd.ntmps27
  go_wp2_with fail
  refine (CN.out).mono ?_
  rintro e w1 ⟨rfl, hb⟩
  have R := R.keep hb
  have HB := Lib.hid (bstep HB.out hb)
  clear hb A A0 A1 A2 R0 R1 R2 R3 R4 R5 CN
  obtain ⟨R0, R1, R2, R3, R4, R5, -⟩ := id R
  obtain ⟨z0, z1, z2, -, -, -, -⟩ := R.put (.int .i64 0) (.int .i64 0) (.int .i64 0)
  go_wp2_with fail
  refine bodyPost_ret (v := .tuple #[.agg #[.int .i64 0, .int .i64 0, .int .i64 0], .int .i64 1]) (by simp [results, Tryd.results27, go_sem, z0, z1, z2]) rfl ⟨rfl, ?_⟩
  exact below_set3 HB.out (by omega) _ _ _
end Go.Proofs.YtfknmceffkagaaaDoor
