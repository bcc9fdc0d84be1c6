/- Calendar: how the reference reads a text. -/
import Derived.Test.YtfknmceffkagaaaDoorCaTa
namespace Go.Proofs.YtfknmceffkagaaaDoor
open Go.RowKit dc
set_option linter.unusedVariables false
set_option maxRecDepth 100000

theorem len_size (s : ByteArray) : s.data.toList.length = s.size := by rw [Array.length_toList]; rfl
theorem take_succ_get (s : ByteArray) (i : Nat) (h : i < s.size) : s.data.toList.take (i + 1) = s.data.toList.take i ++ [s[i]'h] := by
  have hl : i < s.data.toList.length := by rw [len_size]; exact h
  rw [List.take_succ_eq_append_getElem hl]
  rfl
theorem all_no (s : ByteArray) (i : Nat) (h : i < s.size) (hd : isDig (s[i]'h) = false) : s.data.toList.all isDig = false := by
  have hl : i < s.data.toList.length := by rw [len_size]; exact h
  refine List.all_eq_false.2 ⟨s[i]'h, ?_, by rw [hd]; simp⟩
  exact List.getElem_mem (l := s.data.toList) hl
theorem val_le4 (x : List UInt8) (h : x.all isDig = true) (hl : x.length ≤ 4) : val x ≤ 9999 := by
  have := val_lt x h
  have : 10 ^ x.length ≤ 10 ^ 4 := Nat.pow_le_pow_right (by omega) hl
  omega
set_option maxHeartbeats 4000000 in
theorem rnumber9 (s : ByteArray) (w : World) (hs : s.size ≤ 4) :
    Calls Tryd.prog 44 #[.string s] w fun e w' => e = .returned (.int .i64 (rnm s.data.toList)) ∧ w' = w := by
  obtain ⟨R, hR⟩ : ∃ R, rnm s.data.toList = R := ⟨_, rfl⟩
  rw [hR]
  have HR := Lib.hid hR
  clear hR
  go_enter Tryd.func44, Tryd.ntmps44
  go_wp2_with fail
  go_loopg [3, 4] s.size (fun m v3 v4 wr => ∃ i : Nat, m = s.size - i ∧ v3 = .int .i64 (val (s.data.toList.take i) : Int) ∧ v4 = .int .i64 (i : Int) ∧ Hid (i ≤ s.size) ∧ Hid ((s.data.toList.take i).all isDig = true) ∧ w = wr)
  case atStart => exact ⟨0, by omega, by rfl, by rfl, Nat.zero_le _, (by show (s.data.toList.take 0).all isDig = true; simp), rfl⟩
  case round =>
    obtain ⟨i, hg, rfl, rfl, HK, HA, rfl⟩ := hrel
    have HG := Lib.hid hg
    clear hg
    have hv := val_le4 _ HA.out (by rw [List.length_take]; have := HK.out; omega)
    obtain ⟨v, hv0⟩ : ∃ v, val (s.data.toList.take i) = v := ⟨_, rfl⟩
    have HV := Lib.hid hv0
    rw [hv0] at hv ⊢
    clear hv0
    by_cases hlt : i < s.size
    · obtain ⟨c, hc⟩ : ∃ c, s[i]'hlt = c := ⟨_, rfl⟩
      obtain ⟨X, hX⟩ : ∃ X, c.toNat = X := ⟨_, rfl⟩
      have hcx : (s[i]'hlt).toNat = X := by rw [hc, hX]
      have hlt' : (i : Int) < (s.size : Int) := by omega
      by_cases d1 : X < 48
      · have HF := Lib.hid (all_no s i hlt (by rw [hc]; unfold isDig; rw [hX]; exact decide_eq_false (by omega)))
        have t1 : decide ((X : Int) < 48) = true := decide_eq_true (by omega)
        clear hc hX
        go_wp2_with fail
        go_ret
        exact ⟨ret_int (by rw [← HR.out]; unfold rnm; rw [HF.out]; rfl), rfl⟩
      · have t1 : decide ((X : Int) < 48) = false := decide_eq_false (by omega)
        by_cases d2 : 57 < X
        · have HF := Lib.hid (all_no s i hlt (by rw [hc]; unfold isDig; rw [hX]; exact decide_eq_false (by omega)))
          have t2 : decide ((X : Int) > 57) = true := decide_eq_true (by omega)
          clear hc hX
          go_wp2_with fail
          go_ret
          exact ⟨ret_int (by rw [← HR.out]; unfold rnm; rw [HF.out]; rfl), rfl⟩
        · have t2 : decide ((X : Int) > 57) = false := decide_eq_false (by omega)
          have HD := Lib.hid (show isDig (s[i]'hlt) = true by rw [hc]; unfold isDig; rw [hX]; exact decide_eq_true (by omega))
          have NX := Lib.hid (show val (s.data.toList.take (i + 1)) = 10 * v + (X - 48) by rw [take_succ_get s i hlt, val_snoc, HV.out, hcx])
          have e8 : IntKind.u8.wrap ((X : Int) - 48) = (X : Int) - 48 := by rw [IntKind.wrap_u8]; omega
          clear hc hX
          go_wp2_with fail
          go_roundg (s.size - (i + 1))
          case measure => have := HG.out; omega
          case rel => exact ⟨i + 1, rfl, by rw [NX.out, show ((10 * v + (X - 48) : Nat) : Int) = 10 * (v : Int) + ((X : Int) - 48) by omega], by go_num, by show i + 1 ≤ s.size; omega, (by show (s.data.toList.take (i + 1)).all isDig = true; rw [take_succ_get s i hlt, List.all_append, HA.out]; simp [HD.out]), rfl⟩
    · have e := Lib.hid (show s.data.toList.take i = s.data.toList from List.take_of_length_le (by rw [len_size]; omega))
      go_wp2_with fail
      go_ret
      exact ⟨ret_int (by have h1 := HA.out; have h2 := HV.out; rw [e.out] at h1 h2; rw [← HR.out]; unfold rnm; rw [if_pos h1, h2]), rfl⟩
theorem ext_size (s : ByteArray) (a b : Nat) (h1 : a ≤ b) (h2 : b ≤ s.size) : (s.extract a b).size = b - a := by
  rw [ByteArray.size_extract]; omega
set_option maxHeartbeats 4000000 in
theorem rparse_form (s : ByteArray) (w : World) (hs : s.size = 10) (h4 : 4 < s.size) (h7 : 7 < s.size) (c4 : (s[4]'h4).toNat = 45) (c7 : (s[7]'h7).toNat = 45) :
    Calls Tryd.prog 32 #[.string s] w fun e w' => e = .returned (if okD (rnm (s.extract 0 4).data.toList) (rnm (s.extract 5 7).data.toList) (rnm (s.extract 8 10).data.toList) = true then .tuple #[.agg #[.int .i64 (rnm (s.extract 0 4).data.toList), .int .i64 (rnm (s.extract 5 7).data.toList), .int .i64 (rnm (s.extract 8 10).data.toList)], .bool true] else .tuple #[.agg #[.int .i64 0, .int .i64 0, .int .i64 0], .bool false]) ∧ Below w.heap.size w w' := by
  have R := At3.new w (.int .i64 0) (.int .i64 0) (.int .i64 0) 23
  have HB := Lib.hid (below1 w (.cells #[.int .i64 0, .int .i64 0, .int .i64 0] 23))
  have C1 := Lib.hid (fun wx => rnumber9 (s.extract 0 4) wx (by rw [ext_size s 0 4 (by omega) (by omega)]; omega))
  have C2 := Lib.hid (fun wx => rnumber9 (s.extract 5 7) wx (by rw [ext_size s 5 7 (by omega) (by omega)]; omega))
  have C3 := Lib.hid (fun wx => rnumber9 (s.extract 8 10) wx (by rw [ext_size s 8 10 (by omega) (by omega)]; omega))
  generalize rnm (s.extract 0 4).data.toList = y at *
  generalize rnm (s.extract 5 7).data.toList = m at *
  generalize rnm (s.extract 8 10).data.toList = d at *
  have CV := Lib.hid (fun wx => rvalid_any y m d wx)
  have k4 : (s[4]'h4).toNat = 45 := c4
  have k7 : (s[7]'h7).toNat = 45 := c7
  rcases Bool.eq_false_or_eq_true (okD y m d) with ok | ok
  · rw [if_pos ok]
    rw [ok] at CV
    clear ok
    obtain ⟨R0, R1, R2, Rf0, Rf1, Rf2, -⟩ := id R
    go_enter Tryd.func32, Tryd.ntmps32
    go_upto_region 3 with fail
    go_cut [4] from 19 to 28 (fun v4 wx => v4 = .pointer (some ⟨w.heap.size + 1, 0, none⟩) ∧ Hid (At3 wx (w.heap.size + 1) (.int .i64 y) (.int .i64 m) (.int .i64 d)) ∧ Hid (At3 wx w.heap.size (.int .i64 0) (.int .i64 0) (.int .i64 0)) ∧ Hid (Below w.heap.size w wx))
    case first =>
      clear CV
      have N := At3.new (w.alloc (.cells #[.int .i64 0, .int .i64 0, .int .i64 0] 23)) (.int .i64 y) (.int .i64 m) (.int .i64 d) 23
      simp at N
      have N := Lib.hid N.drp
      have RR := Lib.hid ((R.alloc (.cells #[.int .i64 y, .int .i64 m, .int .i64 d] 23)).drp)
      have BB := Lib.hid (below2 w (.cells #[.int .i64 0, .int .i64 0, .int .i64 0] 23) (.cells #[.int .i64 y, .int .i64 m, .int .i64 d] 23)).drew
      go_region_held3 (fun w' => w'.cell? ⟨w.heap.size, 0, none⟩ = some (.int .i64 0)) (go_keep)
        (first
        | (go_at_call 44; ((with_reducible refine (C1.out _).mono ?_); rintro e wz ⟨rfl, rfl⟩))
        | (go_at_call 44; ((with_reducible refine (C2.out _).mono ?_); rintro e wz ⟨rfl, rfl⟩))
        | (go_at_call 44; ((with_reducible refine (C3.out _).mono ?_); rintro e wz ⟨rfl, rfl⟩)))
      all_goals
        go_wp2_with fail
        go_meet
      all_goals exact ⟨rfl, N, RR, BB⟩
    case rest =>
      obtain ⟨rfl, hB, hR, HB'⟩ := hcut
      clear R0 R1 R2 Rf0 Rf1 Rf2
      clear R HB
      have R := hR.out
      have B := hB.out
      have HB := HB'
      clear hR hB HB'
      obtain ⟨R0, R1, R2, Rf0, Rf1, Rf2, -⟩ := id R
      obtain ⟨B0, B1, B2, -, -, -, -⟩ := id B
      go_wp2_with fail
      refine ((CV).out _).mono ?_
      rintro e w1 ⟨rfl, hb⟩
      clear R0 R1 R2 Rf0 Rf1 Rf2 B0 B1 B2
      replace R := R.keep hb
      replace B := B.keep hb
      replace HB := Lib.hid (bstep HB.out hb)
      clear hb
      obtain ⟨R0, R1, R2, Rf0, Rf1, Rf2, -⟩ := id R
      obtain ⟨B0, B1, B2, -, -, -, -⟩ := id B
      obtain ⟨z0, z1, z2, -, -, -, -⟩ := R.put (.int .i64 y) (.int .i64 m) (.int .i64 d)
      go_wp2_with fail
      refine bodyPost_ret (v := .tuple #[.agg #[.int .i64 y, .int .i64 m, .int .i64 d], .bool true]) (by simp [results, Tryd.results32, go_sem, z0, z1, z2]) rfl ⟨rfl, ?_⟩
      exact below_set3 HB.out (by omega) _ _ _
  · rw [if_neg (by rw [ok]; simp)]
    rw [ok] at CV
    clear ok
    obtain ⟨R0, R1, R2, Rf0, Rf1, Rf2, -⟩ := id R
    go_enter Tryd.func32, Tryd.ntmps32
    go_upto_region 3 with fail
    go_cut [4] from 19 to 28 (fun v4 wx => v4 = .pointer (some ⟨w.heap.size + 1, 0, none⟩) ∧ Hid (At3 wx (w.heap.size + 1) (.int .i64 y) (.int .i64 m) (.int .i64 d)) ∧ Hid (At3 wx w.heap.size (.int .i64 0) (.int .i64 0) (.int .i64 0)) ∧ Hid (Below w.heap.size w wx))
    case first =>
      clear CV
      have N := At3.new (w.alloc (.cells #[.int .i64 0, .int .i64 0, .int .i64 0] 23)) (.int .i64 y) (.int .i64 m) (.int .i64 d) 23
      simp at N
      have N := Lib.hid N.drp
      have RR := Lib.hid ((R.alloc (.cells #[.int .i64 y, .int .i64 m, .int .i64 d] 23)).drp)
      have BB := Lib.hid (below2 w (.cells #[.int .i64 0, .int .i64 0, .int .i64 0] 23) (.cells #[.int .i64 y, .int .i64 m, .int .i64 d] 23)).drew
      go_region_held3 (fun w' => w'.cell? ⟨w.heap.size, 0, none⟩ = some (.int .i64 0)) (go_keep)
        (first
        | (go_at_call 44; ((with_reducible refine (C1.out _).mono ?_); rintro e wz ⟨rfl, rfl⟩))
        | (go_at_call 44; ((with_reducible refine (C2.out _).mono ?_); rintro e wz ⟨rfl, rfl⟩))
        | (go_at_call 44; ((with_reducible refine (C3.out _).mono ?_); rintro e wz ⟨rfl, rfl⟩)))
      all_goals
        go_wp2_with fail
        go_meet
      all_goals exact ⟨rfl, N, RR, BB⟩
    case rest =>
      obtain ⟨rfl, hB, hR, HB'⟩ := hcut
      clear R0 R1 R2 Rf0 Rf1 Rf2
      clear R HB
      have R := hR.out
      have B := hB.out
      have HB := HB'
      clear hR hB HB'
      obtain ⟨R0, R1, R2, Rf0, Rf1, Rf2, -⟩ := id R
      obtain ⟨B0, B1, B2, -, -, -, -⟩ := id B
      go_wp2_with fail
      refine ((CV).out _).mono ?_
      rintro e w1 ⟨rfl, hb⟩
      clear R0 R1 R2 Rf0 Rf1 Rf2 B0 B1 B2
      replace R := R.keep hb
      replace B := B.keep hb
      replace HB := Lib.hid (bstep HB.out hb)
      clear hb
      obtain ⟨R0, R1, R2, Rf0, Rf1, Rf2, -⟩ := id R
      obtain ⟨B0, B1, B2, -, -, -, -⟩ := id B
      obtain ⟨z0, z1, z2, -, -, -, -⟩ := R.put (.int .i64 0) (.int .i64 0) (.int .i64 0)
      go_wp2_with fail
      refine bodyPost_ret (v := .tuple #[.agg #[.int .i64 0, .int .i64 0, .int .i64 0], .bool false]) (by simp [results, Tryd.results32, go_sem, z0, z1, z2]) rfl ⟨rfl, ?_⟩
      exact below_set3 HB.out (by omega) _ _ _
set_option maxHeartbeats 4000000 in
theorem rparse_no (s : ByteArray) (w : World) (hs : s.size ≤ 1000) (h : ¬ (s.size = 10 ∧ ∃ (h4 : 4 < s.size) (h7 : 7 < s.size), (s[4]'h4).toNat = 45 ∧ (s[7]'h7).toNat = 45)) :
    Calls Tryd.prog 32 #[.string s] w fun e w' => e = .returned (.tuple #[.agg #[.int .i64 0, .int .i64 0, .int .i64 0], .bool false]) ∧ Below w.heap.size w w' := by
  have R := At3.new w (.int .i64 0) (.int .i64 0) (.int .i64 0) 23
  have HB := Lib.hid (below1 w (.cells #[.int .i64 0, .int .i64 0, .int .i64 0] 23))
  obtain ⟨R0, R1, R2, R3, R4, R5, -⟩ := id R
  rcases Bool.eq_false_or_eq_true ((s.size : Int) == 10) with hz | hz
  · have h10 : s.size = 10 := by have := beq_iff_eq.1 hz; omega
    have h4 : 4 < s.size := by omega
    have h7 : 7 < s.size := by omega
    obtain ⟨x, hx⟩ : ∃ x, (s[4]'h4).toNat = x := ⟨_, rfl⟩
    obtain ⟨z, hz'⟩ : ∃ x, (s[7]'h7).toNat = x := ⟨_, rfl⟩
    have nz : ((s.size : Int) != 10) = false := by rw [bne, hz]; rfl
    rcases Bool.eq_false_or_eq_true ((x : Int) == 45) with hq | hq
    · rcases Bool.eq_false_or_eq_true ((z : Int) == 45) with hr | hr
      · exact absurd ⟨h10, h4, h7, by have := beq_iff_eq.1 hq; omega, by have := beq_iff_eq.1 hr; omega⟩ h
      · have nq : ((x : Int) != 45) = false := by rw [bne, hq]; rfl
        have nr : ((z : Int) != 45) = true := by rw [bne, hr]; rfl
        clear h
        go_enter Tryd.func32, Tryd.ntmps32
        go_wp2_with fail
        refine bodyPost_ret (v := .tuple #[.agg #[.int .i64 0, .int .i64 0, .int .i64 0], .bool false]) (by simp [results, Tryd.results32, go_sem]) rfl ⟨rfl, ?_⟩
        exact below1 _ _
    · have nq : ((x : Int) != 45) = true := by rw [bne, hq]; rfl
      clear h
      go_enter Tryd.func32, Tryd.ntmps32
      go_wp2_with fail
      refine bodyPost_ret (v := .tuple #[.agg #[.int .i64 0, .int .i64 0, .int .i64 0], .bool false]) (by simp [results, Tryd.results32, go_sem]) rfl ⟨rfl, ?_⟩
      exact below1 _ _
  · have nz : ((s.size : Int) != 10) = true := by rw [bne, hz]; rfl
    clear h
    go_enter Tryd.func32, Tryd.ntmps32
    go_wp2_with fail
    refine bodyPost_ret (v := .tuple #[.agg #[.int .i64 0, .int .i64 0, .int .i64 0], .bool false]) (by simp [results, Tryd.results32, go_sem]) rfl ⟨rfl, ?_⟩
    exact below1 _ _
end Go.Proofs.YtfknmceffkagaaaDoor
