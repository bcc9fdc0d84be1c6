/- Calendar: CalendarTexts: the walk. -/
import Derived.Test.YtfknmceffkagaaaDoorCaTb
import Derived.Test.YtfknmceffkagaaaDoorCaW
namespace Go.Proofs.YtfknmceffkagaaaDoor
open Go.RowKit dc
set_option linter.unusedVariables false
set_option maxRecDepth 100000

theorem byte45 {c : UInt8} (h : c.toNat = 45) : c = 45 := UInt8.toNat_inj.1 (by rw [h]; rfl)
theorem list10 (l : List UInt8) (hl : l.length = 10) (b4 : l[4]? = some 45) (b7 : l[7]? = some 45) : l = (l.drop 0).take (4 - 0) ++ 45 :: ((l.drop 5).take (7 - 5) ++ 45 :: (l.drop 8).take (10 - 8)) := by
  match l, hl with
  | [x0, x1, x2, x3, x4, x5, x6, x7, x8, x9], _ =>
    simp at b4 b7
    subst b4 b7
    rfl
/-- a text whose fifth and eighth bytes of ten are hyphens -/
theorem form_list (s : ByteArray) (hs : s.size = 10) (h4 : 4 < s.size) (h7 : 7 < s.size) (c4 : (s[4]'h4).toNat = 45) (c7 : (s[7]'h7).toNat = 45) :
    s.data.toList = (s.extract 0 4).data.toList ++ 45 :: ((s.extract 5 7).data.toList ++ 45 :: (s.extract 8 10).data.toList) ∧ (s.extract 0 4).data.toList.length = 4 ∧ (s.extract 5 7).data.toList.length = 2 ∧ (s.extract 8 10).data.toList.length = 2 := by
  have hl : s.data.toList.length = 10 := by rw [len_size]; exact hs
  refine ⟨?_, by rw [len_size, ext_size s 0 4 (by omega) (by omega)], by rw [len_size, ext_size s 5 7 (by omega) (by omega)], by rw [len_size, ext_size s 8 10 (by omega) (by omega)]⟩
  rw [Lib.extract_data, Lib.extract_data, Lib.extract_data]
  refine list10 s.data.toList hl ?_ ?_
  · rw [List.getElem?_eq_getElem (by omega)]; exact congrArg some (byte45 c4)
  · rw [List.getElem?_eq_getElem (by omega)]; exact congrArg some (byte45 c7)
theorem frm_bytes (s : ByteArray) (h : frm s.data.toList) : s.size = 10 ∧ ∃ (h4 : 4 < s.size) (h7 : 7 < s.size), (s[4]'h4).toNat = 45 ∧ (s[7]'h7).toNat = 45 := by
  obtain ⟨a, b, c, e, ha, hb, hc⟩ := h
  have hz : s.size = 10 := by rw [← len_size, e]; simp; omega
  refine ⟨hz, by omega, by omega, ?_, ?_⟩
  · have : s.data.toList[4]'(by rw [len_size]; omega) = 45 := by
      simp only [e]
      rw [List.getElem_append_right (by omega)]
      simp [ha]
    exact congrArg UInt8.toNat this
  · have : s.data.toList[7]'(by rw [len_size]; omega) = 45 := by
      simp only [e]
      rw [List.getElem_append_right (by omega)]
      rw [List.getElem_cons]
      simp [ha, hb]
    exact congrArg UInt8.toNat this
/-- both read the same -/
theorem both_read (s : ByteArray) (hs : s.size ≤ 100) :
    (∃ P Q R : Int, (∀ wx, HasLen wx → dc.HasMax wx → Calls Tryd.prog 30 #[.string s] wx fun e w' => e = .returned (.tuple #[.agg #[.int .i64 P, .int .i64 Q, .int .i64 R], .int .i64 0]) ∧ Below wx.heap.size wx w') ∧
      (∀ wx, Calls Tryd.prog 32 #[.string s] wx fun e w' => e = .returned (.tuple #[.agg #[.int .i64 P, .int .i64 Q, .int .i64 R], .bool true]) ∧ Below wx.heap.size wx w')) ∨
    ((∀ wx, HasLen wx → dc.HasMax wx → Calls Tryd.prog 30 #[.string s] wx fun e w' => e = .returned (.tuple #[.agg #[.int .i64 0, .int .i64 0, .int .i64 0], .int .i64 7]) ∧ Below wx.heap.size wx w') ∧
      (∀ wx, Calls Tryd.prog 32 #[.string s] wx fun e w' => e = .returned (.tuple #[.agg #[.int .i64 0, .int .i64 0, .int .i64 0], .bool false]) ∧ Below wx.heap.size wx w')) := by
  have PP := fun wx hx hm => parse9 s.data.toList wx hx hm (by rw [len_size]; omega)
  rw [ba_list] at PP
  by_cases hf : s.size = 10 ∧ ∃ (h4 : 4 < s.size) (h7 : 7 < s.size), (s[4]'h4).toNat = 45 ∧ (s[7]'h7).toNat = 45
  · obtain ⟨hz, h4, h7, c4, c7⟩ := hf
    have RP := fun wx => rparse_form s wx hz h4 h7 c4 c7
    obtain ⟨e, la, lb, lc⟩ := form_list s hz h4 h7 c4 c7
    obtain ⟨k1, k2⟩ := frm_ok la lb lc
    rw [← e] at k1 k2
    rcases Bool.eq_false_or_eq_true (okD (rnm (s.extract 0 4).data.toList) (rnm (s.extract 5 7).data.toList) (rnm (s.extract 8 10).data.toList)) with ok | ok
    · obtain ⟨q1, q2, q3⟩ := k2 ok
      rw [k1, if_pos ok, q1, q2, q3] at PP
      rw [if_pos ok] at RP
      exact Or.inl ⟨_, _, _, PP, RP⟩
    · rw [k1, if_neg (by rw [ok]; simp)] at PP
      rw [if_neg (by rw [ok]; simp)] at RP
      exact Or.inr ⟨PP, RP⟩
  · have RP := fun wx => rparse_no s wx (by omega) hf
    have ok : ¬ okD (dY s.data.toList) (dM s.data.toList) (dD s.data.toList) = true := fun g => by
      have p := okD_iff.1 g
      exact hf (frm_bytes s (prog_frm (by omega) (by omega) (by omega)))
    rw [if_neg ok] at PP
    exact Or.inr ⟨PP, RP⟩
theorem read_own (y m d : Int) (ok : okD y m d = true) (w : World) (H : HasLen w) (hm : dc.HasMax w) :
    Calls Tryd.prog 30 #[.string (ba (txt y.toNat m.toNat d.toNat))] w fun e w' => e = .returned (.tuple #[.agg #[.int .i64 y, .int .i64 m, .int .i64 d], .int .i64 0]) ∧ Below w.heap.size w w' := by
  obtain ⟨o1, o2, o3, o4, o5, o6⟩ := okD_iff.1 ok
  have di := dim_in (leapB y) m
  have P := parse9 (txt y.toNat m.toNat d.toNat) w H hm (by rw [txt_len]; omega)
  obtain ⟨e1, e2, e3⟩ := txt_read y.toNat m.toNat d.toNat (by omega) (by omega) (by omega)
  rw [e1, e2, e3, Int.toNat_of_nonneg (by omega), Int.toNat_of_nonneg (by omega), Int.toNat_of_nonneg (by omega), if_pos ok] at P
  exact P
set_option maxHeartbeats 4000000 in
theorem texts9 (y m d : Int) (s : ByteArray) (w : World) (H : HasLen w) (hm : dc.HasMax w) :
    Calls Tryd.prog 6 #[.agg #[.int .i64 y, .int .i64 m, .int .i64 d], .string s] w fun e w' => e = .returned (.bool true) ∧ Below w.heap.size w w' := by
  have A := At3.new w (.int .i64 y) (.int .i64 m) (.int .i64 d) 23
  have HX := H.below (below1 w (.cells #[.int .i64 y, .int .i64 m, .int .i64 d] 23))
  have HM := hm.below (below1 w (.cells #[.int .i64 y, .int .i64 m, .int .i64 d] 23))
  have HB := Lib.hid (below1 w (.cells #[.int .i64 y, .int .i64 m, .int .i64 d] 23))
  clear H hm
  have CA := Lib.hid (fun wx (hx : HasLen wx) => awake9 wx hx)
  rcases Bool.eq_false_or_eq_true (okD y m d) with ok | ok
  · have CT := Lib.hid (fun wx (hx : HasLen wx) => text_ok y m d wx hx ok)
    have RT := Lib.hid (fun wx => rtext_any y m d wx ok)
    have CP := Lib.hid (fun wx (hx : HasLen wx) (hn : dc.HasMax wx) => read_own y m d ok wx hx hn)
    have RV := Lib.hid (fun wx => told1 true ok (rvalid_any y m d wx))
    generalize ba (txt y.toNat m.toNat d.toNat) = t at *
    clear ok
    by_cases hs : 100 < s.size
    · obtain ⟨A0, A1, A2, -, -, -, -⟩ := id A
      go_enter Tryd.func6, Tryd.ntmps6
      go_wp2_with fail
      refine ((CA).out _ HX).mono ?_
      rintro e w1 ⟨rfl, hb⟩
      clear A0 A1 A2
      replace A := A.keep hb
      replace HX := HX.below hb
      replace HM := HM.below hb
      replace HB := Lib.hid (bstep HB.out hb)
      clear hb
      obtain ⟨A0, A1, A2, -, -, -, -⟩ := id A
      go_wp2_with fail
      refine ((CT).out _ HX).mono ?_
      rintro e w2 ⟨rfl, hb⟩
      clear A0 A1 A2
      replace A := A.keep hb
      replace HX := HX.below hb
      replace HM := HM.below hb
      replace HB := Lib.hid (bstep HB.out hb)
      clear hb
      obtain ⟨A0, A1, A2, -, -, -, -⟩ := id A
      go_wp2_with fail
      refine ((RV).out _).mono ?_
      rintro e w3 ⟨rfl, hb⟩
      clear A0 A1 A2
      replace A := A.keep hb
      replace HX := HX.below hb
      replace HM := HM.below hb
      replace HB := Lib.hid (bstep HB.out hb)
      clear hb
      obtain ⟨A0, A1, A2, -, -, -, -⟩ := id A
      go_wp2_with fail
      refine ((CP).out _ HX HM).mono ?_
      rintro e w4 ⟨rfl, hb⟩
      clear A0 A1 A2
      replace A := A.keep hb
      replace HX := HX.below hb
      replace HM := HM.below hb
      replace HB := Lib.hid (bstep HB.out hb)
      clear hb
      obtain ⟨A0, A1, A2, -, -, -, -⟩ := id A
      clear A0 A1 A2
      replace A := A.alloc (.cells #[.int .i64 y, .int .i64 m, .int .i64 d] 23)
      replace HX := HX.below (below1 w4 (.cells #[.int .i64 y, .int .i64 m, .int .i64 d] 23))
      replace HM := HM.below (below1 w4 (.cells #[.int .i64 y, .int .i64 m, .int .i64 d] 23))
      have X := At3.new w4 (.int .i64 y) (.int .i64 m) (.int .i64 d) 23
      replace HB := Lib.hid (bstep HB.out (below1 w4 (.cells #[.int .i64 y, .int .i64 m, .int .i64 d] 23)))
      obtain ⟨A0, A1, A2, -, -, -, -⟩ := id A
      obtain ⟨X0, X1, X2, -, -, -, -⟩ := id X
      go_wp2_with fail
      refine ((RT).out _).mono ?_
      rintro e w5 ⟨rfl, hb⟩
      clear A0 A1 A2 X0 X1 X2
      replace A := A.keep hb
      replace X := X.keep hb
      replace HX := HX.below hb
      replace HM := HM.below hb
      replace HB := Lib.hid (bstep HB.out hb)
      clear hb
      obtain ⟨A0, A1, A2, -, -, -, -⟩ := id A
      obtain ⟨X0, X1, X2, -, -, -, -⟩ := id X
      go_wp2_with fail
      go_ret
      exact ⟨by first | rfl | exact ret_bool (by simp), HB.out⟩
    · rcases both_read s (by omega) with ⟨P, Q, R, PP, RP⟩ | ⟨PP, RP⟩
      · replace PP := Lib.hid PP
        replace RP := Lib.hid RP
        have hs' : s.size ≤ 100 := by omega
        clear hs
        obtain ⟨A0, A1, A2, -, -, -, -⟩ := id A
        go_enter Tryd.func6, Tryd.ntmps6
        go_wp2_with fail
        refine ((CA).out _ HX).mono ?_
        rintro e w1 ⟨rfl, hb⟩
        clear A0 A1 A2
        replace A := A.keep hb
        replace HX := HX.below hb
        replace HM := HM.below hb
        replace HB := Lib.hid (bstep HB.out hb)
        clear hb
        obtain ⟨A0, A1, A2, -, -, -, -⟩ := id A
        go_wp2_with fail
        refine ((CT).out _ HX).mono ?_
        rintro e w2 ⟨rfl, hb⟩
        clear A0 A1 A2
        replace A := A.keep hb
        replace HX := HX.below hb
        replace HM := HM.below hb
        replace HB := Lib.hid (bstep HB.out hb)
        clear hb
        obtain ⟨A0, A1, A2, -, -, -, -⟩ := id A
        go_wp2_with fail
        refine ((RV).out _).mono ?_
        rintro e w3 ⟨rfl, hb⟩
        clear A0 A1 A2
        replace A := A.keep hb
        replace HX := HX.below hb
        replace HM := HM.below hb
        replace HB := Lib.hid (bstep HB.out hb)
        clear hb
        obtain ⟨A0, A1, A2, -, -, -, -⟩ := id A
        go_wp2_with fail
        refine ((CP).out _ HX HM).mono ?_
        rintro e w4 ⟨rfl, hb⟩
        clear A0 A1 A2
        replace A := A.keep hb
        replace HX := HX.below hb
        replace HM := HM.below hb
        replace HB := Lib.hid (bstep HB.out hb)
        clear hb
        obtain ⟨A0, A1, A2, -, -, -, -⟩ := id A
        clear A0 A1 A2
        replace A := A.alloc (.cells #[.int .i64 y, .int .i64 m, .int .i64 d] 23)
        replace HX := HX.below (below1 w4 (.cells #[.int .i64 y, .int .i64 m, .int .i64 d] 23))
        replace HM := HM.below (below1 w4 (.cells #[.int .i64 y, .int .i64 m, .int .i64 d] 23))
        have X := At3.new w4 (.int .i64 y) (.int .i64 m) (.int .i64 d) 23
        replace HB := Lib.hid (bstep HB.out (below1 w4 (.cells #[.int .i64 y, .int .i64 m, .int .i64 d] 23)))
        obtain ⟨A0, A1, A2, -, -, -, -⟩ := id A
        obtain ⟨X0, X1, X2, -, -, -, -⟩ := id X
        go_wp2_with fail
        refine ((RT).out _).mono ?_
        rintro e w5 ⟨rfl, hb⟩
        clear A0 A1 A2 X0 X1 X2
        replace A := A.keep hb
        replace X := X.keep hb
        replace HX := HX.below hb
        replace HM := HM.below hb
        replace HB := Lib.hid (bstep HB.out hb)
        clear hb
        obtain ⟨A0, A1, A2, -, -, -, -⟩ := id A
        obtain ⟨X0, X1, X2, -, -, -, -⟩ := id X
        go_wp2_with fail
        refine ((PP).out _ HX HM).mono ?_
        rintro e w6 ⟨rfl, hb⟩
        clear A0 A1 A2 X0 X1 X2
        replace A := A.keep hb
        replace X := X.keep hb
        replace HX := HX.below hb
        replace HM := HM.below hb
        replace HB := Lib.hid (bstep HB.out hb)
        clear hb
        obtain ⟨A0, A1, A2, -, -, -, -⟩ := id A
        obtain ⟨X0, X1, X2, -, -, -, -⟩ := id X
        clear A0 A1 A2 X0 X1 X2
        replace A := A.alloc (.cells #[.int .i64 P, .int .i64 Q, .int .i64 R] 23)
        replace X := X.alloc (.cells #[.int .i64 P, .int .i64 Q, .int .i64 R] 23)
        replace HX := HX.below (below1 w6 (.cells #[.int .i64 P, .int .i64 Q, .int .i64 R] 23))
        replace HM := HM.below (below1 w6 (.cells #[.int .i64 P, .int .i64 Q, .int .i64 R] 23))
        have U := At3.new w6 (.int .i64 P) (.int .i64 Q) (.int .i64 R) 23
        replace HB := Lib.hid (bstep HB.out (below1 w6 (.cells #[.int .i64 P, .int .i64 Q, .int .i64 R] 23)))
        obtain ⟨A0, A1, A2, -, -, -, -⟩ := id A
        obtain ⟨X0, X1, X2, -, -, -, -⟩ := id X
        obtain ⟨U0, U1, U2, -, -, -, -⟩ := id U
        go_wp2_with fail
        refine ((RP).out _).mono ?_
        rintro e w7 ⟨rfl, hb⟩
        clear A0 A1 A2 X0 X1 X2 U0 U1 U2
        replace A := A.keep hb
        replace X := X.keep hb
        replace U := U.keep hb
        replace HX := HX.below hb
        replace HM := HM.below hb
        replace HB := Lib.hid (bstep HB.out hb)
        clear hb
        obtain ⟨A0, A1, A2, -, -, -, -⟩ := id A
        obtain ⟨X0, X1, X2, -, -, -, -⟩ := id X
        obtain ⟨U0, U1, U2, -, -, -, -⟩ := id U
        clear A0 A1 A2 X0 X1 X2 U0 U1 U2
        replace A := A.alloc (.cells #[.int .i64 P, .int .i64 Q, .int .i64 R] 23)
        replace X := X.alloc (.cells #[.int .i64 P, .int .i64 Q, .int .i64 R] 23)
        replace U := U.alloc (.cells #[.int .i64 P, .int .i64 Q, .int .i64 R] 23)
        replace HX := HX.below (below1 w7 (.cells #[.int .i64 P, .int .i64 Q, .int .i64 R] 23))
        replace HM := HM.below (below1 w7 (.cells #[.int .i64 P, .int .i64 Q, .int .i64 R] 23))
        have V := At3.new w7 (.int .i64 P) (.int .i64 Q) (.int .i64 R) 23
        replace HB := Lib.hid (bstep HB.out (below1 w7 (.cells #[.int .i64 P, .int .i64 Q, .int .i64 R] 23)))
        obtain ⟨A0, A1, A2, -, -, -, -⟩ := id A
        obtain ⟨X0, X1, X2, -, -, -, -⟩ := id X
        obtain ⟨U0, U1, U2, -, -, -, -⟩ := id U
        obtain ⟨V0, V1, V2, -, -, -, -⟩ := id V
        go_wp2_with fail
        go_ret
        exact ⟨by first | rfl | exact ret_bool (by simp), HB.out⟩
      · replace PP := Lib.hid PP
        replace RP := Lib.hid RP
        have hs' : s.size ≤ 100 := by omega
        clear hs
        obtain ⟨A0, A1, A2, -, -, -, -⟩ := id A
        go_enter Tryd.func6, Tryd.ntmps6
        go_wp2_with fail
        refine ((CA).out _ HX).mono ?_
        rintro e w1 ⟨rfl, hb⟩
        clear A0 A1 A2
        replace A := A.keep hb
        replace HX := HX.below hb
        replace HM := HM.below hb
        replace HB := Lib.hid (bstep HB.out hb)
        clear hb
        obtain ⟨A0, A1, A2, -, -, -, -⟩ := id A
        go_wp2_with fail
        refine ((CT).out _ HX).mono ?_
        rintro e w2 ⟨rfl, hb⟩
        clear A0 A1 A2
        replace A := A.keep hb
        replace HX := HX.below hb
        replace HM := HM.below hb
        replace HB := Lib.hid (bstep HB.out hb)
        clear hb
        obtain ⟨A0, A1, A2, -, -, -, -⟩ := id A
        go_wp2_with fail
        refine ((RV).out _).mono ?_
        rintro e w3 ⟨rfl, hb⟩
        clear A0 A1 A2
        replace A := A.keep hb
        replace HX := HX.below hb
        replace HM := HM.below hb
        replace HB := Lib.hid (bstep HB.out hb)
        clear hb
        obtain ⟨A0, A1, A2, -, -, -, -⟩ := id A
        go_wp2_with fail
        refine ((CP).out _ HX HM).mono ?_
        rintro e w4 ⟨rfl, hb⟩
        clear A0 A1 A2
        replace A := A.keep hb
        replace HX := HX.below hb
        replace HM := HM.below hb
        replace HB := Lib.hid (bstep HB.out hb)
        clear hb
        obtain ⟨A0, A1, A2, -, -, -, -⟩ := id A
        clear A0 A1 A2
        replace A := A.alloc (.cells #[.int .i64 y, .int .i64 m, .int .i64 d] 23)
        replace HX := HX.below (below1 w4 (.cells #[.int .i64 y, .int .i64 m, .int .i64 d] 23))
        replace HM := HM.below (below1 w4 (.cells #[.int .i64 y, .int .i64 m, .int .i64 d] 23))
        have X := At3.new w4 (.int .i64 y) (.int .i64 m) (.int .i64 d) 23
        replace HB := Lib.hid (bstep HB.out (below1 w4 (.cells #[.int .i64 y, .int .i64 m, .int .i64 d] 23)))
        obtain ⟨A0, A1, A2, -, -, -, -⟩ := id A
        obtain ⟨X0, X1, X2, -, -, -, -⟩ := id X
        go_wp2_with fail
        refine ((RT).out _).mono ?_
        rintro e w5 ⟨rfl, hb⟩
        clear A0 A1 A2 X0 X1 X2
        replace A := A.keep hb
        replace X := X.keep hb
        replace HX := HX.below hb
        replace HM := HM.below hb
        replace HB := Lib.hid (bstep HB.out hb)
        clear hb
        obtain ⟨A0, A1, A2, -, -, -, -⟩ := id A
        obtain ⟨X0, X1, X2, -, -, -, -⟩ := id X
        go_wp2_with fail
        refine ((PP).out _ HX HM).mono ?_
        rintro e w6 ⟨rfl, hb⟩
        clear A0 A1 A2 X0 X1 X2
        replace A := A.keep hb
        replace X := X.keep hb
        replace HX := HX.below hb
        replace HM := HM.below hb
        replace HB := Lib.hid (bstep HB.out hb)
        clear hb
        obtain ⟨A0, A1, A2, -, -, -, -⟩ := id A
        obtain ⟨X0, X1, X2, -, -, -, -⟩ := id X
        clear A0 A1 A2 X0 X1 X2
        replace A := A.alloc (.cells #[.int .i64 0, .int .i64 0, .int .i64 0] 23)
        replace X := X.alloc (.cells #[.int .i64 0, .int .i64 0, .int .i64 0] 23)
        replace HX := HX.below (below1 w6 (.cells #[.int .i64 0, .int .i64 0, .int .i64 0] 23))
        replace HM := HM.below (below1 w6 (.cells #[.int .i64 0, .int .i64 0, .int .i64 0] 23))
        have U := At3.new w6 (.int .i64 0) (.int .i64 0) (.int .i64 0) 23
        replace HB := Lib.hid (bstep HB.out (below1 w6 (.cells #[.int .i64 0, .int .i64 0, .int .i64 0] 23)))
        obtain ⟨A0, A1, A2, -, -, -, -⟩ := id A
        obtain ⟨X0, X1, X2, -, -, -, -⟩ := id X
        obtain ⟨U0, U1, U2, -, -, -, -⟩ := id U
        go_wp2_with fail
        refine ((RP).out _).mono ?_
        rintro e w7 ⟨rfl, hb⟩
        clear A0 A1 A2 X0 X1 X2 U0 U1 U2
        replace A := A.keep hb
        replace X := X.keep hb
        replace U := U.keep hb
        replace HX := HX.below hb
        replace HM := HM.below hb
        replace HB := Lib.hid (bstep HB.out hb)
        clear hb
        obtain ⟨A0, A1, A2, -, -, -, -⟩ := id A
        obtain ⟨X0, X1, X2, -, -, -, -⟩ := id X
        obtain ⟨U0, U1, U2, -, -, -, -⟩ := id U
        clear A0 A1 A2 X0 X1 X2 U0 U1 U2
        replace A := A.alloc (.cells #[.int .i64 0, .int .i64 0, .int .i64 0] 23)
        replace X := X.alloc (.cells #[.int .i64 0, .int .i64 0, .int .i64 0] 23)
        replace U := U.alloc (.cells #[.int .i64 0, .int .i64 0, .int .i64 0] 23)
        replace HX := HX.below (below1 w7 (.cells #[.int .i64 0, .int .i64 0, .int .i64 0] 23))
        replace HM := HM.below (below1 w7 (.cells #[.int .i64 0, .int .i64 0, .int .i64 0] 23))
        have V := At3.new w7 (.int .i64 0) (.int .i64 0) (.int .i64 0) 23
        replace HB := Lib.hid (bstep HB.out (below1 w7 (.cells #[.int .i64 0, .int .i64 0, .int .i64 0] 23)))
        obtain ⟨A0, A1, A2, -, -, -, -⟩ := id A
        obtain ⟨X0, X1, X2, -, -, -, -⟩ := id X
        obtain ⟨U0, U1, U2, -, -, -, -⟩ := id U
        obtain ⟨V0, V1, V2, -, -, -, -⟩ := id V
        go_wp2_with fail
        go_ret
        exact ⟨by first | rfl | exact ret_bool (by simp), HB.out⟩
  · have CT := Lib.hid (fun wx (hx : HasLen wx) => text_no y m d wx hx ok)
    have RV := Lib.hid (fun wx => told1 false ok (rvalid_any y m d wx))
    clear ok
    by_cases hs : 100 < s.size
    · obtain ⟨A0, A1, A2, -, -, -, -⟩ := id A
      go_enter Tryd.func6, Tryd.ntmps6
      go_wp2_with fail
      refine ((CA).out _ HX).mono ?_
      rintro e w1 ⟨rfl, hb⟩
      clear A0 A1 A2
      replace A := A.keep hb
      replace HX := HX.below hb
      replace HM := HM.below hb
      replace HB := Lib.hid (bstep HB.out hb)
      clear hb
      obtain ⟨A0, A1, A2, -, -, -, -⟩ := id A
      go_wp2_with fail
      refine ((CT).out _ HX).mono ?_
      rintro e w2 ⟨rfl, hb⟩
      clear A0 A1 A2
      replace A := A.keep hb
      replace HX := HX.below hb
      replace HM := HM.below hb
      replace HB := Lib.hid (bstep HB.out hb)
      clear hb
      obtain ⟨A0, A1, A2, -, -, -, -⟩ := id A
      go_wp2_with fail
      refine ((RV).out _).mono ?_
      rintro e w3 ⟨rfl, hb⟩
      clear A0 A1 A2
      replace A := A.keep hb
      replace HX := HX.below hb
      replace HM := HM.below hb
      replace HB := Lib.hid (bstep HB.out hb)
      clear hb
      obtain ⟨A0, A1, A2, -, -, -, -⟩ := id A
      go_wp2_with fail
      go_ret
      exact ⟨by first | rfl | exact ret_bool (by simp), HB.out⟩
    · rcases both_read s (by omega) with ⟨P, Q, R, PP, RP⟩ | ⟨PP, RP⟩
      · replace PP := Lib.hid PP
        replace RP := Lib.hid RP
        have hs' : s.size ≤ 100 := by omega
        clear hs
        obtain ⟨A0, A1, A2, -, -, -, -⟩ := id A
        go_enter Tryd.func6, Tryd.ntmps6
        go_wp2_with fail
        refine ((CA).out _ HX).mono ?_
        rintro e w1 ⟨rfl, hb⟩
        clear A0 A1 A2
        replace A := A.keep hb
        replace HX := HX.below hb
        replace HM := HM.below hb
        replace HB := Lib.hid (bstep HB.out hb)
        clear hb
        obtain ⟨A0, A1, A2, -, -, -, -⟩ := id A
        go_wp2_with fail
        refine ((CT).out _ HX).mono ?_
        rintro e w2 ⟨rfl, hb⟩
        clear A0 A1 A2
        replace A := A.keep hb
        replace HX := HX.below hb
        replace HM := HM.below hb
        replace HB := Lib.hid (bstep HB.out hb)
        clear hb
        obtain ⟨A0, A1, A2, -, -, -, -⟩ := id A
        go_wp2_with fail
        refine ((RV).out _).mono ?_
        rintro e w3 ⟨rfl, hb⟩
        clear A0 A1 A2
        replace A := A.keep hb
        replace HX := HX.below hb
        replace HM := HM.below hb
        replace HB := Lib.hid (bstep HB.out hb)
        clear hb
        obtain ⟨A0, A1, A2, -, -, -, -⟩ := id A
        go_wp2_with fail
        refine ((PP).out _ HX HM).mono ?_
        rintro e w4 ⟨rfl, hb⟩
        clear A0 A1 A2
        replace A := A.keep hb
        replace HX := HX.below hb
        replace HM := HM.below hb
        replace HB := Lib.hid (bstep HB.out hb)
        clear hb
        obtain ⟨A0, A1, A2, -, -, -, -⟩ := id A
        clear A0 A1 A2
        replace A := A.alloc (.cells #[.int .i64 P, .int .i64 Q, .int .i64 R] 23)
        replace HX := HX.below (below1 w4 (.cells #[.int .i64 P, .int .i64 Q, .int .i64 R] 23))
        replace HM := HM.below (below1 w4 (.cells #[.int .i64 P, .int .i64 Q, .int .i64 R] 23))
        have U := At3.new w4 (.int .i64 P) (.int .i64 Q) (.int .i64 R) 23
        replace HB := Lib.hid (bstep HB.out (below1 w4 (.cells #[.int .i64 P, .int .i64 Q, .int .i64 R] 23)))
        obtain ⟨A0, A1, A2, -, -, -, -⟩ := id A
        obtain ⟨U0, U1, U2, -, -, -, -⟩ := id U
        go_wp2_with fail
        refine ((RP).out _).mono ?_
        rintro e w5 ⟨rfl, hb⟩
        clear A0 A1 A2 U0 U1 U2
        replace A := A.keep hb
        replace U := U.keep hb
        replace HX := HX.below hb
        replace HM := HM.below hb
        replace HB := Lib.hid (bstep HB.out hb)
        clear hb
        obtain ⟨A0, A1, A2, -, -, -, -⟩ := id A
        obtain ⟨U0, U1, U2, -, -, -, -⟩ := id U
        clear A0 A1 A2 U0 U1 U2
        replace A := A.alloc (.cells #[.int .i64 P, .int .i64 Q, .int .i64 R] 23)
        replace U := U.alloc (.cells #[.int .i64 P, .int .i64 Q, .int .i64 R] 23)
        replace HX := HX.below (below1 w5 (.cells #[.int .i64 P, .int .i64 Q, .int .i64 R] 23))
        replace HM := HM.below (below1 w5 (.cells #[.int .i64 P, .int .i64 Q, .int .i64 R] 23))
        have V := At3.new w5 (.int .i64 P) (.int .i64 Q) (.int .i64 R) 23
        replace HB := Lib.hid (bstep HB.out (below1 w5 (.cells #[.int .i64 P, .int .i64 Q, .int .i64 R] 23)))
        obtain ⟨A0, A1, A2, -, -, -, -⟩ := id A
        obtain ⟨U0, U1, U2, -, -, -, -⟩ := id U
        obtain ⟨V0, V1, V2, -, -, -, -⟩ := id V
        go_wp2_with fail
        go_ret
        exact ⟨by first | rfl | exact ret_bool (by simp), HB.out⟩
      · replace PP := Lib.hid PP
        replace RP := Lib.hid RP
        have hs' : s.size ≤ 100 := by omega
        clear hs
        obtain ⟨A0, A1, A2, -, -, -, -⟩ := id A
        go_enter Tryd.func6, Tryd.ntmps6
        go_wp2_with fail
        refine ((CA).out _ HX).mono ?_
        rintro e w1 ⟨rfl, hb⟩
        clear A0 A1 A2
        replace A := A.keep hb
        replace HX := HX.below hb
        replace HM := HM.below hb
        replace HB := Lib.hid (bstep HB.out hb)
        clear hb
        obtain ⟨A0, A1, A2, -, -, -, -⟩ := id A
        go_wp2_with fail
        refine ((CT).out _ HX).mono ?_
        rintro e w2 ⟨rfl, hb⟩
        clear A0 A1 A2
        replace A := A.keep hb
        replace HX := HX.below hb
        replace HM := HM.below hb
        replace HB := Lib.hid (bstep HB.out hb)
        clear hb
        obtain ⟨A0, A1, A2, -, -, -, -⟩ := id A
        go_wp2_with fail
        refine ((RV).out _).mono ?_
        rintro e w3 ⟨rfl, hb⟩
        clear A0 A1 A2
        replace A := A.keep hb
        replace HX := HX.below hb
        replace HM := HM.below hb
        replace HB := Lib.hid (bstep HB.out hb)
        clear hb
        obtain ⟨A0, A1, A2, -, -, -, -⟩ := id A
        go_wp2_with fail
        refine ((PP).out _ HX HM).mono ?_
        rintro e w4 ⟨rfl, hb⟩
        clear A0 A1 A2
        replace A := A.keep hb
        replace HX := HX.below hb
        replace HM := HM.below hb
        replace HB := Lib.hid (bstep HB.out hb)
        clear hb
        obtain ⟨A0, A1, A2, -, -, -, -⟩ := id A
        clear A0 A1 A2
        replace A := A.alloc (.cells #[.int .i64 0, .int .i64 0, .int .i64 0] 23)
        replace HX := HX.below (below1 w4 (.cells #[.int .i64 0, .int .i64 0, .int .i64 0] 23))
        replace HM := HM.below (below1 w4 (.cells #[.int .i64 0, .int .i64 0, .int .i64 0] 23))
        have U := At3.new w4 (.int .i64 0) (.int .i64 0) (.int .i64 0) 23
        replace HB := Lib.hid (bstep HB.out (below1 w4 (.cells #[.int .i64 0, .int .i64 0, .int .i64 0] 23)))
        obtain ⟨A0, A1, A2, -, -, -, -⟩ := id A
        obtain ⟨U0, U1, U2, -, -, -, -⟩ := id U
        go_wp2_with fail
        refine ((RP).out _).mono ?_
        rintro e w5 ⟨rfl, hb⟩
        clear A0 A1 A2 U0 U1 U2
        replace A := A.keep hb
        replace U := U.keep hb
        replace HX := HX.below hb
        replace HM := HM.below hb
        replace HB := Lib.hid (bstep HB.out hb)
        clear hb
        obtain ⟨A0, A1, A2, -, -, -, -⟩ := id A
        obtain ⟨U0, U1, U2, -, -, -, -⟩ := id U
        clear A0 A1 A2 U0 U1 U2
        replace A := A.alloc (.cells #[.int .i64 0, .int .i64 0, .int .i64 0] 23)
        replace U := U.alloc (.cells #[.int .i64 0, .int .i64 0, .int .i64 0] 23)
        replace HX := HX.below (below1 w5 (.cells #[.int .i64 0, .int .i64 0, .int .i64 0] 23))
        replace HM := HM.below (below1 w5 (.cells #[.int .i64 0, .int .i64 0, .int .i64 0] 23))
        have V := At3.new w5 (.int .i64 0) (.int .i64 0) (.int .i64 0) 23
        replace HB := Lib.hid (bstep HB.out (below1 w5 (.cells #[.int .i64 0, .int .i64 0, .int .i64 0] 23)))
        obtain ⟨A0, A1, A2, -, -, -, -⟩ := id A
        obtain ⟨U0, U1, U2, -, -, -, -⟩ := id U
        obtain ⟨V0, V1, V2, -, -, -, -⟩ := id V
        go_wp2_with fail
        go_ret
        exact ⟨by first | rfl | exact ret_bool (by simp), HB.out⟩
end Go.Proofs.YtfknmceffkagaaaDoor
