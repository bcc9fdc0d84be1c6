/- Calendar: CalendarAdds and CalendarCycles: the walks. -/
import Derived.Test.YtfknmceffkagaaaDoorCaW
namespace Go.Proofs.YtfknmceffkagaaaDoor
open Go.RowKit
set_option linter.unusedVariables false
set_option maxRecDepth 100000

def OutB (n : Int) : Prop := n < -730119 ∨ 2921939 < n
theorem dateOf_all (n : Int) : ∃ (P Q R E : Int) (o : Bool), (∀ wx, HasLen wx → Calls Tryd.prog 23 #[.int .i64 n] wx fun e w' => e = .returned (.tuple #[.agg #[.int .i64 P, .int .i64 Q, .int .i64 R], .int .i64 E]) ∧ Below wx.heap.size wx w') ∧
    ((n < -730119 ∧ P = 0 ∧ Q = 0 ∧ R = 0 ∧ E = 2 ∧ o = true) ∨ ((¬ n < -730119 ∧ 2921939 < n) ∧ P = 0 ∧ Q = 0 ∧ R = 0 ∧ E = 2 ∧ o = true) ∨ ((¬ n < -730119 ∧ ¬ 2921939 < n) ∧ okD P Q R = true ∧ num P Q R = n ∧ E = 0 ∧ o = false)) := by
  by_cases h1 : n < -730119
  · exact ⟨0, 0, 0, 2, true, fun wx hx => dateOf_no n wx (Or.inl h1), Or.inl ⟨h1, rfl, rfl, rfl, rfl, rfl⟩⟩
  · by_cases h2 : 2921939 < n
    · exact ⟨0, 0, 0, 2, true, fun wx hx => dateOf_no n wx (Or.inr h2), Or.inr (Or.inl ⟨⟨h1, h2⟩, rfl, rfl, rfl, rfl, rfl⟩)⟩
    · obtain ⟨y, m, d, ok, hn⟩ := date_ex (n := n) (by omega) (by omega)
      exact ⟨y, m, d, 0, false, fun wx hx => dateOf_ok n y m d wx hx ok hn, Or.inr (Or.inr ⟨⟨h1, h2⟩, ok, hn, rfl, rfl⟩)⟩
theorem add_all (y m d n : Int) (ok : okD y m d = true) (n1 : -9223372036854775808 ≤ n) (n2 : n ≤ 9223372036854775807) : ∃ (P Q R E : Int) (o : Bool), (∀ wx, HasLen wx → Calls Tryd.prog 27 #[.agg #[.int .i64 y, .int .i64 m, .int .i64 d], .int .i64 n] wx fun e w' => e = .returned (.tuple #[.agg #[.int .i64 P, .int .i64 Q, .int .i64 R], .int .i64 E]) ∧ Below wx.heap.size wx w') ∧
    ((n < -730119 - num y m d ∧ P = 0 ∧ Q = 0 ∧ R = 0 ∧ E = 2 ∧ o = true) ∨ ((¬ n < -730119 - num y m d ∧ 2921939 - num y m d < n) ∧ P = 0 ∧ Q = 0 ∧ R = 0 ∧ E = 2 ∧ o = true) ∨ ((¬ n < -730119 - num y m d ∧ ¬ 2921939 - num y m d < n) ∧ okD P Q R = true ∧ num P Q R = num y m d + n ∧ E = 0 ∧ o = false)) := by
  by_cases h1 : n < -730119 - num y m d
  · exact ⟨0, 0, 0, 2, true, fun wx hx => add_range y m d n wx hx ok n1 n2 (by omega), Or.inl ⟨h1, rfl, rfl, rfl, rfl, rfl⟩⟩
  · by_cases h2 : 2921939 - num y m d < n
    · exact ⟨0, 0, 0, 2, true, fun wx hx => add_range y m d n wx hx ok n1 n2 (by omega), Or.inr (Or.inl ⟨⟨h1, h2⟩, rfl, rfl, rfl, rfl, rfl⟩)⟩
    · obtain ⟨a, b, c, ok', hn⟩ := date_ex (n := num y m d + n) (by omega) (by omega)
      exact ⟨a, b, c, 0, false, fun wx hx => add_ok y m d n a b c wx hx ok ok' hn, Or.inr (Or.inr ⟨⟨h1, h2⟩, ok', hn, rfl, rfl⟩)⟩
set_option maxHeartbeats 8000000 in
theorem adds9 (n y m d a b c : Int) (w : World) (H : HasLen w) (n1 : -9223372036854775808 ≤ n) (n2 : n ≤ 9223372036854775807) :
    Calls Tryd.prog 5 #[.int .i64 n, .agg #[.int .i64 y, .int .i64 m, .int .i64 d], .agg #[.int .i64 a, .int .i64 b, .int .i64 c]] w fun e w' => e = .returned (.bool true) ∧ Below w.heap.size w w' := by
  have HB := Lib.hid (below2 w (.cells #[.int .i64 y, .int .i64 m, .int .i64 d] 23) (.cells #[.int .i64 a, .int .i64 b, .int .i64 c] 23))
  have A := (At3.new w (.int .i64 y) (.int .i64 m) (.int .i64 d) 23).alloc (.cells #[.int .i64 a, .int .i64 b, .int .i64 c] 23)
  have B := At3.new (w.alloc (.cells #[.int .i64 y, .int .i64 m, .int .i64 d] 23)) (.int .i64 a) (.int .i64 b) (.int .i64 c) 23
  simp at B
  have HX := H.below HB.out
  clear H
  have CA := Lib.hid (fun wx (hx : HasLen wx) => awake9 wx hx)
  have FI := Lib.hid (fun wx => first_any wx)
  have LA := Lib.hid (fun wx => last_any wx)
  obtain ⟨P, Q, R, E, o, CD, HN⟩ := dateOf_all n
  replace CD := Lib.hid CD
  replace HN := Lib.hid HN
  have RD := Lib.hid (fun k p q r (h : okD p q r = true) (e : num p q r = k) wx => rdateOf_ok k p q r wx h e)
  rcases Bool.eq_false_or_eq_true (okD y m d) with ok | ok
  · obtain ⟨X, Y, Z, F, o2, CX, HS⟩ := add_all y m d n ok n1 n2
    replace CX := Lib.hid CX
    replace HS := Lib.hid HS
    have RV := Lib.hid (fun wx => told1 true ok (rvalid_any y m d wx))
    have RN := Lib.hid (fun wx => rnumber_any y m d wx ok)
    have kr := num_range ok
    rcases Bool.eq_false_or_eq_true (okD a b c) with okb | okb
    · have CC := Lib.hid (fun wx (hx : HasLen wx) => cmp_ok y m d a b c wx hx ok okb)
      have RB := Lib.hid (fun wx => told1 true okb (rvalid_any a b c wx))
      have RM := Lib.hid (fun wx => rnumber_any a b c wx okb)
      have HC := cmpD_num ok okb
      generalize cmpD y m d a b c = t at *
      generalize num a b c = l at *
      generalize num y m d = k at *
      have k1 : -730119 ≤ k := kr.1
      have k2 : k ≤ 2921939 := kr.2
      replace HC := Lib.hid HC
      clear ok okb kr
      obtain ⟨A0, A1, A2, -, -, -, -⟩ := id A
      obtain ⟨B0, B1, B2, -, -, -, -⟩ := id B
      go_enter Tryd.func5, Tryd.ntmps5
      go_wp2_with fail
      refine ((CA).out _ HX).mono ?_
      rintro e w1 ⟨rfl, hb⟩
      clear A0 A1 A2 B0 B1 B2
      replace A := A.keep hb
      replace B := B.keep hb
      replace HX := HX.below hb
      replace HB := Lib.hid (bstep HB.out hb)
      clear hb
      obtain ⟨A0, A1, A2, -, -, -, -⟩ := id A
      obtain ⟨B0, B1, B2, -, -, -, -⟩ := id B
      go_wp2_with fail
      refine ((CD).out _ HX).mono ?_
      rintro e w2 ⟨rfl, hb⟩
      clear A0 A1 A2 B0 B1 B2
      replace A := A.keep hb
      replace B := B.keep hb
      replace HX := HX.below hb
      replace HB := Lib.hid (bstep HB.out hb)
      clear hb
      obtain ⟨A0, A1, A2, -, -, -, -⟩ := id A
      obtain ⟨B0, B1, B2, -, -, -, -⟩ := id B
      clear A0 A1 A2 B0 B1 B2
      replace A := A.alloc (.cells #[.int .i64 P, .int .i64 Q, .int .i64 R] 23)
      replace B := B.alloc (.cells #[.int .i64 P, .int .i64 Q, .int .i64 R] 23)
      replace HX := HX.below (below1 w2 (.cells #[.int .i64 P, .int .i64 Q, .int .i64 R] 23))
      have D := At3.new w2 (.int .i64 P) (.int .i64 Q) (.int .i64 R) 23
      replace HB := Lib.hid (bstep HB.out (below1 w2 (.cells #[.int .i64 P, .int .i64 Q, .int .i64 R] 23)))
      obtain ⟨A0, A1, A2, -, -, -, -⟩ := id A
      obtain ⟨B0, B1, B2, -, -, -, -⟩ := id B
      obtain ⟨D0, D1, D2, -, -, -, -⟩ := id D
      go_upto_region 4 with fail
      obtain ⟨gd, hgd⟩ : ∃ g, w2.heap.size = g := ⟨_, rfl⟩
      rw [hgd] at D D0 D1 D2
      rw [hgd]
      clear hgd
      go_cut [30] from 23 to 30 (fun v30 wx => v30 = .bool o ∧ Hid (At3 wx w.heap.size (.int .i64 y) (.int .i64 m) (.int .i64 d)) ∧ Hid (At3 wx (w.heap.size + 1) (.int .i64 a) (.int .i64 b) (.int .i64 c)) ∧ Hid (At3 wx gd (.int .i64 P) (.int .i64 Q) (.int .i64 R)) ∧ Hid (HasLen wx) ∧ Hid (Below w.heap.size w wx))
      case first =>
        rcases HN.out with ⟨q1, rfl, rfl, rfl, rfl, rfl⟩ | ⟨⟨q1, q2⟩, rfl, rfl, rfl, rfl, rfl⟩ | ⟨⟨q1, q2⟩, okP, hP, rfl, rfl⟩
        · go_wp2_with fail
          refine ((FI).out _).mono ?_
          rintro e w3 ⟨rfl, hb⟩
          clear A0 A1 A2 B0 B1 B2 D0 D1 D2
          replace A := A.keep hb
          replace B := B.keep hb
          replace D := D.keep hb
          replace HX := HX.below hb
          replace HB := Lib.hid (bstep HB.out hb)
          clear hb
          obtain ⟨A0, A1, A2, -, -, -, -⟩ := id A
          obtain ⟨B0, B1, B2, -, -, -, -⟩ := id B
          obtain ⟨D0, D1, D2, -, -, -, -⟩ := id D
          go_wp2_with fail
          go_meet
          exact ⟨by first | rfl | (simp; done) | (simp; omega), Lib.hid A, Lib.hid B, Lib.hid D, Lib.hid HX, HB⟩
        · go_wp2_with fail
          refine ((FI).out _).mono ?_
          rintro e w3 ⟨rfl, hb⟩
          clear A0 A1 A2 B0 B1 B2 D0 D1 D2
          replace A := A.keep hb
          replace B := B.keep hb
          replace D := D.keep hb
          replace HX := HX.below hb
          replace HB := Lib.hid (bstep HB.out hb)
          clear hb
          obtain ⟨A0, A1, A2, -, -, -, -⟩ := id A
          obtain ⟨B0, B1, B2, -, -, -, -⟩ := id B
          obtain ⟨D0, D1, D2, -, -, -, -⟩ := id D
          go_wp2_with fail
          refine ((LA).out _).mono ?_
          rintro e w4 ⟨rfl, hb⟩
          clear A0 A1 A2 B0 B1 B2 D0 D1 D2
          replace A := A.keep hb
          replace B := B.keep hb
          replace D := D.keep hb
          replace HX := HX.below hb
          replace HB := Lib.hid (bstep HB.out hb)
          clear hb
          obtain ⟨A0, A1, A2, -, -, -, -⟩ := id A
          obtain ⟨B0, B1, B2, -, -, -, -⟩ := id B
          obtain ⟨D0, D1, D2, -, -, -, -⟩ := id D
          go_wp2_with fail
          go_meet
          exact ⟨by first | rfl | (simp; done) | (simp; omega), Lib.hid A, Lib.hid B, Lib.hid D, Lib.hid HX, HB⟩
        · go_wp2_with fail
          refine ((FI).out _).mono ?_
          rintro e w3 ⟨rfl, hb⟩
          clear A0 A1 A2 B0 B1 B2 D0 D1 D2
          replace A := A.keep hb
          replace B := B.keep hb
          replace D := D.keep hb
          replace HX := HX.below hb
          replace HB := Lib.hid (bstep HB.out hb)
          clear hb
          obtain ⟨A0, A1, A2, -, -, -, -⟩ := id A
          obtain ⟨B0, B1, B2, -, -, -, -⟩ := id B
          obtain ⟨D0, D1, D2, -, -, -, -⟩ := id D
          go_wp2_with fail
          refine ((LA).out _).mono ?_
          rintro e w4 ⟨rfl, hb⟩
          clear A0 A1 A2 B0 B1 B2 D0 D1 D2
          replace A := A.keep hb
          replace B := B.keep hb
          replace D := D.keep hb
          replace HX := HX.below hb
          replace HB := Lib.hid (bstep HB.out hb)
          clear hb
          obtain ⟨A0, A1, A2, -, -, -, -⟩ := id A
          obtain ⟨B0, B1, B2, -, -, -, -⟩ := id B
          obtain ⟨D0, D1, D2, -, -, -, -⟩ := id D
          go_wp2_with fail
          go_meet
          exact ⟨by first | rfl | (simp; done) | (simp; omega), Lib.hid A, Lib.hid B, Lib.hid D, Lib.hid HX, HB⟩
      case rest =>
        clear A0 A1 A2 B0 B1 B2 D0 D1 D2
        obtain ⟨rfl, hA, hB, hD, hX, hW⟩ := hcut
        clear A B D HX HB
        have A := hA.out
        have B := hB.out
        have D := hD.out
        have HX := hX.out
        have HB := hW
        clear hA hB hD hX hW
        obtain ⟨A0, A1, A2, -, -, -, -⟩ := id A
        obtain ⟨B0, B1, B2, -, -, -, -⟩ := id B
        obtain ⟨D0, D1, D2, -, -, -, -⟩ := id D
        go_upto_if 30 with fail
        go_cut [8] from 31 to 45 (fun v8 wx => Hid (At3 wx w.heap.size (.int .i64 y) (.int .i64 m) (.int .i64 d)) ∧ Hid (At3 wx (w.heap.size + 1) (.int .i64 a) (.int .i64 b) (.int .i64 c)) ∧ Hid (HasLen wx) ∧ Hid (Below w.heap.size w wx))
        case first =>
          rcases HN.out with ⟨q1, rfl, rfl, rfl, rfl, rfl⟩ | ⟨⟨q1, q2⟩, rfl, rfl, rfl, rfl, rfl⟩ | ⟨⟨q1, q2⟩, okP, hP, rfl, rfl⟩
          · go_wp2_with fail
            go_meet
            exact ⟨Lib.hid A, Lib.hid B, Lib.hid HX, HB⟩
          · go_wp2_with fail
            go_meet
            exact ⟨Lib.hid A, Lib.hid B, Lib.hid HX, HB⟩
          · have RP := Lib.hid (RD.out n P Q R okP hP)
            clear okP hP
            go_upto_region 7 with fail
            clear A0 A1 A2 B0 B1 B2 D0 D1 D2
            obtain ⟨D0, D1, D2⟩ := D.bel
            refine wp_region_bel (by kernel_rfl) (by kernel_rfl) ?_
            repeat (go_big_quiet_step (first | (go_at_call 26; with_reducible refine bel_of (RP.out _))))
            refine wpQuiet_nil ?_
            intro _ hw'
            obtain ⟨pq, hw''⟩ := hw'
            subst hw''

            replace A := A.keep pq.h
            replace B := B.keep pq.h
            replace HX := HX.below pq.h
            replace HB := Lib.hid (bstep HB.out pq.h)
            clear D D0 D1 D2
            go_wp2_with fail
            go_meet
            exact ⟨Lib.hid A, Lib.hid B, Lib.hid HX, HB⟩
        case rest =>
          clear A0 A1 A2 B0 B1 B2 D0 D1 D2
          obtain ⟨hA, hB, hX, hW⟩ := hcut
          clear A B D HX HB HN CD CA
          have A := hA.out
          have B := hB.out
          have HX := hX.out
          have HB := hW
          clear hA hB hX hW
          obtain ⟨A0, A1, A2, -, -, -, -⟩ := id A
          obtain ⟨B0, B1, B2, -, -, -, -⟩ := id B
          go_wp2_with fail
          refine ((CX).out _ HX).mono ?_
          rintro e w3 ⟨rfl, hb⟩
          clear A0 A1 A2 B0 B1 B2
          replace A := A.keep hb
          replace B := B.keep hb
          replace HX := HX.below hb
          replace HB := Lib.hid (bstep HB.out hb)
          clear hb
          obtain ⟨A0, A1, A2, -, -, -, -⟩ := id A
          obtain ⟨B0, B1, B2, -, -, -, -⟩ := id B
          clear A0 A1 A2 B0 B1 B2
          replace A := A.alloc (.cells #[.int .i64 X, .int .i64 Y, .int .i64 Z] 23)
          replace B := B.alloc (.cells #[.int .i64 X, .int .i64 Y, .int .i64 Z] 23)
          replace HX := HX.below (below1 w3 (.cells #[.int .i64 X, .int .i64 Y, .int .i64 Z] 23))
          have D := At3.new w3 (.int .i64 X) (.int .i64 Y) (.int .i64 Z) 23
          replace HB := Lib.hid (bstep HB.out (below1 w3 (.cells #[.int .i64 X, .int .i64 Y, .int .i64 Z] 23)))
          obtain ⟨A0, A1, A2, -, -, -, -⟩ := id A
          obtain ⟨B0, B1, B2, -, -, -, -⟩ := id B
          obtain ⟨D0, D1, D2, -, -, -, -⟩ := id D
          go_wp2_with fail
          refine ((CC).out _ HX).mono ?_
          rintro e w4 ⟨rfl, hb⟩
          clear A0 A1 A2 B0 B1 B2 D0 D1 D2
          replace A := A.keep hb
          replace B := B.keep hb
          replace D := D.keep hb
          replace HX := HX.below hb
          replace HB := Lib.hid (bstep HB.out hb)
          clear hb
          obtain ⟨A0, A1, A2, -, -, -, -⟩ := id A
          obtain ⟨B0, B1, B2, -, -, -, -⟩ := id B
          obtain ⟨D0, D1, D2, -, -, -, -⟩ := id D
          go_wp2_with fail
          refine ((RV).out _).mono ?_
          rintro e w5 ⟨rfl, hb⟩
          clear A0 A1 A2 B0 B1 B2 D0 D1 D2
          replace A := A.keep hb
          replace B := B.keep hb
          replace D := D.keep hb
          replace HX := HX.below hb
          replace HB := Lib.hid (bstep HB.out hb)
          clear hb
          obtain ⟨A0, A1, A2, -, -, -, -⟩ := id A
          obtain ⟨B0, B1, B2, -, -, -, -⟩ := id B
          obtain ⟨D0, D1, D2, -, -, -, -⟩ := id D
          go_wp2_with fail
          refine ((RN).out _).mono ?_
          rintro e w6 ⟨rfl, hb⟩
          clear A0 A1 A2 B0 B1 B2 D0 D1 D2
          replace A := A.keep hb
          replace B := B.keep hb
          replace D := D.keep hb
          replace HX := HX.below hb
          replace HB := Lib.hid (bstep HB.out hb)
          clear hb
          obtain ⟨A0, A1, A2, -, -, -, -⟩ := id A
          obtain ⟨B0, B1, B2, -, -, -, -⟩ := id B
          obtain ⟨D0, D1, D2, -, -, -, -⟩ := id D
          go_upto_region 14 with fail
          obtain ⟨gd, hgd⟩ : ∃ g, w3.heap.size = g := ⟨_, rfl⟩
          rw [hgd] at D D0 D1 D2
          rw [hgd]
          clear hgd
          go_cut [89] from 78 to 89 (fun v89 wx => v89 = .bool o2 ∧ Hid (At3 wx w.heap.size (.int .i64 y) (.int .i64 m) (.int .i64 d)) ∧ Hid (At3 wx (w.heap.size + 1) (.int .i64 a) (.int .i64 b) (.int .i64 c)) ∧ Hid (At3 wx gd (.int .i64 X) (.int .i64 Y) (.int .i64 Z)) ∧ Hid (HasLen wx) ∧ Hid (Below w.heap.size w wx))
          case first =>
            rcases HS.out with ⟨q1, rfl, rfl, rfl, rfl, rfl⟩ | ⟨⟨q1, q2⟩, rfl, rfl, rfl, rfl, rfl⟩ | ⟨⟨q1, q2⟩, okP, hP, rfl, rfl⟩
            · go_wp2_with fail
              refine ((FI).out _).mono ?_
              rintro e w7 ⟨rfl, hb⟩
              clear A0 A1 A2 B0 B1 B2 D0 D1 D2
              replace A := A.keep hb
              replace B := B.keep hb
              replace D := D.keep hb
              replace HX := HX.below hb
              replace HB := Lib.hid (bstep HB.out hb)
              clear hb
              obtain ⟨A0, A1, A2, -, -, -, -⟩ := id A
              obtain ⟨B0, B1, B2, -, -, -, -⟩ := id B
              obtain ⟨D0, D1, D2, -, -, -, -⟩ := id D
              go_wp2_with fail
              go_meet
              exact ⟨by first | rfl | (simp; done) | (simp; omega), Lib.hid A, Lib.hid B, Lib.hid D, Lib.hid HX, HB⟩
            · go_wp2_with fail
              refine ((FI).out _).mono ?_
              rintro e w7 ⟨rfl, hb⟩
              clear A0 A1 A2 B0 B1 B2 D0 D1 D2
              replace A := A.keep hb
              replace B := B.keep hb
              replace D := D.keep hb
              replace HX := HX.below hb
              replace HB := Lib.hid (bstep HB.out hb)
              clear hb
              obtain ⟨A0, A1, A2, -, -, -, -⟩ := id A
              obtain ⟨B0, B1, B2, -, -, -, -⟩ := id B
              obtain ⟨D0, D1, D2, -, -, -, -⟩ := id D
              go_wp2_with fail
              refine ((LA).out _).mono ?_
              rintro e w8 ⟨rfl, hb⟩
              clear A0 A1 A2 B0 B1 B2 D0 D1 D2
              replace A := A.keep hb
              replace B := B.keep hb
              replace D := D.keep hb
              replace HX := HX.below hb
              replace HB := Lib.hid (bstep HB.out hb)
              clear hb
              obtain ⟨A0, A1, A2, -, -, -, -⟩ := id A
              obtain ⟨B0, B1, B2, -, -, -, -⟩ := id B
              obtain ⟨D0, D1, D2, -, -, -, -⟩ := id D
              go_wp2_with fail
              go_meet
              exact ⟨by first | rfl | (simp; done) | (simp; omega), Lib.hid A, Lib.hid B, Lib.hid D, Lib.hid HX, HB⟩
            · go_wp2_with fail
              refine ((FI).out _).mono ?_
              rintro e w7 ⟨rfl, hb⟩
              clear A0 A1 A2 B0 B1 B2 D0 D1 D2
              replace A := A.keep hb
              replace B := B.keep hb
              replace D := D.keep hb
              replace HX := HX.below hb
              replace HB := Lib.hid (bstep HB.out hb)
              clear hb
              obtain ⟨A0, A1, A2, -, -, -, -⟩ := id A
              obtain ⟨B0, B1, B2, -, -, -, -⟩ := id B
              obtain ⟨D0, D1, D2, -, -, -, -⟩ := id D
              go_wp2_with fail
              refine ((LA).out _).mono ?_
              rintro e w8 ⟨rfl, hb⟩
              clear A0 A1 A2 B0 B1 B2 D0 D1 D2
              replace A := A.keep hb
              replace B := B.keep hb
              replace D := D.keep hb
              replace HX := HX.below hb
              replace HB := Lib.hid (bstep HB.out hb)
              clear hb
              obtain ⟨A0, A1, A2, -, -, -, -⟩ := id A
              obtain ⟨B0, B1, B2, -, -, -, -⟩ := id B
              obtain ⟨D0, D1, D2, -, -, -, -⟩ := id D
              go_wp2_with fail
              go_meet
              exact ⟨by first | rfl | (simp; done) | (simp; omega), Lib.hid A, Lib.hid B, Lib.hid D, Lib.hid HX, HB⟩
          case rest =>
            clear A0 A1 A2 B0 B1 B2 D0 D1 D2
            obtain ⟨rfl, hA, hB, hD, hX, hW⟩ := hcut
            clear A B D HX HB
            have A := hA.out
            have B := hB.out
            have D := hD.out
            have HX := hX.out
            have HB := hW
            clear hA hB hD hX hW
            obtain ⟨A0, A1, A2, -, -, -, -⟩ := id A
            obtain ⟨B0, B1, B2, -, -, -, -⟩ := id B
            obtain ⟨D0, D1, D2, -, -, -, -⟩ := id D
            go_upto_if 89 with fail
            go_cut [8] from 90 to 106 (fun v8 wx => Hid (At3 wx w.heap.size (.int .i64 y) (.int .i64 m) (.int .i64 d)) ∧ Hid (At3 wx (w.heap.size + 1) (.int .i64 a) (.int .i64 b) (.int .i64 c)) ∧ Hid (HasLen wx) ∧ Hid (Below w.heap.size w wx))
            case first =>
              rcases HS.out with ⟨q1, rfl, rfl, rfl, rfl, rfl⟩ | ⟨⟨q1, q2⟩, rfl, rfl, rfl, rfl, rfl⟩ | ⟨⟨q1, q2⟩, okP, hP, rfl, rfl⟩
              · go_wp2_with fail
                go_meet
                exact ⟨Lib.hid A, Lib.hid B, Lib.hid HX, HB⟩
              · go_wp2_with fail
                go_meet
                exact ⟨Lib.hid A, Lib.hid B, Lib.hid HX, HB⟩
              · have RP := Lib.hid (RD.out (k + n) X Y Z okP hP)
                have e0 : wrap64 (k + n) = k + n := w64_is rfl (by omega) (by omega)
                have s1 : -10000000 ≤ n := by omega
                have s2 : n ≤ 10000000 := by omega
                clear okP hP
                go_upto_region 17 with fail
                clear A0 A1 A2 B0 B1 B2 D0 D1 D2
                obtain ⟨D0, D1, D2⟩ := D.bel
                refine wp_region_bel (by kernel_rfl) (by kernel_rfl) ?_
                repeat (go_big_quiet_step (first | (go_at_call 26; with_reducible refine bel_of (RP.out _))))
                refine wpQuiet_nil ?_
                intro _ hw'
                obtain ⟨pq, hw''⟩ := hw'
                subst hw''

                replace A := A.keep pq.h
                replace B := B.keep pq.h
                replace HX := HX.below pq.h
                replace HB := Lib.hid (bstep HB.out pq.h)
                clear D D0 D1 D2
                go_wp2_with fail
                go_meet
                exact ⟨Lib.hid A, Lib.hid B, Lib.hid HX, HB⟩
            case rest =>
              clear A0 A1 A2 B0 B1 B2 D0 D1 D2
              obtain ⟨hA, hB, hX, hW⟩ := hcut
              clear A B D HX HB HS RD CX CC RV
              have A := hA.out
              have B := hB.out
              have HX := hX.out
              have HB := hW
              clear hA hB hX hW
              obtain ⟨A0, A1, A2, -, -, -, -⟩ := id A
              obtain ⟨B0, B1, B2, -, -, -, -⟩ := id B
              go_wp2_with fail
              refine ((RB).out _).mono ?_
              rintro e w7 ⟨rfl, hb⟩
              clear A0 A1 A2 B0 B1 B2
              replace A := A.keep hb
              replace B := B.keep hb
              replace HX := HX.below hb
              replace HB := Lib.hid (bstep HB.out hb)
              clear hb
              obtain ⟨A0, A1, A2, -, -, -, -⟩ := id A
              obtain ⟨B0, B1, B2, -, -, -, -⟩ := id B
              go_wp2_with fail
              refine ((RM).out _).mono ?_
              rintro e w8 ⟨rfl, hb⟩
              clear A0 A1 A2 B0 B1 B2
              replace A := A.keep hb
              replace B := B.keep hb
              replace HX := HX.below hb
              replace HB := Lib.hid (bstep HB.out hb)
              clear hb
              obtain ⟨A0, A1, A2, -, -, -, -⟩ := id A
              obtain ⟨B0, B1, B2, -, -, -, -⟩ := id B
              have hc := HC.out
              by_cases u1 : k < l
              · rw [if_pos u1] at hc
                subst hc
                go_wp2_with fail
                go_ret
                exact ⟨by first | rfl | exact ret_bool (by simp), HB.out⟩
              · rw [if_neg u1] at hc
                by_cases u2 : l < k
                · rw [if_pos u2] at hc
                  subst hc
                  go_wp2_with fail
                  go_ret
                  exact ⟨by first | rfl | exact ret_bool (by simp), HB.out⟩
                · rw [if_neg u2] at hc
                  subst hc
                  go_wp2_with fail
                  go_ret
                  exact ⟨by first | rfl | exact ret_bool (by simp), HB.out⟩
    · have CC := Lib.hid (fun wx (hx : HasLen wx) => cmp_no2 y m d a b c wx hx ok okb)
      have RB := Lib.hid (fun wx => told1 false okb (rvalid_any a b c wx))
      generalize num y m d = k at *
      have k1 : -730119 ≤ k := kr.1
      have k2 : k ≤ 2921939 := kr.2
      clear ok okb kr
      obtain ⟨A0, A1, A2, -, -, -, -⟩ := id A
      obtain ⟨B0, B1, B2, -, -, -, -⟩ := id B
      go_enter Tryd.func5, Tryd.ntmps5
      go_wp2_with fail
      refine ((CA).out _ HX).mono ?_
      rintro e w1 ⟨rfl, hb⟩
      clear A0 A1 A2 B0 B1 B2
      replace A := A.keep hb
      replace B := B.keep hb
      replace HX := HX.below hb
      replace HB := Lib.hid (bstep HB.out hb)
      clear hb
      obtain ⟨A0, A1, A2, -, -, -, -⟩ := id A
      obtain ⟨B0, B1, B2, -, -, -, -⟩ := id B
      go_wp2_with fail
      refine ((CD).out _ HX).mono ?_
      rintro e w2 ⟨rfl, hb⟩
      clear A0 A1 A2 B0 B1 B2
      replace A := A.keep hb
      replace B := B.keep hb
      replace HX := HX.below hb
      replace HB := Lib.hid (bstep HB.out hb)
      clear hb
      obtain ⟨A0, A1, A2, -, -, -, -⟩ := id A
      obtain ⟨B0, B1, B2, -, -, -, -⟩ := id B
      clear A0 A1 A2 B0 B1 B2
      replace A := A.alloc (.cells #[.int .i64 P, .int .i64 Q, .int .i64 R] 23)
      replace B := B.alloc (.cells #[.int .i64 P, .int .i64 Q, .int .i64 R] 23)
      replace HX := HX.below (below1 w2 (.cells #[.int .i64 P, .int .i64 Q, .int .i64 R] 23))
      have D := At3.new w2 (.int .i64 P) (.int .i64 Q) (.int .i64 R) 23
      replace HB := Lib.hid (bstep HB.out (below1 w2 (.cells #[.int .i64 P, .int .i64 Q, .int .i64 R] 23)))
      obtain ⟨A0, A1, A2, -, -, -, -⟩ := id A
      obtain ⟨B0, B1, B2, -, -, -, -⟩ := id B
      obtain ⟨D0, D1, D2, -, -, -, -⟩ := id D
      go_upto_region 4 with fail
      obtain ⟨gd, hgd⟩ : ∃ g, w2.heap.size = g := ⟨_, rfl⟩
      rw [hgd] at D D0 D1 D2
      rw [hgd]
      clear hgd
      go_cut [30] from 23 to 30 (fun v30 wx => v30 = .bool o ∧ Hid (At3 wx w.heap.size (.int .i64 y) (.int .i64 m) (.int .i64 d)) ∧ Hid (At3 wx (w.heap.size + 1) (.int .i64 a) (.int .i64 b) (.int .i64 c)) ∧ Hid (At3 wx gd (.int .i64 P) (.int .i64 Q) (.int .i64 R)) ∧ Hid (HasLen wx) ∧ Hid (Below w.heap.size w wx))
      case first =>
        rcases HN.out with ⟨q1, rfl, rfl, rfl, rfl, rfl⟩ | ⟨⟨q1, q2⟩, rfl, rfl, rfl, rfl, rfl⟩ | ⟨⟨q1, q2⟩, okP, hP, rfl, rfl⟩
        · go_wp2_with fail
          refine ((FI).out _).mono ?_
          rintro e w3 ⟨rfl, hb⟩
          clear A0 A1 A2 B0 B1 B2 D0 D1 D2
          replace A := A.keep hb
          replace B := B.keep hb
          replace D := D.keep hb
          replace HX := HX.below hb
          replace HB := Lib.hid (bstep HB.out hb)
          clear hb
          obtain ⟨A0, A1, A2, -, -, -, -⟩ := id A
          obtain ⟨B0, B1, B2, -, -, -, -⟩ := id B
          obtain ⟨D0, D1, D2, -, -, -, -⟩ := id D
          go_wp2_with fail
          go_meet
          exact ⟨by first | rfl | (simp; done) | (simp; omega), Lib.hid A, Lib.hid B, Lib.hid D, Lib.hid HX, HB⟩
        · go_wp2_with fail
          refine ((FI).out _).mono ?_
          rintro e w3 ⟨rfl, hb⟩
          clear A0 A1 A2 B0 B1 B2 D0 D1 D2
          replace A := A.keep hb
          replace B := B.keep hb
          replace D := D.keep hb
          replace HX := HX.below hb
          replace HB := Lib.hid (bstep HB.out hb)
          clear hb
          obtain ⟨A0, A1, A2, -, -, -, -⟩ := id A
          obtain ⟨B0, B1, B2, -, -, -, -⟩ := id B
          obtain ⟨D0, D1, D2, -, -, -, -⟩ := id D
          go_wp2_with fail
          refine ((LA).out _).mono ?_
          rintro e w4 ⟨rfl, hb⟩
          clear A0 A1 A2 B0 B1 B2 D0 D1 D2
          replace A := A.keep hb
          replace B := B.keep hb
          replace D := D.keep hb
          replace HX := HX.below hb
          replace HB := Lib.hid (bstep HB.out hb)
          clear hb
          obtain ⟨A0, A1, A2, -, -, -, -⟩ := id A
          obtain ⟨B0, B1, B2, -, -, -, -⟩ := id B
          obtain ⟨D0, D1, D2, -, -, -, -⟩ := id D
          go_wp2_with fail
          go_meet
          exact ⟨by first | rfl | (simp; done) | (simp; omega), Lib.hid A, Lib.hid B, Lib.hid D, Lib.hid HX, HB⟩
        · go_wp2_with fail
          refine ((FI).out _).mono ?_
          rintro e w3 ⟨rfl, hb⟩
          clear A0 A1 A2 B0 B1 B2 D0 D1 D2
          replace A := A.keep hb
          replace B := B.keep hb
          replace D := D.keep hb
          replace HX := HX.below hb
          replace HB := Lib.hid (bstep HB.out hb)
          clear hb
          obtain ⟨A0, A1, A2, -, -, -, -⟩ := id A
          obtain ⟨B0, B1, B2, -, -, -, -⟩ := id B
          obtain ⟨D0, D1, D2, -, -, -, -⟩ := id D
          go_wp2_with fail
          refine ((LA).out _).mono ?_
          rintro e w4 ⟨rfl, hb⟩
          clear A0 A1 A2 B0 B1 B2 D0 D1 D2
          replace A := A.keep hb
          replace B := B.keep hb
          replace D := D.keep hb
          replace HX := HX.below hb
          replace HB := Lib.hid (bstep HB.out hb)
          clear hb
          obtain ⟨A0, A1, A2, -, -, -, -⟩ := id A
          obtain ⟨B0, B1, B2, -, -, -, -⟩ := id B
          obtain ⟨D0, D1, D2, -, -, -, -⟩ := id D
          go_wp2_with fail
          go_meet
          exact ⟨by first | rfl | (simp; done) | (simp; omega), Lib.hid A, Lib.hid B, Lib.hid D, Lib.hid HX, HB⟩
      case rest =>
        clear A0 A1 A2 B0 B1 B2 D0 D1 D2
        obtain ⟨rfl, hA, hB, hD, hX, hW⟩ := hcut
        clear A B D HX HB
        have A := hA.out
        have B := hB.out
        have D := hD.out
        have HX := hX.out
        have HB := hW
        clear hA hB hD hX hW
        obtain ⟨A0, A1, A2, -, -, -, -⟩ := id A
        obtain ⟨B0, B1, B2, -, -, -, -⟩ := id B
        obtain ⟨D0, D1, D2, -, -, -, -⟩ := id D
        go_upto_if 30 with fail
        go_cut [8] from 31 to 45 (fun v8 wx => Hid (At3 wx w.heap.size (.int .i64 y) (.int .i64 m) (.int .i64 d)) ∧ Hid (At3 wx (w.heap.size + 1) (.int .i64 a) (.int .i64 b) (.int .i64 c)) ∧ Hid (HasLen wx) ∧ Hid (Below w.heap.size w wx))
        case first =>
          rcases HN.out with ⟨q1, rfl, rfl, rfl, rfl, rfl⟩ | ⟨⟨q1, q2⟩, rfl, rfl, rfl, rfl, rfl⟩ | ⟨⟨q1, q2⟩, okP, hP, rfl, rfl⟩
          · go_wp2_with fail
            go_meet
            exact ⟨Lib.hid A, Lib.hid B, Lib.hid HX, HB⟩
          · go_wp2_with fail
            go_meet
            exact ⟨Lib.hid A, Lib.hid B, Lib.hid HX, HB⟩
          · have RP := Lib.hid (RD.out n P Q R okP hP)
            clear okP hP
            go_upto_region 7 with fail
            clear A0 A1 A2 B0 B1 B2 D0 D1 D2
            obtain ⟨D0, D1, D2⟩ := D.bel
            refine wp_region_bel (by kernel_rfl) (by kernel_rfl) ?_
            repeat (go_big_quiet_step (first | (go_at_call 26; with_reducible refine bel_of (RP.out _))))
            refine wpQuiet_nil ?_
            intro _ hw'
            obtain ⟨pq, hw''⟩ := hw'
            subst hw''

            replace A := A.keep pq.h
            replace B := B.keep pq.h
            replace HX := HX.below pq.h
            replace HB := Lib.hid (bstep HB.out pq.h)
            clear D D0 D1 D2
            go_wp2_with fail
            go_meet
            exact ⟨Lib.hid A, Lib.hid B, Lib.hid HX, HB⟩
        case rest =>
          clear A0 A1 A2 B0 B1 B2 D0 D1 D2
          obtain ⟨hA, hB, hX, hW⟩ := hcut
          clear A B D HX HB HN CD CA
          have A := hA.out
          have B := hB.out
          have HX := hX.out
          have HB := hW
          clear hA hB hX hW
          obtain ⟨A0, A1, A2, -, -, -, -⟩ := id A
          obtain ⟨B0, B1, B2, -, -, -, -⟩ := id B
          go_wp2_with fail
          refine ((CX).out _ HX).mono ?_
          rintro e w3 ⟨rfl, hb⟩
          clear A0 A1 A2 B0 B1 B2
          replace A := A.keep hb
          replace B := B.keep hb
          replace HX := HX.below hb
          replace HB := Lib.hid (bstep HB.out hb)
          clear hb
          obtain ⟨A0, A1, A2, -, -, -, -⟩ := id A
          obtain ⟨B0, B1, B2, -, -, -, -⟩ := id B
          clear A0 A1 A2 B0 B1 B2
          replace A := A.alloc (.cells #[.int .i64 X, .int .i64 Y, .int .i64 Z] 23)
          replace B := B.alloc (.cells #[.int .i64 X, .int .i64 Y, .int .i64 Z] 23)
          replace HX := HX.below (below1 w3 (.cells #[.int .i64 X, .int .i64 Y, .int .i64 Z] 23))
          have D := At3.new w3 (.int .i64 X) (.int .i64 Y) (.int .i64 Z) 23
          replace HB := Lib.hid (bstep HB.out (below1 w3 (.cells #[.int .i64 X, .int .i64 Y, .int .i64 Z] 23)))
          obtain ⟨A0, A1, A2, -, -, -, -⟩ := id A
          obtain ⟨B0, B1, B2, -, -, -, -⟩ := id B
          obtain ⟨D0, D1, D2, -, -, -, -⟩ := id D
          go_wp2_with fail
          refine ((CC).out _ HX).mono ?_
          rintro e w4 ⟨rfl, hb⟩
          clear A0 A1 A2 B0 B1 B2 D0 D1 D2
          replace A := A.keep hb
          replace B := B.keep hb
          replace D := D.keep hb
          replace HX := HX.below hb
          replace HB := Lib.hid (bstep HB.out hb)
          clear hb
          obtain ⟨A0, A1, A2, -, -, -, -⟩ := id A
          obtain ⟨B0, B1, B2, -, -, -, -⟩ := id B
          obtain ⟨D0, D1, D2, -, -, -, -⟩ := id D
          go_wp2_with fail
          refine ((RV).out _).mono ?_
          rintro e w5 ⟨rfl, hb⟩
          clear A0 A1 A2 B0 B1 B2 D0 D1 D2
          replace A := A.keep hb
          replace B := B.keep hb
          replace D := D.keep hb
          replace HX := HX.below hb
          replace HB := Lib.hid (bstep HB.out hb)
          clear hb
          obtain ⟨A0, A1, A2, -, -, -, -⟩ := id A
          obtain ⟨B0, B1, B2, -, -, -, -⟩ := id B
          obtain ⟨D0, D1, D2, -, -, -, -⟩ := id D
          go_wp2_with fail
          refine ((RN).out _).mono ?_
          rintro e w6 ⟨rfl, hb⟩
          clear A0 A1 A2 B0 B1 B2 D0 D1 D2
          replace A := A.keep hb
          replace B := B.keep hb
          replace D := D.keep hb
          replace HX := HX.below hb
          replace HB := Lib.hid (bstep HB.out hb)
          clear hb
          obtain ⟨A0, A1, A2, -, -, -, -⟩ := id A
          obtain ⟨B0, B1, B2, -, -, -, -⟩ := id B
          obtain ⟨D0, D1, D2, -, -, -, -⟩ := id D
          go_upto_region 14 with fail
          obtain ⟨gd, hgd⟩ : ∃ g, w3.heap.size = g := ⟨_, rfl⟩
          rw [hgd] at D D0 D1 D2
          rw [hgd]
          clear hgd
          go_cut [89] from 78 to 89 (fun v89 wx => v89 = .bool o2 ∧ Hid (At3 wx w.heap.size (.int .i64 y) (.int .i64 m) (.int .i64 d)) ∧ Hid (At3 wx (w.heap.size + 1) (.int .i64 a) (.int .i64 b) (.int .i64 c)) ∧ Hid (At3 wx gd (.int .i64 X) (.int .i64 Y) (.int .i64 Z)) ∧ Hid (HasLen wx) ∧ Hid (Below w.heap.size w wx))
          case first =>
            rcases HS.out with ⟨q1, rfl, rfl, rfl, rfl, rfl⟩ | ⟨⟨q1, q2⟩, rfl, rfl, rfl, rfl, rfl⟩ | ⟨⟨q1, q2⟩, okP, hP, rfl, rfl⟩
            · go_wp2_with fail
              refine ((FI).out _).mono ?_
              rintro e w7 ⟨rfl, hb⟩
              clear A0 A1 A2 B0 B1 B2 D0 D1 D2
              replace A := A.keep hb
              replace B := B.keep hb
              replace D := D.keep hb
              replace HX := HX.below hb
              replace HB := Lib.hid (bstep HB.out hb)
              clear hb
              obtain ⟨A0, A1, A2, -, -, -, -⟩ := id A
              obtain ⟨B0, B1, B2, -, -, -, -⟩ := id B
              obtain ⟨D0, D1, D2, -, -, -, -⟩ := id D
              go_wp2_with fail
              go_meet
              exact ⟨by first | rfl | (simp; done) | (simp; omega), Lib.hid A, Lib.hid B, Lib.hid D, Lib.hid HX, HB⟩
            · go_wp2_with fail
              refine ((FI).out _).mono ?_
              rintro e w7 ⟨rfl, hb⟩
              clear A0 A1 A2 B0 B1 B2 D0 D1 D2
              replace A := A.keep hb
              replace B := B.keep hb
              replace D := D.keep hb
              replace HX := HX.below hb
              replace HB := Lib.hid (bstep HB.out hb)
              clear hb
              obtain ⟨A0, A1, A2, -, -, -, -⟩ := id A
              obtain ⟨B0, B1, B2, -, -, -, -⟩ := id B
              obtain ⟨D0, D1, D2, -, -, -, -⟩ := id D
              go_wp2_with fail
              refine ((LA).out _).mono ?_
              rintro e w8 ⟨rfl, hb⟩
              clear A0 A1 A2 B0 B1 B2 D0 D1 D2
              replace A := A.keep hb
              replace B := B.keep hb
              replace D := D.keep hb
              replace HX := HX.below hb
              replace HB := Lib.hid (bstep HB.out hb)
              clear hb
              obtain ⟨A0, A1, A2, -, -, -, -⟩ := id A
              obtain ⟨B0, B1, B2, -, -, -, -⟩ := id B
              obtain ⟨D0, D1, D2, -, -, -, -⟩ := id D
              go_wp2_with fail
              go_meet
              exact ⟨by first | rfl | (simp; done) | (simp; omega), Lib.hid A, Lib.hid B, Lib.hid D, Lib.hid HX, HB⟩
            · go_wp2_with fail
              refine ((FI).out _).mono ?_
              rintro e w7 ⟨rfl, hb⟩
              clear A0 A1 A2 B0 B1 B2 D0 D1 D2
              replace A := A.keep hb
              replace B := B.keep hb
              replace D := D.keep hb
              replace HX := HX.below hb
              replace HB := Lib.hid (bstep HB.out hb)
              clear hb
              obtain ⟨A0, A1, A2, -, -, -, -⟩ := id A
              obtain ⟨B0, B1, B2, -, -, -, -⟩ := id B
              obtain ⟨D0, D1, D2, -, -, -, -⟩ := id D
              go_wp2_with fail
              refine ((LA).out _).mono ?_
              rintro e w8 ⟨rfl, hb⟩
              clear A0 A1 A2 B0 B1 B2 D0 D1 D2
              replace A := A.keep hb
              replace B := B.keep hb
              replace D := D.keep hb
              replace HX := HX.below hb
              replace HB := Lib.hid (bstep HB.out hb)
              clear hb
              obtain ⟨A0, A1, A2, -, -, -, -⟩ := id A
              obtain ⟨B0, B1, B2, -, -, -, -⟩ := id B
              obtain ⟨D0, D1, D2, -, -, -, -⟩ := id D
              go_wp2_with fail
              go_meet
              exact ⟨by first | rfl | (simp; done) | (simp; omega), Lib.hid A, Lib.hid B, Lib.hid D, Lib.hid HX, HB⟩
          case rest =>
            clear A0 A1 A2 B0 B1 B2 D0 D1 D2
            obtain ⟨rfl, hA, hB, hD, hX, hW⟩ := hcut
            clear A B D HX HB
            have A := hA.out
            have B := hB.out
            have D := hD.out
            have HX := hX.out
            have HB := hW
            clear hA hB hD hX hW
            obtain ⟨A0, A1, A2, -, -, -, -⟩ := id A
            obtain ⟨B0, B1, B2, -, -, -, -⟩ := id B
            obtain ⟨D0, D1, D2, -, -, -, -⟩ := id D
            go_upto_if 89 with fail
            go_cut [8] from 90 to 106 (fun v8 wx => Hid (At3 wx w.heap.size (.int .i64 y) (.int .i64 m) (.int .i64 d)) ∧ Hid (At3 wx (w.heap.size + 1) (.int .i64 a) (.int .i64 b) (.int .i64 c)) ∧ Hid (HasLen wx) ∧ Hid (Below w.heap.size w wx))
            case first =>
              rcases HS.out with ⟨q1, rfl, rfl, rfl, rfl, rfl⟩ | ⟨⟨q1, q2⟩, rfl, rfl, rfl, rfl, rfl⟩ | ⟨⟨q1, q2⟩, okP, hP, rfl, rfl⟩
              · go_wp2_with fail
                go_meet
                exact ⟨Lib.hid A, Lib.hid B, Lib.hid HX, HB⟩
              · go_wp2_with fail
                go_meet
                exact ⟨Lib.hid A, Lib.hid B, Lib.hid HX, HB⟩
              · have RP := Lib.hid (RD.out (k + n) X Y Z okP hP)
                have e0 : wrap64 (k + n) = k + n := w64_is rfl (by omega) (by omega)
                have s1 : -10000000 ≤ n := by omega
                have s2 : n ≤ 10000000 := by omega
                clear okP hP
                go_upto_region 17 with fail
                clear A0 A1 A2 B0 B1 B2 D0 D1 D2
                obtain ⟨D0, D1, D2⟩ := D.bel
                refine wp_region_bel (by kernel_rfl) (by kernel_rfl) ?_
                repeat (go_big_quiet_step (first | (go_at_call 26; with_reducible refine bel_of (RP.out _))))
                refine wpQuiet_nil ?_
                intro _ hw'
                obtain ⟨pq, hw''⟩ := hw'
                subst hw''

                replace A := A.keep pq.h
                replace B := B.keep pq.h
                replace HX := HX.below pq.h
                replace HB := Lib.hid (bstep HB.out pq.h)
                clear D D0 D1 D2
                go_wp2_with fail
                go_meet
                exact ⟨Lib.hid A, Lib.hid B, Lib.hid HX, HB⟩
            case rest =>
              clear A0 A1 A2 B0 B1 B2 D0 D1 D2
              obtain ⟨hA, hB, hX, hW⟩ := hcut
              clear A B D HX HB HS RD CX CC RV
              have A := hA.out
              have B := hB.out
              have HX := hX.out
              have HB := hW
              clear hA hB hX hW
              obtain ⟨A0, A1, A2, -, -, -, -⟩ := id A
              obtain ⟨B0, B1, B2, -, -, -, -⟩ := id B
              go_wp2_with fail
              refine ((RB).out _).mono ?_
              rintro e w7 ⟨rfl, hb⟩
              clear A0 A1 A2 B0 B1 B2
              replace A := A.keep hb
              replace B := B.keep hb
              replace HX := HX.below hb
              replace HB := Lib.hid (bstep HB.out hb)
              clear hb
              obtain ⟨A0, A1, A2, -, -, -, -⟩ := id A
              obtain ⟨B0, B1, B2, -, -, -, -⟩ := id B
              go_wp2_with fail
              go_ret
              exact ⟨by first | rfl | exact ret_bool (by simp), HB.out⟩
  · have CX := Lib.hid (fun wx (hx : HasLen wx) => add_no y m d n wx hx ok)
    have RV := Lib.hid (fun wx => told1 false ok (rvalid_any y m d wx))
    have CC := Lib.hid (fun wx (hx : HasLen wx) => cmp_no1 y m d a b c wx hx ok)
    clear ok
    obtain ⟨A0, A1, A2, -, -, -, -⟩ := id A
    obtain ⟨B0, B1, B2, -, -, -, -⟩ := id B
    go_enter Tryd.func5, Tryd.ntmps5
    go_wp2_with fail
    refine ((CA).out _ HX).mono ?_
    rintro e w1 ⟨rfl, hb⟩
    clear A0 A1 A2 B0 B1 B2
    replace A := A.keep hb
    replace B := B.keep hb
    replace HX := HX.below hb
    replace HB := Lib.hid (bstep HB.out hb)
    clear hb
    obtain ⟨A0, A1, A2, -, -, -, -⟩ := id A
    obtain ⟨B0, B1, B2, -, -, -, -⟩ := id B
    go_wp2_with fail
    refine ((CD).out _ HX).mono ?_
    rintro e w2 ⟨rfl, hb⟩
    clear A0 A1 A2 B0 B1 B2
    replace A := A.keep hb
    replace B := B.keep hb
    replace HX := HX.below hb
    replace HB := Lib.hid (bstep HB.out hb)
    clear hb
    obtain ⟨A0, A1, A2, -, -, -, -⟩ := id A
    obtain ⟨B0, B1, B2, -, -, -, -⟩ := id B
    clear A0 A1 A2 B0 B1 B2
    replace A := A.alloc (.cells #[.int .i64 P, .int .i64 Q, .int .i64 R] 23)
    replace B := B.alloc (.cells #[.int .i64 P, .int .i64 Q, .int .i64 R] 23)
    replace HX := HX.below (below1 w2 (.cells #[.int .i64 P, .int .i64 Q, .int .i64 R] 23))
    have D := At3.new w2 (.int .i64 P) (.int .i64 Q) (.int .i64 R) 23
    replace HB := Lib.hid (bstep HB.out (below1 w2 (.cells #[.int .i64 P, .int .i64 Q, .int .i64 R] 23)))
    obtain ⟨A0, A1, A2, -, -, -, -⟩ := id A
    obtain ⟨B0, B1, B2, -, -, -, -⟩ := id B
    obtain ⟨D0, D1, D2, -, -, -, -⟩ := id D
    go_upto_region 4 with fail
    obtain ⟨gd, hgd⟩ : ∃ g, w2.heap.size = g := ⟨_, rfl⟩
    rw [hgd] at D D0 D1 D2
    rw [hgd]
    clear hgd
    go_cut [30] from 23 to 30 (fun v30 wx => v30 = .bool o ∧ Hid (At3 wx w.heap.size (.int .i64 y) (.int .i64 m) (.int .i64 d)) ∧ Hid (At3 wx (w.heap.size + 1) (.int .i64 a) (.int .i64 b) (.int .i64 c)) ∧ Hid (At3 wx gd (.int .i64 P) (.int .i64 Q) (.int .i64 R)) ∧ Hid (HasLen wx) ∧ Hid (Below w.heap.size w wx))
    case first =>
      rcases HN.out with ⟨q1, rfl, rfl, rfl, rfl, rfl⟩ | ⟨⟨q1, q2⟩, rfl, rfl, rfl, rfl, rfl⟩ | ⟨⟨q1, q2⟩, okP, hP, rfl, rfl⟩
      · go_wp2_with fail
        refine ((FI).out _).mono ?_
        rintro e w3 ⟨rfl, hb⟩
        clear A0 A1 A2 B0 B1 B2 D0 D1 D2
        replace A := A.keep hb
        replace B := B.keep hb
        replace D := D.keep hb
        replace HX := HX.below hb
        replace HB := Lib.hid (bstep HB.out hb)
        clear hb
        obtain ⟨A0, A1, A2, -, -, -, -⟩ := id A
        obtain ⟨B0, B1, B2, -, -, -, -⟩ := id B
        obtain ⟨D0, D1, D2, -, -, -, -⟩ := id D
        go_wp2_with fail
        go_meet
        exact ⟨by first | rfl | (simp; done) | (simp; omega), Lib.hid A, Lib.hid B, Lib.hid D, Lib.hid HX, HB⟩
      · go_wp2_with fail
        refine ((FI).out _).mono ?_
        rintro e w3 ⟨rfl, hb⟩
        clear A0 A1 A2 B0 B1 B2 D0 D1 D2
        replace A := A.keep hb
        replace B := B.keep hb
        replace D := D.keep hb
        replace HX := HX.below hb
        replace HB := Lib.hid (bstep HB.out hb)
        clear hb
        obtain ⟨A0, A1, A2, -, -, -, -⟩ := id A
        obtain ⟨B0, B1, B2, -, -, -, -⟩ := id B
        obtain ⟨D0, D1, D2, -, -, -, -⟩ := id D
        go_wp2_with fail
        refine ((LA).out _).mono ?_
        rintro e w4 ⟨rfl, hb⟩
        clear A0 A1 A2 B0 B1 B2 D0 D1 D2
        replace A := A.keep hb
        replace B := B.keep hb
        replace D := D.keep hb
        replace HX := HX.below hb
        replace HB := Lib.hid (bstep HB.out hb)
        clear hb
        obtain ⟨A0, A1, A2, -, -, -, -⟩ := id A
        obtain ⟨B0, B1, B2, -, -, -, -⟩ := id B
        obtain ⟨D0, D1, D2, -, -, -, -⟩ := id D
        go_wp2_with fail
        go_meet
        exact ⟨by first | rfl | (simp; done) | (simp; omega), Lib.hid A, Lib.hid B, Lib.hid D, Lib.hid HX, HB⟩
      · go_wp2_with fail
        refine ((FI).out _).mono ?_
        rintro e w3 ⟨rfl, hb⟩
        clear A0 A1 A2 B0 B1 B2 D0 D1 D2
        replace A := A.keep hb
        replace B := B.keep hb
        replace D := D.keep hb
        replace HX := HX.below hb
        replace HB := Lib.hid (bstep HB.out hb)
        clear hb
        obtain ⟨A0, A1, A2, -, -, -, -⟩ := id A
        obtain ⟨B0, B1, B2, -, -, -, -⟩ := id B
        obtain ⟨D0, D1, D2, -, -, -, -⟩ := id D
        go_wp2_with fail
        refine ((LA).out _).mono ?_
        rintro e w4 ⟨rfl, hb⟩
        clear A0 A1 A2 B0 B1 B2 D0 D1 D2
        replace A := A.keep hb
        replace B := B.keep hb
        replace D := D.keep hb
        replace HX := HX.below hb
        replace HB := Lib.hid (bstep HB.out hb)
        clear hb
        obtain ⟨A0, A1, A2, -, -, -, -⟩ := id A
        obtain ⟨B0, B1, B2, -, -, -, -⟩ := id B
        obtain ⟨D0, D1, D2, -, -, -, -⟩ := id D
        go_wp2_with fail
        go_meet
        exact ⟨by first | rfl | (simp; done) | (simp; omega), Lib.hid A, Lib.hid B, Lib.hid D, Lib.hid HX, HB⟩
    case rest =>
      clear A0 A1 A2 B0 B1 B2 D0 D1 D2
      obtain ⟨rfl, hA, hB, hD, hX, hW⟩ := hcut
      clear A B D HX HB
      have A := hA.out
      have B := hB.out
      have D := hD.out
      have HX := hX.out
      have HB := hW
      clear hA hB hD hX hW
      obtain ⟨A0, A1, A2, -, -, -, -⟩ := id A
      obtain ⟨B0, B1, B2, -, -, -, -⟩ := id B
      obtain ⟨D0, D1, D2, -, -, -, -⟩ := id D
      go_upto_if 30 with fail
      go_cut [8] from 31 to 45 (fun v8 wx => Hid (At3 wx w.heap.size (.int .i64 y) (.int .i64 m) (.int .i64 d)) ∧ Hid (At3 wx (w.heap.size + 1) (.int .i64 a) (.int .i64 b) (.int .i64 c)) ∧ Hid (HasLen wx) ∧ Hid (Below w.heap.size w wx))
      case first =>
        rcases HN.out with ⟨q1, rfl, rfl, rfl, rfl, rfl⟩ | ⟨⟨q1, q2⟩, rfl, rfl, rfl, rfl, rfl⟩ | ⟨⟨q1, q2⟩, okP, hP, rfl, rfl⟩
        · go_wp2_with fail
          go_meet
          exact ⟨Lib.hid A, Lib.hid B, Lib.hid HX, HB⟩
        · go_wp2_with fail
          go_meet
          exact ⟨Lib.hid A, Lib.hid B, Lib.hid HX, HB⟩
        · have RP := Lib.hid (RD.out n P Q R okP hP)
          clear okP hP
          go_upto_region 7 with fail
          clear A0 A1 A2 B0 B1 B2 D0 D1 D2
          obtain ⟨D0, D1, D2⟩ := D.bel
          refine wp_region_bel (by kernel_rfl) (by kernel_rfl) ?_
          repeat (go_big_quiet_step (first | (go_at_call 26; with_reducible refine bel_of (RP.out _))))
          refine wpQuiet_nil ?_
          intro _ hw'
          obtain ⟨pq, hw''⟩ := hw'
          subst hw''

          replace A := A.keep pq.h
          replace B := B.keep pq.h
          replace HX := HX.below pq.h
          replace HB := Lib.hid (bstep HB.out pq.h)
          clear D D0 D1 D2
          go_wp2_with fail
          go_meet
          exact ⟨Lib.hid A, Lib.hid B, Lib.hid HX, HB⟩
      case rest =>
        clear A0 A1 A2 B0 B1 B2 D0 D1 D2
        obtain ⟨hA, hB, hX, hW⟩ := hcut
        clear A B D HX HB HN RD CD CA
        have A := hA.out
        have B := hB.out
        have HX := hX.out
        have HB := hW
        clear hA hB hX hW
        obtain ⟨A0, A1, A2, -, -, -, -⟩ := id A
        obtain ⟨B0, B1, B2, -, -, -, -⟩ := id B
        go_wp2_with fail
        refine ((CX).out _ HX).mono ?_
        rintro e w3 ⟨rfl, hb⟩
        clear A0 A1 A2 B0 B1 B2
        replace A := A.keep hb
        replace B := B.keep hb
        replace HX := HX.below hb
        replace HB := Lib.hid (bstep HB.out hb)
        clear hb
        obtain ⟨A0, A1, A2, -, -, -, -⟩ := id A
        obtain ⟨B0, B1, B2, -, -, -, -⟩ := id B
        clear A0 A1 A2 B0 B1 B2
        replace A := A.alloc (.cells #[.int .i64 0, .int .i64 0, .int .i64 0] 23)
        replace B := B.alloc (.cells #[.int .i64 0, .int .i64 0, .int .i64 0] 23)
        replace HX := HX.below (below1 w3 (.cells #[.int .i64 0, .int .i64 0, .int .i64 0] 23))
        have D := At3.new w3 (.int .i64 0) (.int .i64 0) (.int .i64 0) 23
        replace HB := Lib.hid (bstep HB.out (below1 w3 (.cells #[.int .i64 0, .int .i64 0, .int .i64 0] 23)))
        obtain ⟨A0, A1, A2, -, -, -, -⟩ := id A
        obtain ⟨B0, B1, B2, -, -, -, -⟩ := id B
        obtain ⟨D0, D1, D2, -, -, -, -⟩ := id D
        go_wp2_with fail
        refine ((CC).out _ HX).mono ?_
        rintro e w4 ⟨rfl, hb⟩
        clear A0 A1 A2 B0 B1 B2 D0 D1 D2
        replace A := A.keep hb
        replace B := B.keep hb
        replace D := D.keep hb
        replace HX := HX.below hb
        replace HB := Lib.hid (bstep HB.out hb)
        clear hb
        obtain ⟨A0, A1, A2, -, -, -, -⟩ := id A
        obtain ⟨B0, B1, B2, -, -, -, -⟩ := id B
        obtain ⟨D0, D1, D2, -, -, -, -⟩ := id D
        go_wp2_with fail
        refine ((RV).out _).mono ?_
        rintro e w5 ⟨rfl, hb⟩
        clear A0 A1 A2 B0 B1 B2 D0 D1 D2
        replace A := A.keep hb
        replace B := B.keep hb
        replace D := D.keep hb
        replace HX := HX.below hb
        replace HB := Lib.hid (bstep HB.out hb)
        clear hb
        obtain ⟨A0, A1, A2, -, -, -, -⟩ := id A
        obtain ⟨B0, B1, B2, -, -, -, -⟩ := id B
        obtain ⟨D0, D1, D2, -, -, -, -⟩ := id D
        go_wp2_with fail
        go_ret
        exact ⟨by first | rfl | exact ret_bool (by simp), HB.out⟩
end Go.Proofs.YtfknmceffkagaaaDoor
