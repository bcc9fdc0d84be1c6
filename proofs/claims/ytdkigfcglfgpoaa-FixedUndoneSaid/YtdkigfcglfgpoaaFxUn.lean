/- FixedUndone: the walk of the law. -/
import Derived.Test.YtdkigfcglfgpoaaFxL
import Derived.Deep.Cut
import Derived.Deep.CutRange
namespace Go.Proofs.Ytdkigfcglfgpoaa
open Go.RowKit
set_option linter.unusedVariables false

set_option maxHeartbeats 8000000 in
theorem undone_bad (P : FxProg) (a b c d : Int) (w : World) (ha : fok a b = false) :
    Calls Try.prog 9 #[.agg #[.int .i64 a, .int .i64 b], .agg #[.int .i64 c, .int .i64 d]] w fun e w' => e = .returned (.bool true) ∧ Below w.heap.size w w' := by
  have CA := Lib.hid (fun wx => awake_any P wx)
  have V1 := Lib.hid (fun wx => rValid_is a b false ha wx)
  clear ha
  have A := At2.new w (.int .i64 a) (.int .i64 b) 23
  have A := A.alloc (.cells #[.int .i64 c, .int .i64 d] 23)
  have B := At2.new (w.alloc (.cells #[.int .i64 a, .int .i64 b] 23)) (.int .i64 c) (.int .i64 d) 23
  simp at B
  have HB := Lib.hid (bstep (bstep (Below.refl w.heap.size w) (below1 w (.cells #[.int .i64 a, .int .i64 b] 23))) (below1 (w.alloc (.cells #[.int .i64 a, .int .i64 b] 23)) (.cells #[.int .i64 c, .int .i64 d] 23)))
  go_enter Try.func9, Try.ntmps9
  obtain ⟨A0, A1, -, -, -⟩ := id A
  obtain ⟨B0, B1, -, -, -⟩ := id B
  go_wp2_with fail
  refine (CA.out _).mono ?_
  rintro e w1 ⟨rfl, hb⟩
  have A := (A.keep hb)
  have B := (B.keep hb)
  have HB := Lib.hid (bstep HB.out hb)
  clear hb
  clear A0 A1 B0 B1
  obtain ⟨A0, A1, -, -, -⟩ := id A
  obtain ⟨B0, B1, -, -, -⟩ := id B
  go_wp2_with fail
  refine (V1.out _).mono ?_
  rintro e w2 ⟨rfl, hb⟩
  have A := (A.keep hb)
  have B := (B.keep hb)
  have HB := Lib.hid (bstep HB.out hb)
  clear hb
  clear A0 A1 B0 B1
  obtain ⟨A0, A1, -, -, -⟩ := id A
  obtain ⟨B0, B1, -, -, -⟩ := id B
  go_wp2_with fail
  go_ret
  exact ⟨rfl, HB.out⟩

set_option maxHeartbeats 8000000 in
theorem undone_mid (P : FxProg) (a b c d : Int) (w : World) (ha : fok a b = true) (hc : fok c d = false) :
    Calls Try.prog 9 #[.agg #[.int .i64 a, .int .i64 b], .agg #[.int .i64 c, .int .i64 d]] w fun e w' => e = .returned (.bool true) ∧ Below w.heap.size w w' := by
  have CA := Lib.hid (fun wx => awake_any P wx)
  have V1 := Lib.hid (fun wx => rValid_is a b true ha wx)
  have V2 := Lib.hid (fun wx => rValid_is c d false hc wx)
  clear ha hc
  have A := At2.new w (.int .i64 a) (.int .i64 b) 23
  have A := A.alloc (.cells #[.int .i64 c, .int .i64 d] 23)
  have B := At2.new (w.alloc (.cells #[.int .i64 a, .int .i64 b] 23)) (.int .i64 c) (.int .i64 d) 23
  simp at B
  have HB := Lib.hid (bstep (bstep (Below.refl w.heap.size w) (below1 w (.cells #[.int .i64 a, .int .i64 b] 23))) (below1 (w.alloc (.cells #[.int .i64 a, .int .i64 b] 23)) (.cells #[.int .i64 c, .int .i64 d] 23)))
  go_enter Try.func9, Try.ntmps9
  obtain ⟨A0, A1, -, -, -⟩ := id A
  obtain ⟨B0, B1, -, -, -⟩ := id B
  go_wp2_with fail
  refine (CA.out _).mono ?_
  rintro e w1 ⟨rfl, hb⟩
  have A := (A.keep hb)
  have B := (B.keep hb)
  have HB := Lib.hid (bstep HB.out hb)
  clear hb
  clear A0 A1 B0 B1
  obtain ⟨A0, A1, -, -, -⟩ := id A
  obtain ⟨B0, B1, -, -, -⟩ := id B
  go_wp2_with fail
  refine (V1.out _).mono ?_
  rintro e w2 ⟨rfl, hb⟩
  have A := (A.keep hb)
  have B := (B.keep hb)
  have HB := Lib.hid (bstep HB.out hb)
  clear hb
  clear A0 A1 B0 B1
  obtain ⟨A0, A1, -, -, -⟩ := id A
  obtain ⟨B0, B1, -, -, -⟩ := id B
  go_wp2_with fail
  refine (V2.out _).mono ?_
  rintro e w3 ⟨rfl, hb⟩
  have A := (A.keep hb)
  have B := (B.keep hb)
  have HB := Lib.hid (bstep HB.out hb)
  clear hb
  clear A0 A1 B0 B1
  obtain ⟨A0, A1, -, -, -⟩ := id A
  obtain ⟨B0, B1, -, -, -⟩ := id B
  go_wp2_with fail
  go_ret
  exact ⟨rfl, HB.out⟩

set_option maxHeartbeats 8000000 in
theorem undone_good (P : FxProg) (a b c d : Int) (w : World) (ha : fok a b = true) (hc : fok c d = true) :
    Calls Try.prog 9 #[.agg #[.int .i64 a, .int .i64 b], .agg #[.int .i64 c, .int .i64 d]] w fun e w' => e = .returned (.bool true) ∧ Below w.heap.size w w' := by
  have CA := Lib.hid (fun wx => awake_any P wx)
  have V1 := Lib.hid (fun wx => rValid_is a b true ha wx)
  have V2 := Lib.hid (fun wx => rValid_is c d true hc wx)
  have hab := ((fok_iff _ _).1 ha).2.2
  have hcd := ((fok_iff _ _).1 hc).2.2
  have FZs := add_back (a := a) (b := b) (c := c) (d := d) hab hcd
  have es := fit_e (a + c) (b + d)
  obtain ⟨S, hS⟩ : ∃ S, addR a b c d = S := ⟨_, rfl⟩
  rw [hS] at FZs
  rw [show fit (a + c) (b + d) = S from hS] at es
  have C1 := Lib.hid (fun wx => told S.l S.h S.e ((vF_yes _ (by rw [ha, hc]; rfl)).trans hS) (P.add a b c d wx))
  have C2 := Lib.hid (fun wx => told S.l S.h S.e ((vF_yes _ (by rw [ha, hc]; rfl)).trans ((addR_comm c d a b).trans hS)) (P.add c d a b wx))
  have FM := mul_back (a := a) (b := b) (c := c) (d := d) hab hcd
  have em : (mulR a b c d).e = 0 ∨ (mulR a b c d).e = 5 := fit_e _ _
  obtain ⟨M, hM⟩ : ∃ M, mulR a b c d = M := ⟨_, rfl⟩
  rw [hM] at FM em
  have C3 := Lib.hid (fun wx => told M.l M.h M.e ((vF_yes _ (by rw [ha, hc]; rfl)).trans hM) (P.mul a b c d wx))
  have C4 := Lib.hid (fun wx => told M.l M.h M.e ((vF_yes _ (by rw [ha, hc]; rfl)).trans ((mulR_comm c d a b).trans hM)) (P.mul c d a b wx))
  have FX := square_facts hab
  obtain ⟨X, hX⟩ : ∃ X, squareR a b = X := ⟨_, rfl⟩
  obtain ⟨Y, hY⟩ : ∃ Y, mulR a b a b = Y := ⟨_, rfl⟩
  have ey : (mulR a b a b).e = 0 ∨ (mulR a b a b).e = 5 := fit_e _ _
  rw [hX, hY] at FX
  rw [hY] at ey
  have C7 := Lib.hid (fun wx => told X.l X.h X.e ((vF_yes _ ha).trans hX) (P.square a b wx))
  have C8 := Lib.hid (fun wx => told Y.l Y.h Y.e ((vF_yes _ (by rw [ha]; rfl)).trans hY) (P.mul a b a b wx))
  -- the ways
  have WS : Hid ((S.e ≠ 0) ∨ (S.e = 0 ∧ ∃ l h, (∀ wx, Calls Try.prog 24 #[.agg #[.int .i64 S.l, .int .i64 S.h], .agg #[.int .i64 c, .int .i64 d]] wx fun e w' => e = .returned (.tuple #[.agg #[.int .i64 l, .int .i64 h], .int .i64 0]) ∧ Below wx.heap.size wx w') ∧ insideR a b l h = true) ∨ (S.e = 0 ∧ ∃ l h, ∀ wx, Calls Try.prog 24 #[.agg #[.int .i64 S.l, .int .i64 S.h], .agg #[.int .i64 c, .int .i64 d]] wx fun e w' => e = .returned (.tuple #[.agg #[.int .i64 l, .int .i64 h], .int .i64 5]) ∧ Below wx.heap.size wx w')) := by
    by_cases e0 : S.e = 0
    · obtain ⟨f1 | f1, f2⟩ := FZs e0
      · exact .inr (.inl ⟨e0, _, _, fun wx => told (subR S.l S.h c d).l (subR S.l S.h c d).h 0 ((vF_yes _ (by rw [f2, hc]; rfl)).trans (by rw [← f1.1])) (P.sub S.l S.h c d wx), f1.2⟩)
      · exact .inr (.inr ⟨e0, _, _, fun wx => told (subR S.l S.h c d).l (subR S.l S.h c d).h 5 ((vF_yes _ (by rw [f2, hc]; rfl)).trans (by rw [← f1])) (P.sub S.l S.h c d wx)⟩)
    · exact .inl e0
  have WM : Hid ((M.e ≠ 0) ∨ (M.e = 0 ∧ ∃ l h, (∀ wx, Calls Try.prog 31 #[.agg #[.int .i64 M.l, .int .i64 M.h], .agg #[.int .i64 c, .int .i64 d]] wx fun e w' => e = .returned (.tuple #[.agg #[.int .i64 l, .int .i64 h], .int .i64 0]) ∧ Below wx.heap.size wx w') ∧ insideR a b l h = true) ∨ (M.e = 0 ∧ ∃ l h, ∀ wx, Calls Try.prog 31 #[.agg #[.int .i64 M.l, .int .i64 M.h], .agg #[.int .i64 c, .int .i64 d]] wx fun e w' => e = .returned (.tuple #[.agg #[.int .i64 l, .int .i64 h], .int .i64 5]) ∧ Below wx.heap.size wx w') ∨ (M.e = 0 ∧ ∃ l h, ∀ wx, Calls Try.prog 31 #[.agg #[.int .i64 M.l, .int .i64 M.h], .agg #[.int .i64 c, .int .i64 d]] wx fun e w' => e = .returned (.tuple #[.agg #[.int .i64 l, .int .i64 h], .int .i64 16]) ∧ Below wx.heap.size wx w')) := by
    by_cases e0 : M.e = 0
    · obtain ⟨(f1 | f1) | f1, f2⟩ := FM e0
      · exact .inr (.inl ⟨e0, _, _, fun wx => told (divR M.l M.h c d).l (divR M.l M.h c d).h 0 ((vF_yes _ (by rw [f2, hc]; rfl)).trans (by rw [← f1.1])) (P.div M.l M.h c d wx), f1.2⟩)
      · exact .inr (.inr (.inl ⟨e0, _, _, fun wx => told (divR M.l M.h c d).l (divR M.l M.h c d).h 5 ((vF_yes _ (by rw [f2, hc]; rfl)).trans (by rw [← f1])) (P.div M.l M.h c d wx)⟩))
      · exact .inr (.inr (.inr ⟨e0, _, _, fun wx => told (divR M.l M.h c d).l (divR M.l M.h c d).h 16 ((vF_yes _ (by rw [f2, hc]; rfl)).trans (by rw [← f1])) (P.div M.l M.h c d wx)⟩))
    · exact .inl e0
  have WX : Hid ((X.e = 0 ∧ Y.e = 0 ∧ 0 ≤ X.l ∧ insideR X.l X.h Y.l Y.h = true) ∨ (X.e = 0 ∧ Y.e = 5 ∧ 0 ≤ X.l) ∨ (X.e = 5 ∧ Y.e = 5)) := by
    rcases FX with ⟨f1, f2, f3, f4⟩ | ⟨f1, f2⟩
    · rcases ey with e | e
      · exact .inl ⟨f1, e, f2, f4 e⟩
      · exact .inr (.inl ⟨f1, e, f2⟩)
    · exact .inr (.inr ⟨f1, f2⟩)
  clear FZs FM FX es em ey hS hM hX hY hab hcd ha hc
  have A := At2.new w (.int .i64 a) (.int .i64 b) 23
  have A := A.alloc (.cells #[.int .i64 c, .int .i64 d] 23)
  have B := At2.new (w.alloc (.cells #[.int .i64 a, .int .i64 b] 23)) (.int .i64 c) (.int .i64 d) 23
  simp at B
  have HB := Lib.hid (bstep (bstep (Below.refl w.heap.size w) (below1 w (.cells #[.int .i64 a, .int .i64 b] 23))) (below1 (w.alloc (.cells #[.int .i64 a, .int .i64 b] 23)) (.cells #[.int .i64 c, .int .i64 d] 23)))
  go_enter Try.func9, Try.ntmps9
  obtain ⟨A0, A1, -, -, -⟩ := id A
  obtain ⟨B0, B1, -, -, -⟩ := id B
  go_wp2_with fail
  refine (CA.out _).mono ?_
  rintro e w1 ⟨rfl, hb⟩
  have A := (A.keep hb)
  have B := (B.keep hb)
  have HB := Lib.hid (bstep HB.out hb)
  clear hb
  clear A0 A1 B0 B1
  obtain ⟨A0, A1, -, -, -⟩ := id A
  obtain ⟨B0, B1, -, -, -⟩ := id B
  go_wp2_with fail
  refine (V1.out _).mono ?_
  rintro e w2 ⟨rfl, hb⟩
  have A := (A.keep hb)
  have B := (B.keep hb)
  have HB := Lib.hid (bstep HB.out hb)
  clear hb
  clear A0 A1 B0 B1
  obtain ⟨A0, A1, -, -, -⟩ := id A
  obtain ⟨B0, B1, -, -, -⟩ := id B
  go_wp2_with fail
  refine (V2.out _).mono ?_
  rintro e w3 ⟨rfl, hb⟩
  have A := (A.keep hb)
  have B := (B.keep hb)
  have HB := Lib.hid (bstep HB.out hb)
  clear hb
  clear A0 A1 B0 B1
  obtain ⟨A0, A1, -, -, -⟩ := id A
  obtain ⟨B0, B1, -, -, -⟩ := id B
  go_wp2_with fail
  refine (C1.out _).mono ?_
  rintro e w4 ⟨rfl, hb⟩
  have A := (A.keep hb).alloc (.cells #[.int .i64 S.l, .int .i64 S.h] 23)
  have B := (B.keep hb).alloc (.cells #[.int .i64 S.l, .int .i64 S.h] 23)
  have S1 := At2.new w4 (.int .i64 S.l) (.int .i64 S.h) 23
  have HB := Lib.hid (bstep (bstep HB.out hb) (below1 w4 (.cells #[.int .i64 S.l, .int .i64 S.h] 23)))
  clear hb
  clear A0 A1 B0 B1
  obtain ⟨A0, A1, -, -, -⟩ := id A
  obtain ⟨B0, B1, -, -, -⟩ := id B
  obtain ⟨S10, S11, -, -, -⟩ := id S1
  go_wp2_with fail
  refine (C2.out _).mono ?_
  rintro e w5 ⟨rfl, hb⟩
  have A := (A.keep hb).alloc (.cells #[.int .i64 S.l, .int .i64 S.h] 23)
  have B := (B.keep hb).alloc (.cells #[.int .i64 S.l, .int .i64 S.h] 23)
  have S1 := (S1.keep hb).alloc (.cells #[.int .i64 S.l, .int .i64 S.h] 23)
  have S2 := At2.new w5 (.int .i64 S.l) (.int .i64 S.h) 23
  have HB := Lib.hid (bstep (bstep HB.out hb) (below1 w5 (.cells #[.int .i64 S.l, .int .i64 S.h] 23)))
  clear hb
  clear A0 A1 B0 B1 S10 S11
  obtain ⟨A0, A1, -, -, -⟩ := id A
  obtain ⟨B0, B1, -, -, -⟩ := id B
  obtain ⟨S10, S11, -, -, -⟩ := id S1
  obtain ⟨S20, S21, -, -, -⟩ := id S2
  go_upto_if 50 with fail
  go_cut [9, 10] from 50 to 72 (fun v9 v10 wx => Hid (At2 wx (w.heap.size) (.int .i64 a) (.int .i64 b)) ∧ Hid (At2 wx (w.heap.size + 1) (.int .i64 c) (.int .i64 d)) ∧ Hid (Below w.heap.size w wx))
  case first =>
    rcases WS.out with e0 | ⟨e0, l, h, hsub, hin⟩ | ⟨e0, l, h, hsub⟩
    · have e1 : (S.e == 0) = false := beq_eq_false_iff_ne.2 e0
      clear e0
      go_wp2_with fail
      go_meet
      exact ⟨Lib.hid A, Lib.hid B, HB⟩
    · have e1 : (S.e == 0) = true := beq_iff_eq.2 e0
      clear e0
      go_wp2_with fail
      refine (hsub _).mono ?_
      rintro e w6 ⟨rfl, hb⟩
      have A := (A.keep hb).alloc (.cells #[.int .i64 l, .int .i64 h] 23)
      have B := (B.keep hb).alloc (.cells #[.int .i64 l, .int .i64 h] 23)
      have S1 := (S1.keep hb).alloc (.cells #[.int .i64 l, .int .i64 h] 23)
      have S2 := (S2.keep hb).alloc (.cells #[.int .i64 l, .int .i64 h] 23)
      have D := At2.new w6 (.int .i64 l) (.int .i64 h) 23
      have HB := Lib.hid (bstep (bstep HB.out hb) (below1 w6 (.cells #[.int .i64 l, .int .i64 h] 23)))
      clear hb
      clear A0 A1 B0 B1 S10 S11 S20 S21
      obtain ⟨A0, A1, -, -, -⟩ := id A
      obtain ⟨B0, B1, -, -, -⟩ := id B
      obtain ⟨S10, S11, -, -, -⟩ := id S1
      obtain ⟨S20, S21, -, -, -⟩ := id S2
      obtain ⟨D0, D1, -, -, -⟩ := id D
      go_wp2_with fail
      refine (told1 true hin (P.inside a b l h _)).mono ?_
      rintro e w7 ⟨rfl, hb⟩
      have A := (A.keep hb)
      have B := (B.keep hb)
      have S1 := (S1.keep hb)
      have S2 := (S2.keep hb)
      have D := (D.keep hb)
      have HB := Lib.hid (bstep HB.out hb)
      clear hb
      clear A0 A1 B0 B1 S10 S11 S20 S21 D0 D1
      obtain ⟨A0, A1, -, -, -⟩ := id A
      obtain ⟨B0, B1, -, -, -⟩ := id B
      obtain ⟨S10, S11, -, -, -⟩ := id S1
      obtain ⟨S20, S21, -, -, -⟩ := id S2
      obtain ⟨D0, D1, -, -, -⟩ := id D
      go_wp2_with fail
      go_meet
      exact ⟨Lib.hid A, Lib.hid B, HB⟩
    · have e1 : (S.e == 0) = true := beq_iff_eq.2 e0
      clear e0
      go_wp2_with fail
      refine (hsub _).mono ?_
      rintro e w6 ⟨rfl, hb⟩
      have A := (A.keep hb).alloc (.cells #[.int .i64 l, .int .i64 h] 23)
      have B := (B.keep hb).alloc (.cells #[.int .i64 l, .int .i64 h] 23)
      have S1 := (S1.keep hb).alloc (.cells #[.int .i64 l, .int .i64 h] 23)
      have S2 := (S2.keep hb).alloc (.cells #[.int .i64 l, .int .i64 h] 23)
      have D := At2.new w6 (.int .i64 l) (.int .i64 h) 23
      have HB := Lib.hid (bstep (bstep HB.out hb) (below1 w6 (.cells #[.int .i64 l, .int .i64 h] 23)))
      clear hb
      clear A0 A1 B0 B1 S10 S11 S20 S21
      obtain ⟨A0, A1, -, -, -⟩ := id A
      obtain ⟨B0, B1, -, -, -⟩ := id B
      obtain ⟨S10, S11, -, -, -⟩ := id S1
      obtain ⟨S20, S21, -, -, -⟩ := id S2
      obtain ⟨D0, D1, -, -, -⟩ := id D
      go_wp2_with fail
      go_meet
      exact ⟨Lib.hid A, Lib.hid B, HB⟩
  case rest =>
    obtain ⟨Ah, Bh, HB'⟩ := hcut
    clear A0 A1 B0 B1 S10 S11 S20 S21 A B S1 S2 HB
    have A := Ah.out
    have B := Bh.out
    have HB := HB'
    clear HB' Ah Bh
    obtain ⟨A0, A1, -, -, -⟩ := id A
    obtain ⟨B0, B1, -, -, -⟩ := id B
    go_wp2_with fail
    refine (C3.out _).mono ?_
    rintro e w6 ⟨rfl, hb⟩
    have A := (A.keep hb).alloc (.cells #[.int .i64 M.l, .int .i64 M.h] 23)
    have B := (B.keep hb).alloc (.cells #[.int .i64 M.l, .int .i64 M.h] 23)
    have M1 := At2.new w6 (.int .i64 M.l) (.int .i64 M.h) 23
    have HB := Lib.hid (bstep (bstep HB.out hb) (below1 w6 (.cells #[.int .i64 M.l, .int .i64 M.h] 23)))
    clear hb
    clear A0 A1 B0 B1
    obtain ⟨A0, A1, -, -, -⟩ := id A
    obtain ⟨B0, B1, -, -, -⟩ := id B
    obtain ⟨M10, M11, -, -, -⟩ := id M1
    go_wp2_with fail
    refine (C4.out _).mono ?_
    rintro e w7 ⟨rfl, hb⟩
    have A := (A.keep hb).alloc (.cells #[.int .i64 M.l, .int .i64 M.h] 23)
    have B := (B.keep hb).alloc (.cells #[.int .i64 M.l, .int .i64 M.h] 23)
    have M1 := (M1.keep hb).alloc (.cells #[.int .i64 M.l, .int .i64 M.h] 23)
    have M2 := At2.new w7 (.int .i64 M.l) (.int .i64 M.h) 23
    have HB := Lib.hid (bstep (bstep HB.out hb) (below1 w7 (.cells #[.int .i64 M.l, .int .i64 M.h] 23)))
    clear hb
    clear A0 A1 B0 B1 M10 M11
    obtain ⟨A0, A1, -, -, -⟩ := id A
    obtain ⟨B0, B1, -, -, -⟩ := id B
    obtain ⟨M10, M11, -, -, -⟩ := id M1
    obtain ⟨M20, M21, -, -, -⟩ := id M2
    go_upto_if 94 with fail
    go_cut [13, 14] from 94 to 120 (fun v13 v14 wx => Hid (At2 wx (w.heap.size) (.int .i64 a) (.int .i64 b)) ∧ Hid (At2 wx (w.heap.size + 1) (.int .i64 c) (.int .i64 d)) ∧ Hid (Below w.heap.size w wx))
    case first =>
      rcases WM.out with e0 | ⟨e0, l, h, hsub, hin⟩ | ⟨e0, l, h, hsub⟩ | ⟨e0, l, h, hsub⟩
      · have e1 : (M.e == 0) = false := beq_eq_false_iff_ne.2 e0
        clear e0
        go_wp2_with fail
        go_meet
        exact ⟨Lib.hid A, Lib.hid B, HB⟩
      · have e1 : (M.e == 0) = true := beq_iff_eq.2 e0
        clear e0
        go_wp2_with fail
        refine (hsub _).mono ?_
        rintro e w8 ⟨rfl, hb⟩
        have A := (A.keep hb).alloc (.cells #[.int .i64 l, .int .i64 h] 23)
        have B := (B.keep hb).alloc (.cells #[.int .i64 l, .int .i64 h] 23)
        have M1 := (M1.keep hb).alloc (.cells #[.int .i64 l, .int .i64 h] 23)
        have M2 := (M2.keep hb).alloc (.cells #[.int .i64 l, .int .i64 h] 23)
        have D := At2.new w8 (.int .i64 l) (.int .i64 h) 23
        have HB := Lib.hid (bstep (bstep HB.out hb) (below1 w8 (.cells #[.int .i64 l, .int .i64 h] 23)))
        clear hb
        clear A0 A1 B0 B1 M10 M11 M20 M21
        obtain ⟨A0, A1, -, -, -⟩ := id A
        obtain ⟨B0, B1, -, -, -⟩ := id B
        obtain ⟨M10, M11, -, -, -⟩ := id M1
        obtain ⟨M20, M21, -, -, -⟩ := id M2
        obtain ⟨D0, D1, -, -, -⟩ := id D
        go_wp2_with fail
        refine (told1 true hin (P.inside a b l h _)).mono ?_
        rintro e w9 ⟨rfl, hb⟩
        have A := (A.keep hb)
        have B := (B.keep hb)
        have M1 := (M1.keep hb)
        have M2 := (M2.keep hb)
        have D := (D.keep hb)
        have HB := Lib.hid (bstep HB.out hb)
        clear hb
        clear A0 A1 B0 B1 M10 M11 M20 M21 D0 D1
        obtain ⟨A0, A1, -, -, -⟩ := id A
        obtain ⟨B0, B1, -, -, -⟩ := id B
        obtain ⟨M10, M11, -, -, -⟩ := id M1
        obtain ⟨M20, M21, -, -, -⟩ := id M2
        obtain ⟨D0, D1, -, -, -⟩ := id D
        go_wp2_with fail
        go_meet
        exact ⟨Lib.hid A, Lib.hid B, HB⟩
      · have e1 : (M.e == 0) = true := beq_iff_eq.2 e0
        clear e0
        go_wp2_with fail
        refine (hsub _).mono ?_
        rintro e w8 ⟨rfl, hb⟩
        have A := (A.keep hb).alloc (.cells #[.int .i64 l, .int .i64 h] 23)
        have B := (B.keep hb).alloc (.cells #[.int .i64 l, .int .i64 h] 23)
        have M1 := (M1.keep hb).alloc (.cells #[.int .i64 l, .int .i64 h] 23)
        have M2 := (M2.keep hb).alloc (.cells #[.int .i64 l, .int .i64 h] 23)
        have D := At2.new w8 (.int .i64 l) (.int .i64 h) 23
        have HB := Lib.hid (bstep (bstep HB.out hb) (below1 w8 (.cells #[.int .i64 l, .int .i64 h] 23)))
        clear hb
        clear A0 A1 B0 B1 M10 M11 M20 M21
        obtain ⟨A0, A1, -, -, -⟩ := id A
        obtain ⟨B0, B1, -, -, -⟩ := id B
        obtain ⟨M10, M11, -, -, -⟩ := id M1
        obtain ⟨M20, M21, -, -, -⟩ := id M2
        obtain ⟨D0, D1, -, -, -⟩ := id D
        go_wp2_with fail
        go_meet
        exact ⟨Lib.hid A, Lib.hid B, HB⟩
      · have e1 : (M.e == 0) = true := beq_iff_eq.2 e0
        clear e0
        go_wp2_with fail
        refine (hsub _).mono ?_
        rintro e w8 ⟨rfl, hb⟩
        have A := (A.keep hb).alloc (.cells #[.int .i64 l, .int .i64 h] 23)
        have B := (B.keep hb).alloc (.cells #[.int .i64 l, .int .i64 h] 23)
        have M1 := (M1.keep hb).alloc (.cells #[.int .i64 l, .int .i64 h] 23)
        have M2 := (M2.keep hb).alloc (.cells #[.int .i64 l, .int .i64 h] 23)
        have D := At2.new w8 (.int .i64 l) (.int .i64 h) 23
        have HB := Lib.hid (bstep (bstep HB.out hb) (below1 w8 (.cells #[.int .i64 l, .int .i64 h] 23)))
        clear hb
        clear A0 A1 B0 B1 M10 M11 M20 M21
        obtain ⟨A0, A1, -, -, -⟩ := id A
        obtain ⟨B0, B1, -, -, -⟩ := id B
        obtain ⟨M10, M11, -, -, -⟩ := id M1
        obtain ⟨M20, M21, -, -, -⟩ := id M2
        obtain ⟨D0, D1, -, -, -⟩ := id D
        go_wp2_with fail
        go_meet
        exact ⟨Lib.hid A, Lib.hid B, HB⟩
    case rest =>
      obtain ⟨Ah, Bh, HB'⟩ := hcut
      clear A0 A1 B0 B1 M10 M11 M20 M21 A B M1 M2 HB
      have A := Ah.out
      have B := Bh.out
      have HB := HB'
      clear HB' Ah Bh
      obtain ⟨A0, A1, -, -, -⟩ := id A
      obtain ⟨B0, B1, -, -, -⟩ := id B
      go_wp2_with fail
      rcases WX.out with ⟨x1, y1, x2, x3⟩ | ⟨x1, y1, x2⟩ | ⟨x1, y1⟩
      · rw [x1] at C7
        rw [y1] at C8
        have x4 : decide (0 ≤ X.l) = true := decide_eq_true x2
        have CI := Lib.hid (fun wx => told1 true x3 (P.inside X.l X.h Y.l Y.h wx))
        clear x1 y1 x2 x3
        refine (C7.out _).mono ?_
        rintro e w8 ⟨rfl, hb⟩
        have A := (A.keep hb).alloc (.cells #[.int .i64 X.l, .int .i64 X.h] 23)
        have B := (B.keep hb).alloc (.cells #[.int .i64 X.l, .int .i64 X.h] 23)
        have X1 := At2.new w8 (.int .i64 X.l) (.int .i64 X.h) 23
        have HB := Lib.hid (bstep (bstep HB.out hb) (below1 w8 (.cells #[.int .i64 X.l, .int .i64 X.h] 23)))
        clear hb
        clear A0 A1 B0 B1
        obtain ⟨A0, A1, -, -, -⟩ := id A
        obtain ⟨B0, B1, -, -, -⟩ := id B
        obtain ⟨X10, X11, -, -, -⟩ := id X1
        go_wp2_with fail
        refine (C8.out _).mono ?_
        rintro e w9 ⟨rfl, hb⟩
        have A := (A.keep hb).alloc (.cells #[.int .i64 Y.l, .int .i64 Y.h] 23)
        have B := (B.keep hb).alloc (.cells #[.int .i64 Y.l, .int .i64 Y.h] 23)
        have X1 := (X1.keep hb).alloc (.cells #[.int .i64 Y.l, .int .i64 Y.h] 23)
        have Y1 := At2.new w9 (.int .i64 Y.l) (.int .i64 Y.h) 23
        have HB := Lib.hid (bstep (bstep HB.out hb) (below1 w9 (.cells #[.int .i64 Y.l, .int .i64 Y.h] 23)))
        clear hb
        clear A0 A1 B0 B1 X10 X11
        obtain ⟨A0, A1, -, -, -⟩ := id A
        obtain ⟨B0, B1, -, -, -⟩ := id B
        obtain ⟨X10, X11, -, -, -⟩ := id X1
        obtain ⟨Y10, Y11, -, -, -⟩ := id Y1
        go_wp2_with fail
        refine (CI.out _).mono ?_
        rintro e w10 ⟨rfl, hb⟩
        have A := (A.keep hb)
        have B := (B.keep hb)
        have X1 := (X1.keep hb)
        have Y1 := (Y1.keep hb)
        have HB := Lib.hid (bstep HB.out hb)
        clear hb
        clear A0 A1 B0 B1 X10 X11 Y10 Y11
        obtain ⟨A0, A1, -, -, -⟩ := id A
        obtain ⟨B0, B1, -, -, -⟩ := id B
        obtain ⟨X10, X11, -, -, -⟩ := id X1
        obtain ⟨Y10, Y11, -, -, -⟩ := id Y1
        go_wp2_with fail
        go_ret
        exact ⟨rfl, HB.out⟩
      · rw [x1] at C7
        rw [y1] at C8
        have x4 : decide (0 ≤ X.l) = true := decide_eq_true x2
        clear x1 y1 x2
        refine (C7.out _).mono ?_
        rintro e w8 ⟨rfl, hb⟩
        have A := (A.keep hb).alloc (.cells #[.int .i64 X.l, .int .i64 X.h] 23)
        have B := (B.keep hb).alloc (.cells #[.int .i64 X.l, .int .i64 X.h] 23)
        have X1 := At2.new w8 (.int .i64 X.l) (.int .i64 X.h) 23
        have HB := Lib.hid (bstep (bstep HB.out hb) (below1 w8 (.cells #[.int .i64 X.l, .int .i64 X.h] 23)))
        clear hb
        clear A0 A1 B0 B1
        obtain ⟨A0, A1, -, -, -⟩ := id A
        obtain ⟨B0, B1, -, -, -⟩ := id B
        obtain ⟨X10, X11, -, -, -⟩ := id X1
        go_wp2_with fail
        refine (C8.out _).mono ?_
        rintro e w9 ⟨rfl, hb⟩
        have A := (A.keep hb).alloc (.cells #[.int .i64 Y.l, .int .i64 Y.h] 23)
        have B := (B.keep hb).alloc (.cells #[.int .i64 Y.l, .int .i64 Y.h] 23)
        have X1 := (X1.keep hb).alloc (.cells #[.int .i64 Y.l, .int .i64 Y.h] 23)
        have Y1 := At2.new w9 (.int .i64 Y.l) (.int .i64 Y.h) 23
        have HB := Lib.hid (bstep (bstep HB.out hb) (below1 w9 (.cells #[.int .i64 Y.l, .int .i64 Y.h] 23)))
        clear hb
        clear A0 A1 B0 B1 X10 X11
        obtain ⟨A0, A1, -, -, -⟩ := id A
        obtain ⟨B0, B1, -, -, -⟩ := id B
        obtain ⟨X10, X11, -, -, -⟩ := id X1
        obtain ⟨Y10, Y11, -, -, -⟩ := id Y1
        go_wp2_with fail
        go_ret
        exact ⟨rfl, HB.out⟩
      · rw [x1] at C7
        rw [y1] at C8
        clear x1 y1
        refine (C7.out _).mono ?_
        rintro e w8 ⟨rfl, hb⟩
        have A := (A.keep hb).alloc (.cells #[.int .i64 X.l, .int .i64 X.h] 23)
        have B := (B.keep hb).alloc (.cells #[.int .i64 X.l, .int .i64 X.h] 23)
        have X1 := At2.new w8 (.int .i64 X.l) (.int .i64 X.h) 23
        have HB := Lib.hid (bstep (bstep HB.out hb) (below1 w8 (.cells #[.int .i64 X.l, .int .i64 X.h] 23)))
        clear hb
        clear A0 A1 B0 B1
        obtain ⟨A0, A1, -, -, -⟩ := id A
        obtain ⟨B0, B1, -, -, -⟩ := id B
        obtain ⟨X10, X11, -, -, -⟩ := id X1
        go_wp2_with fail
        refine (C8.out _).mono ?_
        rintro e w9 ⟨rfl, hb⟩
        have A := (A.keep hb).alloc (.cells #[.int .i64 Y.l, .int .i64 Y.h] 23)
        have B := (B.keep hb).alloc (.cells #[.int .i64 Y.l, .int .i64 Y.h] 23)
        have X1 := (X1.keep hb).alloc (.cells #[.int .i64 Y.l, .int .i64 Y.h] 23)
        have Y1 := At2.new w9 (.int .i64 Y.l) (.int .i64 Y.h) 23
        have HB := Lib.hid (bstep (bstep HB.out hb) (below1 w9 (.cells #[.int .i64 Y.l, .int .i64 Y.h] 23)))
        clear hb
        clear A0 A1 B0 B1 X10 X11
        obtain ⟨A0, A1, -, -, -⟩ := id A
        obtain ⟨B0, B1, -, -, -⟩ := id B
        obtain ⟨X10, X11, -, -, -⟩ := id X1
        obtain ⟨Y10, Y11, -, -, -⟩ := id Y1
        go_wp2_with fail
        go_ret
        exact ⟨rfl, HB.out⟩

theorem undone_walk (P : FxProg) (a b c d : Int) (w : World) :
    Calls Try.prog 9 #[.agg #[.int .i64 a, .int .i64 b], .agg #[.int .i64 c, .int .i64 d]] w fun e w' => e = .returned (.bool true) ∧ Below w.heap.size w w' := by
  cases ha : fok a b
  · exact undone_bad P a b c d w ha
  · cases hc : fok c d
    · exact undone_mid P a b c d w ha hc
    · exact undone_good P a b c d w ha hc
end Go.Proofs.Ytdkigfcglfgpoaa
