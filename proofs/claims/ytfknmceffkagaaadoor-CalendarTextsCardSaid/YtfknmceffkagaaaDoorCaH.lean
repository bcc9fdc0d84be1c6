/- Calendar: the order of dates. -/
import Derived.Test.YtfknmceffkagaaaDoorCaG
namespace Go.Proofs.YtfknmceffkagaaaDoor
open Go.RowKit
set_option linter.unusedVariables false
set_option maxRecDepth 100000

theorem or3_any (x y z r : Int) (g : Nat) (w : World) (c0 : w.cell? ⟨g, 0, none⟩ = some (.int .i64 x)) (c1 : w.cell? ⟨g, 1, none⟩ = some (.int .i64 y)) (c2 : w.cell? ⟨g, 2, none⟩ = some (.int .i64 z)) (h1 : x ≠ 0 → r = x) (h2 : x = 0 → y ≠ 0 → r = y) (h3 : x = 0 → y = 0 → r = z) :
    Calls Tryd.prog 38 #[.slice (some ⟨g, 0, none⟩) 3 3] w fun e w' => e = .returned (.int .i64 r) ∧ w' = w := by
  have h1 := Lib.hid h1
  have h2 := Lib.hid h2
  have h3 := Lib.hid h3
  go_enter Tryd.func38, Tryd.ntmps38
  go_wp2_with fail
  go_loopg [8] 3 (fun m v8 wr => ∃ j : Nat, m = 3 - j ∧ v8 = .int .i64 (j : Int) ∧ Hid (j ≤ 3) ∧ Hid (1 ≤ j → x = 0) ∧ Hid (2 ≤ j → y = 0) ∧ Hid (3 ≤ j → z = 0) ∧ w = wr)
  case atStart => exact ⟨0, rfl, rfl, Nat.zero_le _, fun h => absurd h (by omega), fun h => absurd h (by omega), fun h => absurd h (by omega), rfl⟩
  case round =>
    obtain ⟨j, hm, rfl, HJ, HX, HY, HZ, rfl⟩ := hrel
    have HG := Lib.hid hm
    clear hm
    rcases (show j = 0 ∨ j = 1 ∨ j = 2 ∨ j = 3 by have := HJ.out; omega) with rfl | rfl | rfl | rfl
    · by_cases c : x = 0
      · have HX := Lib.hid c
        subst c
        go_wp2_with fail
        go_roundg 2
        case measure => have := HG.out; omega
        case rel => exact ⟨1, rfl, rfl, by show _ ≤ _; omega, by first | exact fun _ => rfl | exact fun _ => trivial, fun h => absurd h (by omega), fun h => absurd h (by omega), by first | rfl | trivial⟩
      · have e := h1.out c
        go_wp2_with fail
        go_ret
        exact ⟨ret_int e.symm, rfl⟩
    · have zx := Lib.hid (HX.out (by omega))
      by_cases c : y = 0
      · have HY := Lib.hid c
        subst c
        go_wp2_with fail
        go_roundg 1
        case measure => have := HG.out; omega
        case rel => exact ⟨2, rfl, rfl, by show _ ≤ _; omega, fun _ => zx.out, by first | exact fun _ => rfl | exact fun _ => trivial, fun h => absurd h (by omega), by first | rfl | trivial⟩
      · have e := Lib.hid (h2.out zx.out c)
        go_wp2_with fail
        go_ret
        exact ⟨ret_int e.out.symm, rfl⟩
    · have zx := Lib.hid (HX.out (by omega))
      have zy := Lib.hid (HY.out (by omega))
      have e := Lib.hid (h3.out zx.out zy.out)
      by_cases c : z = 0
      · have HZ := Lib.hid c
        clear e
        subst c
        go_wp2_with fail
        go_roundg 0
        case measure => have := HG.out; omega
        case rel => exact ⟨3, rfl, rfl, by show _ ≤ _; omega, fun _ => zx.out, fun _ => zy.out, by first | exact fun _ => rfl | exact fun _ => trivial, by first | rfl | trivial⟩
      · go_wp2_with fail
        go_ret
        exact ⟨ret_int e.out.symm, rfl⟩
    · have e := Lib.hid ((h3.out (HX.out (by omega)) (HY.out (by omega))).trans (HZ.out (by omega)))
      go_wp2_with fail
      go_ret
      exact ⟨ret_int e.out.symm, rfl⟩
/-- the order of two dates -/
def cmpD (y m d y' m' d' : Int) : Int := if Lib.compareInt y y' ≠ 0 then Lib.compareInt y y' else if Lib.compareInt m m' ≠ 0 then Lib.compareInt m m' else Lib.compareInt d d'
theorem ci_cases (a b : Int) : (a < b ∧ Lib.compareInt a b = -1) ∨ (a = b ∧ Lib.compareInt a b = 0) ∨ (b < a ∧ Lib.compareInt a b = 1) := by
  unfold Lib.compareInt
  rcases (show a < b ∨ a = b ∨ b < a by omega) with h | h | h
  · exact Or.inl ⟨h, if_pos h⟩
  · exact Or.inr (Or.inl ⟨h, by rw [if_neg (by omega), if_neg (by omega)]⟩)
  · exact Or.inr (Or.inr ⟨h, by rw [if_neg (by omega), if_pos (by omega)]⟩)
theorem cmpD_num {y m d y' m' d' : Int} (h : okD y m d = true) (h' : okD y' m' d' = true) :
    cmpD y m d y' m' d' = (if num y m d < num y' m' d' then -1 else if num y' m' d' < num y m d then 1 else 0) := by
  have L := num_lt h h'
  have G := num_lt h' h
  unfold cmpD
  rcases ci_cases y y' with ⟨a, e⟩ | ⟨a, e⟩ | ⟨a, e⟩
  · have := L (Or.inl a)
    rw [e, if_pos (by decide), if_pos this]
  · rw [e, if_neg (by decide)]
    rcases ci_cases m m' with ⟨b, f⟩ | ⟨b, f⟩ | ⟨b, f⟩
    · have := L (Or.inr ⟨a, Or.inl b⟩)
      rw [f, if_pos (by decide), if_pos this]
    · rw [f, if_neg (by decide)]
      rcases ci_cases d d' with ⟨c, g⟩ | ⟨c, g⟩ | ⟨c, g⟩
      · have := L (Or.inr ⟨a, Or.inr ⟨b, c⟩⟩)
        rw [g, if_pos this]
      · subst a b c
        rw [g, if_neg (by omega), if_neg (by omega)]
      · have := G (Or.inr ⟨a.symm, Or.inr ⟨b.symm, c⟩⟩)
        rw [g, if_neg (by omega), if_pos this]
    · have := G (Or.inr ⟨a.symm, Or.inl b⟩)
      rw [f, if_pos (by decide), if_neg (by omega), if_pos this]
  · have := G (Or.inl a)
    rw [e, if_pos (by decide), if_neg (by omega), if_pos this]
set_option maxHeartbeats 2000000 in
theorem cmp_ok (y m d y' m' d' : Int) (w : World) (H : HasLen w) (ok : okD y m d = true) (ok' : okD y' m' d' = true) :
    Calls Tryd.prog 28 #[.agg #[.int .i64 y, .int .i64 m, .int .i64 d], .agg #[.int .i64 y', .int .i64 m', .int .i64 d']] w fun e w' => e = .returned (.tuple #[.int .i64 (cmpD y m d y' m' d'), .int .i64 0]) ∧ Below w.heap.size w w' := by
  have HB := Lib.hid (below2 w (.cells #[.int .i64 y, .int .i64 m, .int .i64 d] 23) (.cells #[.int .i64 y', .int .i64 m', .int .i64 d'] 23))
  have A := (At3.new w (.int .i64 y) (.int .i64 m) (.int .i64 d) 23).alloc (.cells #[.int .i64 y', .int .i64 m', .int .i64 d'] 23)
  have B := At3.new (w.alloc (.cells #[.int .i64 y, .int .i64 m, .int .i64 d] 23)) (.int .i64 y') (.int .i64 m') (.int .i64 d') 23
  simp at B
  have HX := H.below HB.out
  clear H
  have CV := Lib.hid (fun (wx : World) (hx : HasLen wx) => told1 true ok (valid_any y m d wx hx))
  have CW := Lib.hid (fun (wx : World) (hx : HasLen wx) => told1 true ok' (valid_any y' m' d' wx hx))
  have C1 := Lib.hid (fun (wx : World) => Tryd.cmp_Compare_int y y' wx)
  have C2 := Lib.hid (fun (wx : World) => Tryd.cmp_Compare_int m m' wx)
  have C3 := Lib.hid (fun (wx : World) => Tryd.cmp_Compare_int d d' wx)
  have K : (Lib.compareInt y y' ≠ 0 → cmpD y m d y' m' d' = Lib.compareInt y y') ∧ (Lib.compareInt y y' = 0 → Lib.compareInt m m' ≠ 0 → cmpD y m d y' m' d' = Lib.compareInt m m') ∧ (Lib.compareInt y y' = 0 → Lib.compareInt m m' = 0 → cmpD y m d y' m' d' = Lib.compareInt d d') := by
    unfold cmpD
    refine ⟨fun h => if_pos h, fun h k => ?_, fun h k => ?_⟩
    · rw [if_neg (by omega), if_pos k]
    · rw [if_neg (by omega), if_neg (by omega)]
  generalize Lib.compareInt y y' = p at *
  generalize Lib.compareInt m m' = q at *
  generalize Lib.compareInt d d' = s at *
  generalize cmpD y m d y' m' d' = r at *
  have C4 := Lib.hid (fun (g : Nat) (wx : World) c0 c1 c2 => or3_any p q s r g wx c0 c1 c2 K.1 K.2.1 K.2.2)
  clear K ok ok'
  obtain ⟨A0, A1, A2, -, -, -, -⟩ := id A
  obtain ⟨B0, B1, B2, -, -, -, -⟩ := id B
  go_enter Tryd.func28, Tryd.ntmps28
  go_wp2_with fail
  refine (CV.out _ HX).mono ?_
  rintro e w1 ⟨rfl, hb⟩
  have A := A.keep hb
  have B := B.keep hb
  have HX := HX.below hb
  have HB := Lib.hid (bstep HB.out hb)
  clear hb A0 A1 A2 B0 B1 B2
  obtain ⟨A0, A1, A2, -, -, -, -⟩ := id A
  obtain ⟨B0, B1, B2, -, -, -, -⟩ := id B
  go_wp2_with fail
  refine (CW.out _ HX).mono ?_
  rintro e w2 ⟨rfl, hb⟩
  have A := A.keep hb
  have B := B.keep hb
  have HX := HX.below hb
  have HB := Lib.hid (bstep HB.out hb)
  clear hb A0 A1 A2 B0 B1 B2
  obtain ⟨A0, A1, A2, -, -, -, -⟩ := id A
  obtain ⟨B0, B1, B2, -, -, -, -⟩ := id B
  go_upto_region 3 with fail
  go_still_tail 15, (by kernel_rfl)
  repeat still_step
  still_call (C1.out _)
  repeat still_step
  still_call (C2.out _)
  repeat still_step
  still_call (C3.out _)
  repeat still_step
  refine wpStill_nil ?_
  change wpList _ _ _ _ _ (World.drew _)
  go_wp2_with fail
  have N := At3.new w2.drew (.int .i64 p) (.int .i64 q) (.int .i64 s) 3
  refine (C4.out _ _ N.c0 N.c1 N.c2).mono ?_
  rintro e w3 ⟨rfl, rfl⟩
  go_wp2_with fail
  go_ret2
  exact ⟨rfl, bstep HB.out.drew (below1 _ _)⟩
set_option maxHeartbeats 1000000 in
theorem cmp_no1 (y m d y' m' d' : Int) (w : World) (H : HasLen w) (ok : okD y m d = false) :
    Calls Tryd.prog 28 #[.agg #[.int .i64 y, .int .i64 m, .int .i64 d], .agg #[.int .i64 y', .int .i64 m', .int .i64 d']] w fun e w' => e = .returned (.tuple #[.int .i64 0, .int .i64 1]) ∧ Below w.heap.size w w' := by
  have HB := Lib.hid (below2 w (.cells #[.int .i64 y, .int .i64 m, .int .i64 d] 23) (.cells #[.int .i64 y', .int .i64 m', .int .i64 d'] 23))
  have A := (At3.new w (.int .i64 y) (.int .i64 m) (.int .i64 d) 23).alloc (.cells #[.int .i64 y', .int .i64 m', .int .i64 d'] 23)
  have HX := H.below HB.out
  clear H
  have CV := Lib.hid (fun (wx : World) (hx : HasLen wx) => told1 false ok (valid_any y m d wx hx))
  obtain ⟨A0, A1, A2, -, -, -, -⟩ := id A
  go_enter Tryd.func28, Tryd.ntmps28
  go_wp2_with fail
  refine (CV.out _ HX).mono ?_
  rintro e w1 ⟨rfl, hb⟩
  have HB := Lib.hid (bstep HB.out hb)
  clear hb A A0 A1 A2 HX
  go_wp2_with fail
  go_ret2
  exact ⟨rfl, HB.out⟩
set_option maxHeartbeats 1000000 in
theorem cmp_no2 (y m d y' m' d' : Int) (w : World) (H : HasLen w) (ok : okD y m d = true) (ok' : okD y' m' d' = false) :
    Calls Tryd.prog 28 #[.agg #[.int .i64 y, .int .i64 m, .int .i64 d], .agg #[.int .i64 y', .int .i64 m', .int .i64 d']] w fun e w' => e = .returned (.tuple #[.int .i64 0, .int .i64 1]) ∧ Below w.heap.size w w' := by
  have HB := Lib.hid (below2 w (.cells #[.int .i64 y, .int .i64 m, .int .i64 d] 23) (.cells #[.int .i64 y', .int .i64 m', .int .i64 d'] 23))
  have A := (At3.new w (.int .i64 y) (.int .i64 m) (.int .i64 d) 23).alloc (.cells #[.int .i64 y', .int .i64 m', .int .i64 d'] 23)
  have B := At3.new (w.alloc (.cells #[.int .i64 y, .int .i64 m, .int .i64 d] 23)) (.int .i64 y') (.int .i64 m') (.int .i64 d') 23
  simp at B
  have HX := H.below HB.out
  clear H
  have CV := Lib.hid (fun (wx : World) (hx : HasLen wx) => told1 true ok (valid_any y m d wx hx))
  have CW := Lib.hid (fun (wx : World) (hx : HasLen wx) => told1 false ok' (valid_any y' m' d' wx hx))
  obtain ⟨A0, A1, A2, -, -, -, -⟩ := id A
  obtain ⟨B0, B1, B2, -, -, -, -⟩ := id B
  go_enter Tryd.func28, Tryd.ntmps28
  go_wp2_with fail
  refine (CV.out _ HX).mono ?_
  rintro e w1 ⟨rfl, hb⟩
  have B := B.keep hb
  have HX := HX.below hb
  have HB := Lib.hid (bstep HB.out hb)
  clear hb A A0 A1 A2 B0 B1 B2
  obtain ⟨B0, B1, B2, -, -, -, -⟩ := id B
  go_wp2_with fail
  refine (CW.out _ HX).mono ?_
  rintro e w2 ⟨rfl, hb⟩
  have HB := Lib.hid (bstep HB.out hb)
  clear hb B B0 B1 B2 HX
  go_wp2_with fail
  go_ret2
  exact ⟨rfl, HB.out⟩
end Go.Proofs.YtfknmceffkagaaaDoor
