/- Arctrig: the reference's Bearing. -/
import Derived.Test.YtndcjldnnfhedaaDoorArYm
import Derived.StillTailTactics
namespace Go.Proofs.YtndcjldnnfhedaaDoor.wd2
open Go.RowKit
set_option linter.unusedVariables false
set_option maxRecDepth 100000

theorem at2_val {w : World} {b : Nat} {x y x' y' : Value} (h : At2 w b x y) (ex : x = x') (ey : y = y') : At2 w b x' y' := by subst ex ey; exact h
theorem rValid7_is (a b : Int) (r : Bool) (h : fok a b = r) (w : World) :
    Calls Tryd.prog 23 #[.agg #[.int .i64 a, .int .i64 b]] w fun e w' => e = .returned (.bool r) ∧ Below w.heap.size w w' := h ▸ rValid7 a b w
theorem rOrigin_is (a b c d : Int) (r : Bool) (h : (zI a b && zI c d) = r) (w : World) :
    Calls Tryd.prog 24 #[.agg #[.int .i64 a, .int .i64 b], .agg #[.int .i64 c, .int .i64 d]] w fun e w' => e = .returned (.bool r) ∧ Below w.heap.size w w' := h ▸ rOrigin a b c d w
theorem rbear_bad1 (a b c d : Int) (w : World) (h : fok a b = false) :
    Calls Tryd.prog 7 #[.agg #[.int .i64 a, .int .i64 b], .agg #[.int .i64 c, .int .i64 d]] w fun e w' => e = .returned (.tuple #[.agg #[.int .i64 0, .int .i64 0], .int .i64 1]) ∧ Below w.heap.size w w' := by
  have V1 := Lib.hid (fun wx => rValid7_is a b false h wx)
  clear h
  obtain ⟨Y, X, R⟩ := At2.three w (.int .i64 a) (.int .i64 b) (.int .i64 c) (.int .i64 d) (.int .i64 0) (.int .i64 0) 23 23 25
  have HB := Lib.hid (below3 w (.cells #[.int .i64 a, .int .i64 b] 23) (.cells #[.int .i64 c, .int .i64 d] 23) (.cells #[.int .i64 0, .int .i64 0] 25))
  obtain ⟨Y0, Y1, -, -, -⟩ := id Y
  obtain ⟨X0, X1, -, -, -⟩ := id X
  go_enter Tryd.func7, Tryd.ntmps7
  go_wp2_with fail
  refine (V1.out _).mono ?_
  rintro e1 w1 ⟨rfl, hb⟩
  clear Y0 Y1 X0 X1
  have Y := Y.keep hb
  have X := X.keep hb
  have R := R.keep hb
  have HB := Lib.hid (bstep HB.out hb)
  clear hb
  obtain ⟨Y0, Y1, -, -, -⟩ := id Y
  obtain ⟨X0, X1, -, -, -⟩ := id X
  clear Y0 Y1 X0 X1
  obtain ⟨R0, R1, R2, R3, -⟩ := id R
  obtain ⟨z0, z1⟩ := set2 R0 R1 (.int .i64 (0)) (.int .i64 (0))
  go_wp2_with fail
  refine bodyPost_ret (v := .tuple #[.agg #[.int .i64 (0), .int .i64 (0)], .int .i64 (1)]) (by simp [results, Tryd.results7, go_sem, z0, z1]) rfl ⟨rfl, ?_⟩
  exact below_set2 HB.out (by omega) _ _
theorem rbear_bad2 (a b c d : Int) (w : World) (h : fok a b = true) (k : fok c d = false) :
    Calls Tryd.prog 7 #[.agg #[.int .i64 a, .int .i64 b], .agg #[.int .i64 c, .int .i64 d]] w fun e w' => e = .returned (.tuple #[.agg #[.int .i64 0, .int .i64 0], .int .i64 1]) ∧ Below w.heap.size w w' := by
  have V1 := Lib.hid (fun wx => rValid7_is a b true h wx)
  have V2 := Lib.hid (fun wx => rValid7_is c d false k wx)
  clear h k
  obtain ⟨Y, X, R⟩ := At2.three w (.int .i64 a) (.int .i64 b) (.int .i64 c) (.int .i64 d) (.int .i64 0) (.int .i64 0) 23 23 25
  have HB := Lib.hid (below3 w (.cells #[.int .i64 a, .int .i64 b] 23) (.cells #[.int .i64 c, .int .i64 d] 23) (.cells #[.int .i64 0, .int .i64 0] 25))
  obtain ⟨Y0, Y1, -, -, -⟩ := id Y
  obtain ⟨X0, X1, -, -, -⟩ := id X
  go_enter Tryd.func7, Tryd.ntmps7
  go_wp2_with fail
  refine (V1.out _).mono ?_
  rintro e1 w1 ⟨rfl, hb⟩
  clear Y0 Y1 X0 X1
  have Y := Y.keep hb
  have X := X.keep hb
  have R := R.keep hb
  have HB := Lib.hid (bstep HB.out hb)
  clear hb
  obtain ⟨Y0, Y1, -, -, -⟩ := id Y
  obtain ⟨X0, X1, -, -, -⟩ := id X
  go_wp2_with fail
  refine (V2.out _).mono ?_
  rintro e2 w2 ⟨rfl, hb⟩
  clear Y0 Y1 X0 X1
  have Y := Y.keep hb
  have X := X.keep hb
  have R := R.keep hb
  have HB := Lib.hid (bstep HB.out hb)
  clear hb
  obtain ⟨Y0, Y1, -, -, -⟩ := id Y
  obtain ⟨X0, X1, -, -, -⟩ := id X
  clear Y0 Y1 X0 X1
  obtain ⟨R0, R1, R2, R3, -⟩ := id R
  obtain ⟨z0, z1⟩ := set2 R0 R1 (.int .i64 (0)) (.int .i64 (0))
  go_wp2_with fail
  refine bodyPost_ret (v := .tuple #[.agg #[.int .i64 (0), .int .i64 (0)], .int .i64 (1)]) (by simp [results, Tryd.results7, go_sem, z0, z1]) rfl ⟨rfl, ?_⟩
  exact below_set2 HB.out (by omega) _ _
theorem rbear_zero (a b c d : Int) (w : World) (h : fok a b = true) (k : fok c d = true) (z : (zI a b && zI c d) = true) :
    Calls Tryd.prog 7 #[.agg #[.int .i64 a, .int .i64 b], .agg #[.int .i64 c, .int .i64 d]] w fun e w' => e = .returned (.tuple #[.agg #[.int .i64 0, .int .i64 21600000], .int .i64 0]) ∧ Below w.heap.size w w' := by
  have V1 := Lib.hid (fun wx => rValid7_is a b true h wx)
  have V2 := Lib.hid (fun wx => rValid7_is c d true k wx)
  have Z1 := Lib.hid (fun wx => rOrigin_is a b c d true z wx)
  clear h k z
  obtain ⟨Y, X, R⟩ := At2.three w (.int .i64 a) (.int .i64 b) (.int .i64 c) (.int .i64 d) (.int .i64 0) (.int .i64 0) 23 23 25
  have HB := Lib.hid (below3 w (.cells #[.int .i64 a, .int .i64 b] 23) (.cells #[.int .i64 c, .int .i64 d] 23) (.cells #[.int .i64 0, .int .i64 0] 25))
  obtain ⟨Y0, Y1, -, -, -⟩ := id Y
  obtain ⟨X0, X1, -, -, -⟩ := id X
  go_enter Tryd.func7, Tryd.ntmps7
  go_wp2_with fail
  refine (V1.out _).mono ?_
  rintro e1 w1 ⟨rfl, hb⟩
  clear Y0 Y1 X0 X1
  have Y := Y.keep hb
  have X := X.keep hb
  have R := R.keep hb
  have HB := Lib.hid (bstep HB.out hb)
  clear hb
  obtain ⟨Y0, Y1, -, -, -⟩ := id Y
  obtain ⟨X0, X1, -, -, -⟩ := id X
  go_wp2_with fail
  refine (V2.out _).mono ?_
  rintro e2 w2 ⟨rfl, hb⟩
  clear Y0 Y1 X0 X1
  have Y := Y.keep hb
  have X := X.keep hb
  have R := R.keep hb
  have HB := Lib.hid (bstep HB.out hb)
  clear hb
  obtain ⟨Y0, Y1, -, -, -⟩ := id Y
  obtain ⟨X0, X1, -, -, -⟩ := id X
  go_wp2_with fail
  refine (Z1.out _).mono ?_
  rintro e3 w3 ⟨rfl, hb⟩
  clear Y0 Y1 X0 X1
  have Y := Y.keep hb
  have X := X.keep hb
  have R := R.keep hb
  have HB := Lib.hid (bstep HB.out hb)
  clear hb
  obtain ⟨Y0, Y1, -, -, -⟩ := id Y
  obtain ⟨X0, X1, -, -, -⟩ := id X
  clear Y0 Y1 X0 X1
  obtain ⟨R0, R1, R2, R3, -⟩ := id R
  obtain ⟨z0, z1⟩ := set2 R0 R1 (.int .i64 (0)) (.int .i64 (21600000))
  go_wp2_with fail
  refine bodyPost_ret (v := .tuple #[.agg #[.int .i64 (0), .int .i64 (21600000)], .int .i64 (0)]) (by simp [results, Tryd.results7, go_sem, z0, z1]) rfl ⟨rfl, ?_⟩
  exact below_set2 HB.out (by omega) _ _
set_option maxHeartbeats 8000000 in
theorem rbear_main (a b c d : Int) (w : World) (h : fok a b = true) (k : fok c d = true) (z : (zI a b && zI c d) = false) (l0 m1 h1' t : Int) (x0 x : Bool)
    (A1 : ∀ wx, Calls Tryd.prog 26 #[.agg #[.int .i64 (fC a b c d).1, .int .i64 (fC a b c d).2]] wx fun e w' => e = .returned (.tuple #[.int .i64 l0, .bool x0]) ∧ Below wx.heap.size wx w')
    (A2 : ∀ wx, Calls Tryd.prog 26 #[.agg #[.int .i64 (lC a b c d).1, .int .i64 (lC a b c d).2]] wx fun e w' => e = .returned (.tuple #[.int .i64 m1, .bool x]) ∧ Below wx.heap.size wx w')
    (m0 : 0 ≤ m1) (m2 : m1 < 21600000) (hx : (x = true ∧ h1' = m1) ∨ (x = false ∧ h1' = m1 + 1)) (ht : (h1' < l0 ∧ t = h1' + 21600000) ∨ (¬ h1' < l0 ∧ t = h1')) :
    Calls Tryd.prog 7 #[.agg #[.int .i64 a, .int .i64 b], .agg #[.int .i64 c, .int .i64 d]] w fun e w' => e = .returned (.tuple #[.agg #[.int .i64 l0, .int .i64 t], .int .i64 0]) ∧ Below w.heap.size w w' := by
  have HPP := cnr_in h k
  obtain ⟨p, hp⟩ : ∃ p, p = cnr a b c d := ⟨_, rfl⟩
  have ep : (.int .i64 c : Value) = .int .i64 (p 0).1 ∧ (.int .i64 a : Value) = .int .i64 (p 0).2 ∧ (.int .i64 c : Value) = .int .i64 (p 1).1 ∧ (.int .i64 b : Value) = .int .i64 (p 1).2 ∧ (.int .i64 d : Value) = .int .i64 (p 2).1 ∧ (.int .i64 a : Value) = .int .i64 (p 2).2 ∧ (.int .i64 d : Value) = .int .i64 (p 3).1 ∧ (.int .i64 b : Value) = .int .i64 (p 3).2 := by subst hp; exact ⟨rfl, rfl, rfl, rfl, rfl, rfl, rfl, rfl⟩
  have AF := Lib.hid A1
  have AL := Lib.hid A2
  unfold fC at AF
  unfold lC at AL
  rw [← hp] at AF AL HPP
  have HP := Lib.hid HPP
  have EP := Lib.hid ep
  have HX := Lib.hid hx
  have HT := Lib.hid ht
  clear hp HPP A1 A2 ep hx ht
  have V1 := Lib.hid (fun wx => rValid7_is a b true h wx)
  have V2 := Lib.hid (fun wx => rValid7_is c d true k wx)
  have Z1 := Lib.hid (fun wx => rOrigin_is a b c d false z wx)
  clear h k z
  obtain ⟨Y, X, R⟩ := At2.three w (.int .i64 a) (.int .i64 b) (.int .i64 c) (.int .i64 d) (.int .i64 0) (.int .i64 0) 23 23 25
  have HB := Lib.hid (below3 w (.cells #[.int .i64 a, .int .i64 b] 23) (.cells #[.int .i64 c, .int .i64 d] 23) (.cells #[.int .i64 0, .int .i64 0] 25))
  obtain ⟨Y0, Y1, -, -, -⟩ := id Y
  obtain ⟨X0, X1, -, -, -⟩ := id X
  go_enter Tryd.func7, Tryd.ntmps7
  go_wp2_with fail
  refine (V1.out _).mono ?_
  rintro e1 w1 ⟨rfl, hb⟩
  clear Y0 Y1 X0 X1
  have Y := Y.keep hb
  have X := X.keep hb
  have R := R.keep hb
  have HB := Lib.hid (bstep HB.out hb)
  clear hb
  obtain ⟨Y0, Y1, -, -, -⟩ := id Y
  obtain ⟨X0, X1, -, -, -⟩ := id X
  go_wp2_with fail
  refine (V2.out _).mono ?_
  rintro e2 w2 ⟨rfl, hb⟩
  clear Y0 Y1 X0 X1
  have Y := Y.keep hb
  have X := X.keep hb
  have R := R.keep hb
  have HB := Lib.hid (bstep HB.out hb)
  clear hb
  obtain ⟨Y0, Y1, -, -, -⟩ := id Y
  obtain ⟨X0, X1, -, -, -⟩ := id X
  go_wp2_with fail
  refine (Z1.out _).mono ?_
  rintro e3 w3 ⟨rfl, hb⟩
  clear Y0 Y1 X0 X1
  have Y := Y.keep hb
  have X := X.keep hb
  have R := R.keep hb
  have HB := Lib.hid (bstep HB.out hb)
  clear hb
  obtain ⟨Y0, Y1, -, -, -⟩ := id Y
  obtain ⟨X0, X1, -, -, -⟩ := id X
  have E8 : At8 (((w3.alloc (.cells #[.int .i64 c, .int .i64 a, .int .i64 c, .int .i64 b, .int .i64 d, .int .i64 a, .int .i64 d, .int .i64 b] 57)).alloc (.cells #[.int .i64 c, .int .i64 a] 57)).alloc (.cells #[.int .i64 c, .int .i64 a] 57)) w3.heap.size (.int .i64 (p 0).1) (.int .i64 (p 0).2) (.int .i64 (p 1).1) (.int .i64 (p 1).2) (.int .i64 (p 2).1) (.int .i64 (p 2).2) (.int .i64 (p 3).1) (.int .i64 (p 3).2) := by
    have e := ((At8.new w3 (.int .i64 c) (.int .i64 a) (.int .i64 c) (.int .i64 b) (.int .i64 d) (.int .i64 a) (.int .i64 d) (.int .i64 b) 57).alloc (.cells #[.int .i64 c, .int .i64 a] 57)).alloc (.cells #[.int .i64 c, .int .i64 a] 57)
    obtain ⟨c0, c1, c2, c3, c4, c5, c6, c7⟩ := e
    obtain ⟨p0, p1, p2, p3, p4, p5, p6, p7⟩ := EP.out
    exact ⟨c0.trans (congrArg some p0), c1.trans (congrArg some p1), c2.trans (congrArg some p2), c3.trans (congrArg some p3), c4.trans (congrArg some p4), c5.trans (congrArg some p5), c6.trans (congrArg some p6), c7.trans (congrArg some p7)⟩
  have F8 := (At2.new (w3.alloc (.cells #[.int .i64 c, .int .i64 a, .int .i64 c, .int .i64 b, .int .i64 d, .int .i64 a, .int .i64 d, .int .i64 b] 57)) (.int .i64 c) (.int .i64 a) 57).alloc (.cells #[.int .i64 c, .int .i64 a] 57)
  have L8 := At2.new ((w3.alloc (.cells #[.int .i64 c, .int .i64 a, .int .i64 c, .int .i64 b, .int .i64 d, .int .i64 a, .int .i64 d, .int .i64 b] 57)).alloc (.cells #[.int .i64 c, .int .i64 a] 57)) (.int .i64 c) (.int .i64 a) 57
  have H8 := below3 w3 (.cells #[.int .i64 c, .int .i64 a, .int .i64 c, .int .i64 b, .int .i64 d, .int .i64 a, .int .i64 d, .int .i64 b] 57) (.cells #[.int .i64 c, .int .i64 a] 57) (.cells #[.int .i64 c, .int .i64 a] 57)
  simp at F8 L8
  have F8 := at2_val F8 EP.out.1 EP.out.2.1
  have L8 := at2_val L8 EP.out.1 EP.out.2.1
  have R8 := Lib.hid (R.keep H8)
  have HB8 := Lib.hid (bstep HB.out H8)
  have hs : w.heap.size + 1 + 1 < w3.heap.size := R.lt
  have E8 := Lib.hid E8
  have F8 := Lib.hid F8
  have L8 := Lib.hid L8
  clear H8
  go_wp2_with fail
  clear Y0 Y1 X0 X1 Y X R HB
  generalize w3.heap.size = s at *
  go_loopg [9] 3 (fun mm v9 wr => ∃ j : Nat, mm = 4 - j ∧ v9 = .int .i64 (j : Int) ∧ Hid (1 ≤ j ∧ j ≤ 4) ∧ Hid (At8 wr s (.int .i64 (p 0).1) (.int .i64 (p 0).2) (.int .i64 (p 1).1) (.int .i64 (p 1).2) (.int .i64 (p 2).1) (.int .i64 (p 2).2) (.int .i64 (p 3).1) (.int .i64 (p 3).2)) ∧ Hid (At2 wr (s + 1) (.int .i64 (exF p (j - 1)).1) (.int .i64 (exF p (j - 1)).2)) ∧ Hid (At2 wr (s + 1 + 1) (.int .i64 (exL p (j - 1)).1) (.int .i64 (exL p (j - 1)).2)) ∧ Hid (At2 wr (w.heap.size + 1 + 1) (.int .i64 0) (.int .i64 0)) ∧ Hid (Below w.heap.size w wr))
  case atStart => exact ⟨1, rfl, rfl, ⟨by omega, by omega⟩, E8, F8, L8, R8, HB8⟩
  case round =>
      clear E8 F8 L8 R8 HB8
      obtain ⟨j, hm, rfl, HJ, E', F', L', R', HB⟩ := hrel
      have HM := Lib.hid hm
      have E := E'.out
      have F := F'.out
      have L := L'.out
      have R := R'.out
      clear hm E' F' L' R'
      rcases (show j = 1 ∨ j = 2 ∨ j = 3 ∨ j = 4 by have := HJ.out; omega) with rfl | rfl | rfl | rfl
      · change At2 _ _ (.int .i64 (exF p 0).1) (.int .i64 (exF p 0).2) at F
        change At2 _ _ (.int .i64 (exL p 0).1) (.int .i64 (exL p 0).2) at L
        obtain ⟨E0, E1, E2, E3, E4, E5, E6, E7⟩ := id E
        obtain ⟨F0, F1, F2, F3, -⟩ := id F
        obtain ⟨L0, L1, L2, L3, -⟩ := id L
        rcases Bool.eq_false_or_eq_true (bf (p 1) (exF p 0)) with h1 | h1 <;> rcases Bool.eq_false_or_eq_true (bf (exL p 0) (p 1)) with h2 | h2
        · obtain ⟨q1, q2⟩ := ext_r011 p HP.out h1 h2
          have C1 := Lib.hid (fun wx => rBefore_p (p 1) (exF p 0) (HP.out _) (ex_in HP.out _).1 _ h1 wx)
          have C2 := Lib.hid (fun wx => rBefore_p (exL p 0) (p 1) (ex_in HP.out _).2 (HP.out _) _ h2 wx)
          have Q := Lib.hid (And.intro q1 q2)
          clear q1 q2 h1 h2
          generalize exF p 0 = ef at *
          generalize exL p 0 = el at *
          go_upto_region 11 with fail
          go_still_tail 5, (by kernel_rfl)
          repeat still_step
          (try refine wpStill_nil ?_)
          (try change wpList _ _ _ _ _ (World.drew _))
          go_wp2_with fail
          refine (C1.out _).mono ?_
          rintro e w1 ⟨rfl, hb⟩
          clear E0 E1 E2 E3 E4 E5 E6 E7 F0 F1 F2 F3 L0 L1 L2 L3
          have E := E.keep (bdrew hb)
          have F := F.keep (bdrew hb)
          have L := L.keep (bdrew hb)
          have R := R.keep (bdrew hb)
          have HB := Lib.hid (bstep HB.out (bdrew hb))
          clear hb
          obtain ⟨E0, E1, E2, E3, E4, E5, E6, E7⟩ := id E
          obtain ⟨F0, F1, F2, F3, -⟩ := id F
          obtain ⟨L0, L1, L2, L3, -⟩ := id L
          go_upto_region 13 with fail
          have E := E.far (show s ≠ s + 1 by omega) (.int .i64 (p 1).1) (.int .i64 (p 1).2)
          have L := L.far (show s + 1 + 1 ≠ s + 1 by omega) (.int .i64 (p 1).1) (.int .i64 (p 1).2)
          have R := R.far (show w.heap.size + 1 + 1 ≠ s + 1 by omega) (.int .i64 (p 1).1) (.int .i64 (p 1).2)
          have F := F.put (.int .i64 (p 1).1) (.int .i64 (p 1).2)
          have HB := Lib.hid (below_set2 HB.out (show w.heap.size ≤ s + 1 by omega) (.int .i64 (p 1).1) (.int .i64 (p 1).2))
          clear E0 E1 E2 E3 E4 E5 E6 E7 F0 F1 F2 F3 L0 L1 L2 L3
          generalize (w1.setCell ⟨s + 1, 0, none⟩ (.int .i64 (p 1).1)).setCell ⟨s + 1, 1, none⟩ (.int .i64 (p 1).2) = wz at *
          obtain ⟨E0, E1, E2, E3, E4, E5, E6, E7⟩ := id E
          obtain ⟨F0, F1, F2, F3, -⟩ := id F
          obtain ⟨L0, L1, L2, L3, -⟩ := id L
          go_still_tail 5, (by kernel_rfl)
          repeat still_step
          (try refine wpStill_nil ?_)
          (try change wpList _ _ _ _ _ (World.drew _))
          go_wp2_with fail
          refine (C2.out _).mono ?_
          rintro e w2 ⟨rfl, hb⟩
          clear E0 E1 E2 E3 E4 E5 E6 E7 F0 F1 F2 F3 L0 L1 L2 L3
          have E := E.keep (bdrew hb)
          have F := F.keep (bdrew hb)
          have L := L.keep (bdrew hb)
          have R := R.keep (bdrew hb)
          have HB := Lib.hid (bstep HB.out (bdrew hb))
          clear hb
          obtain ⟨E0, E1, E2, E3, E4, E5, E6, E7⟩ := id E
          obtain ⟨F0, F1, F2, F3, -⟩ := id F
          obtain ⟨L0, L1, L2, L3, -⟩ := id L
          go_wp2_with fail
          have E := E.far (show s ≠ s + 1 + 1 by omega) (.int .i64 (p 1).1) (.int .i64 (p 1).2)
          have F := F.far (show s + 1 ≠ s + 1 + 1 by omega) (.int .i64 (p 1).1) (.int .i64 (p 1).2)
          have R := R.far (show w.heap.size + 1 + 1 ≠ s + 1 + 1 by omega) (.int .i64 (p 1).1) (.int .i64 (p 1).2)
          have L := L.put (.int .i64 (p 1).1) (.int .i64 (p 1).2)
          have HB := Lib.hid (below_set2 HB.out (show w.heap.size ≤ s + 1 + 1 by omega) (.int .i64 (p 1).1) (.int .i64 (p 1).2))
          go_roundg 2
          case measure => have := HM.out; omega
          case rel => exact ⟨2, rfl, rfl, by show _ ∧ _; omega, E, by show At2 _ _ (.int .i64 (exF p 1).1) (.int .i64 (exF p 1).2); rw [Q.out.1]; exact F, by show At2 _ _ (.int .i64 (exL p 1).1) (.int .i64 (exL p 1).2); rw [Q.out.2]; exact L, R, HB⟩
        · obtain ⟨q1, q2⟩ := ext_r010 p HP.out h1 h2
          have C1 := Lib.hid (fun wx => rBefore_p (p 1) (exF p 0) (HP.out _) (ex_in HP.out _).1 _ h1 wx)
          have C2 := Lib.hid (fun wx => rBefore_p (exL p 0) (p 1) (ex_in HP.out _).2 (HP.out _) _ h2 wx)
          have Q := Lib.hid (And.intro q1 q2)
          clear q1 q2 h1 h2
          generalize exF p 0 = ef at *
          generalize exL p 0 = el at *
          go_upto_region 11 with fail
          go_still_tail 5, (by kernel_rfl)
          repeat still_step
          (try refine wpStill_nil ?_)
          (try change wpList _ _ _ _ _ (World.drew _))
          go_wp2_with fail
          refine (C1.out _).mono ?_
          rintro e w1 ⟨rfl, hb⟩
          clear E0 E1 E2 E3 E4 E5 E6 E7 F0 F1 F2 F3 L0 L1 L2 L3
          have E := E.keep (bdrew hb)
          have F := F.keep (bdrew hb)
          have L := L.keep (bdrew hb)
          have R := R.keep (bdrew hb)
          have HB := Lib.hid (bstep HB.out (bdrew hb))
          clear hb
          obtain ⟨E0, E1, E2, E3, E4, E5, E6, E7⟩ := id E
          obtain ⟨F0, F1, F2, F3, -⟩ := id F
          obtain ⟨L0, L1, L2, L3, -⟩ := id L
          go_upto_region 13 with fail
          have E := E.far (show s ≠ s + 1 by omega) (.int .i64 (p 1).1) (.int .i64 (p 1).2)
          have L := L.far (show s + 1 + 1 ≠ s + 1 by omega) (.int .i64 (p 1).1) (.int .i64 (p 1).2)
          have R := R.far (show w.heap.size + 1 + 1 ≠ s + 1 by omega) (.int .i64 (p 1).1) (.int .i64 (p 1).2)
          have F := F.put (.int .i64 (p 1).1) (.int .i64 (p 1).2)
          have HB := Lib.hid (below_set2 HB.out (show w.heap.size ≤ s + 1 by omega) (.int .i64 (p 1).1) (.int .i64 (p 1).2))
          clear E0 E1 E2 E3 E4 E5 E6 E7 F0 F1 F2 F3 L0 L1 L2 L3
          generalize (w1.setCell ⟨s + 1, 0, none⟩ (.int .i64 (p 1).1)).setCell ⟨s + 1, 1, none⟩ (.int .i64 (p 1).2) = wz at *
          obtain ⟨E0, E1, E2, E3, E4, E5, E6, E7⟩ := id E
          obtain ⟨F0, F1, F2, F3, -⟩ := id F
          obtain ⟨L0, L1, L2, L3, -⟩ := id L
          go_still_tail 5, (by kernel_rfl)
          repeat still_step
          (try refine wpStill_nil ?_)
          (try change wpList _ _ _ _ _ (World.drew _))
          go_wp2_with fail
          refine (C2.out _).mono ?_
          rintro e w2 ⟨rfl, hb⟩
          clear E0 E1 E2 E3 E4 E5 E6 E7 F0 F1 F2 F3 L0 L1 L2 L3
          have E := E.keep (bdrew hb)
          have F := F.keep (bdrew hb)
          have L := L.keep (bdrew hb)
          have R := R.keep (bdrew hb)
          have HB := Lib.hid (bstep HB.out (bdrew hb))
          clear hb
          obtain ⟨E0, E1, E2, E3, E4, E5, E6, E7⟩ := id E
          obtain ⟨F0, F1, F2, F3, -⟩ := id F
          obtain ⟨L0, L1, L2, L3, -⟩ := id L
          go_wp2_with fail
          go_roundg 2
          case measure => have := HM.out; omega
          case rel => exact ⟨2, rfl, rfl, by show _ ∧ _; omega, E, by show At2 _ _ (.int .i64 (exF p 1).1) (.int .i64 (exF p 1).2); rw [Q.out.1]; exact F, by show At2 _ _ (.int .i64 (exL p 1).1) (.int .i64 (exL p 1).2); rw [Q.out.2]; exact L, R, HB⟩
        · obtain ⟨q1, q2⟩ := ext_r001 p HP.out h1 h2
          have C1 := Lib.hid (fun wx => rBefore_p (p 1) (exF p 0) (HP.out _) (ex_in HP.out _).1 _ h1 wx)
          have C2 := Lib.hid (fun wx => rBefore_p (exL p 0) (p 1) (ex_in HP.out _).2 (HP.out _) _ h2 wx)
          have Q := Lib.hid (And.intro q1 q2)
          clear q1 q2 h1 h2
          generalize exF p 0 = ef at *
          generalize exL p 0 = el at *
          go_upto_region 11 with fail
          go_still_tail 5, (by kernel_rfl)
          repeat still_step
          (try refine wpStill_nil ?_)
          (try change wpList _ _ _ _ _ (World.drew _))
          go_wp2_with fail
          refine (C1.out _).mono ?_
          rintro e w1 ⟨rfl, hb⟩
          clear E0 E1 E2 E3 E4 E5 E6 E7 F0 F1 F2 F3 L0 L1 L2 L3
          have E := E.keep (bdrew hb)
          have F := F.keep (bdrew hb)
          have L := L.keep (bdrew hb)
          have R := R.keep (bdrew hb)
          have HB := Lib.hid (bstep HB.out (bdrew hb))
          clear hb
          obtain ⟨E0, E1, E2, E3, E4, E5, E6, E7⟩ := id E
          obtain ⟨F0, F1, F2, F3, -⟩ := id F
          obtain ⟨L0, L1, L2, L3, -⟩ := id L
          go_upto_region 13 with fail
          go_still_tail 5, (by kernel_rfl)
          repeat still_step
          (try refine wpStill_nil ?_)
          (try change wpList _ _ _ _ _ (World.drew _))
          go_wp2_with fail
          refine (C2.out _).mono ?_
          rintro e w2 ⟨rfl, hb⟩
          clear E0 E1 E2 E3 E4 E5 E6 E7 F0 F1 F2 F3 L0 L1 L2 L3
          have E := E.keep (bdrew hb)
          have F := F.keep (bdrew hb)
          have L := L.keep (bdrew hb)
          have R := R.keep (bdrew hb)
          have HB := Lib.hid (bstep HB.out (bdrew hb))
          clear hb
          obtain ⟨E0, E1, E2, E3, E4, E5, E6, E7⟩ := id E
          obtain ⟨F0, F1, F2, F3, -⟩ := id F
          obtain ⟨L0, L1, L2, L3, -⟩ := id L
          go_wp2_with fail
          have E := E.far (show s ≠ s + 1 + 1 by omega) (.int .i64 (p 1).1) (.int .i64 (p 1).2)
          have F := F.far (show s + 1 ≠ s + 1 + 1 by omega) (.int .i64 (p 1).1) (.int .i64 (p 1).2)
          have R := R.far (show w.heap.size + 1 + 1 ≠ s + 1 + 1 by omega) (.int .i64 (p 1).1) (.int .i64 (p 1).2)
          have L := L.put (.int .i64 (p 1).1) (.int .i64 (p 1).2)
          have HB := Lib.hid (below_set2 HB.out (show w.heap.size ≤ s + 1 + 1 by omega) (.int .i64 (p 1).1) (.int .i64 (p 1).2))
          go_roundg 2
          case measure => have := HM.out; omega
          case rel => exact ⟨2, rfl, rfl, by show _ ∧ _; omega, E, by show At2 _ _ (.int .i64 (exF p 1).1) (.int .i64 (exF p 1).2); rw [Q.out.1]; exact F, by show At2 _ _ (.int .i64 (exL p 1).1) (.int .i64 (exL p 1).2); rw [Q.out.2]; exact L, R, HB⟩
        · obtain ⟨q1, q2⟩ := ext_r000 p HP.out h1 h2
          have C1 := Lib.hid (fun wx => rBefore_p (p 1) (exF p 0) (HP.out _) (ex_in HP.out _).1 _ h1 wx)
          have C2 := Lib.hid (fun wx => rBefore_p (exL p 0) (p 1) (ex_in HP.out _).2 (HP.out _) _ h2 wx)
          have Q := Lib.hid (And.intro q1 q2)
          clear q1 q2 h1 h2
          generalize exF p 0 = ef at *
          generalize exL p 0 = el at *
          go_upto_region 11 with fail
          go_still_tail 5, (by kernel_rfl)
          repeat still_step
          (try refine wpStill_nil ?_)
          (try change wpList _ _ _ _ _ (World.drew _))
          go_wp2_with fail
          refine (C1.out _).mono ?_
          rintro e w1 ⟨rfl, hb⟩
          clear E0 E1 E2 E3 E4 E5 E6 E7 F0 F1 F2 F3 L0 L1 L2 L3
          have E := E.keep (bdrew hb)
          have F := F.keep (bdrew hb)
          have L := L.keep (bdrew hb)
          have R := R.keep (bdrew hb)
          have HB := Lib.hid (bstep HB.out (bdrew hb))
          clear hb
          obtain ⟨E0, E1, E2, E3, E4, E5, E6, E7⟩ := id E
          obtain ⟨F0, F1, F2, F3, -⟩ := id F
          obtain ⟨L0, L1, L2, L3, -⟩ := id L
          go_upto_region 13 with fail
          go_still_tail 5, (by kernel_rfl)
          repeat still_step
          (try refine wpStill_nil ?_)
          (try change wpList _ _ _ _ _ (World.drew _))
          go_wp2_with fail
          refine (C2.out _).mono ?_
          rintro e w2 ⟨rfl, hb⟩
          clear E0 E1 E2 E3 E4 E5 E6 E7 F0 F1 F2 F3 L0 L1 L2 L3
          have E := E.keep (bdrew hb)
          have F := F.keep (bdrew hb)
          have L := L.keep (bdrew hb)
          have R := R.keep (bdrew hb)
          have HB := Lib.hid (bstep HB.out (bdrew hb))
          clear hb
          obtain ⟨E0, E1, E2, E3, E4, E5, E6, E7⟩ := id E
          obtain ⟨F0, F1, F2, F3, -⟩ := id F
          obtain ⟨L0, L1, L2, L3, -⟩ := id L
          go_wp2_with fail
          go_roundg 2
          case measure => have := HM.out; omega
          case rel => exact ⟨2, rfl, rfl, by show _ ∧ _; omega, E, by show At2 _ _ (.int .i64 (exF p 1).1) (.int .i64 (exF p 1).2); rw [Q.out.1]; exact F, by show At2 _ _ (.int .i64 (exL p 1).1) (.int .i64 (exL p 1).2); rw [Q.out.2]; exact L, R, HB⟩
      · change At2 _ _ (.int .i64 (exF p 1).1) (.int .i64 (exF p 1).2) at F
        change At2 _ _ (.int .i64 (exL p 1).1) (.int .i64 (exL p 1).2) at L
        obtain ⟨E0, E1, E2, E3, E4, E5, E6, E7⟩ := id E
        obtain ⟨F0, F1, F2, F3, -⟩ := id F
        obtain ⟨L0, L1, L2, L3, -⟩ := id L
        rcases Bool.eq_false_or_eq_true (bf (p 2) (exF p 1)) with h1 | h1 <;> rcases Bool.eq_false_or_eq_true (bf (exL p 1) (p 2)) with h2 | h2
        · obtain ⟨q1, q2⟩ := ext_r111 p HP.out h1 h2
          have C1 := Lib.hid (fun wx => rBefore_p (p 2) (exF p 1) (HP.out _) (ex_in HP.out _).1 _ h1 wx)
          have C2 := Lib.hid (fun wx => rBefore_p (exL p 1) (p 2) (ex_in HP.out _).2 (HP.out _) _ h2 wx)
          have Q := Lib.hid (And.intro q1 q2)
          clear q1 q2 h1 h2
          generalize exF p 1 = ef at *
          generalize exL p 1 = el at *
          go_upto_region 11 with fail
          go_still_tail 5, (by kernel_rfl)
          repeat still_step
          (try refine wpStill_nil ?_)
          (try change wpList _ _ _ _ _ (World.drew _))
          go_wp2_with fail
          refine (C1.out _).mono ?_
          rintro e w1 ⟨rfl, hb⟩
          clear E0 E1 E2 E3 E4 E5 E6 E7 F0 F1 F2 F3 L0 L1 L2 L3
          have E := E.keep (bdrew hb)
          have F := F.keep (bdrew hb)
          have L := L.keep (bdrew hb)
          have R := R.keep (bdrew hb)
          have HB := Lib.hid (bstep HB.out (bdrew hb))
          clear hb
          obtain ⟨E0, E1, E2, E3, E4, E5, E6, E7⟩ := id E
          obtain ⟨F0, F1, F2, F3, -⟩ := id F
          obtain ⟨L0, L1, L2, L3, -⟩ := id L
          go_upto_region 13 with fail
          have E := E.far (show s ≠ s + 1 by omega) (.int .i64 (p 2).1) (.int .i64 (p 2).2)
          have L := L.far (show s + 1 + 1 ≠ s + 1 by omega) (.int .i64 (p 2).1) (.int .i64 (p 2).2)
          have R := R.far (show w.heap.size + 1 + 1 ≠ s + 1 by omega) (.int .i64 (p 2).1) (.int .i64 (p 2).2)
          have F := F.put (.int .i64 (p 2).1) (.int .i64 (p 2).2)
          have HB := Lib.hid (below_set2 HB.out (show w.heap.size ≤ s + 1 by omega) (.int .i64 (p 2).1) (.int .i64 (p 2).2))
          clear E0 E1 E2 E3 E4 E5 E6 E7 F0 F1 F2 F3 L0 L1 L2 L3
          generalize (w1.setCell ⟨s + 1, 0, none⟩ (.int .i64 (p 2).1)).setCell ⟨s + 1, 1, none⟩ (.int .i64 (p 2).2) = wz at *
          obtain ⟨E0, E1, E2, E3, E4, E5, E6, E7⟩ := id E
          obtain ⟨F0, F1, F2, F3, -⟩ := id F
          obtain ⟨L0, L1, L2, L3, -⟩ := id L
          go_still_tail 5, (by kernel_rfl)
          repeat still_step
          (try refine wpStill_nil ?_)
          (try change wpList _ _ _ _ _ (World.drew _))
          go_wp2_with fail
          refine (C2.out _).mono ?_
          rintro e w2 ⟨rfl, hb⟩
          clear E0 E1 E2 E3 E4 E5 E6 E7 F0 F1 F2 F3 L0 L1 L2 L3
          have E := E.keep (bdrew hb)
          have F := F.keep (bdrew hb)
          have L := L.keep (bdrew hb)
          have R := R.keep (bdrew hb)
          have HB := Lib.hid (bstep HB.out (bdrew hb))
          clear hb
          obtain ⟨E0, E1, E2, E3, E4, E5, E6, E7⟩ := id E
          obtain ⟨F0, F1, F2, F3, -⟩ := id F
          obtain ⟨L0, L1, L2, L3, -⟩ := id L
          go_wp2_with fail
          have E := E.far (show s ≠ s + 1 + 1 by omega) (.int .i64 (p 2).1) (.int .i64 (p 2).2)
          have F := F.far (show s + 1 ≠ s + 1 + 1 by omega) (.int .i64 (p 2).1) (.int .i64 (p 2).2)
          have R := R.far (show w.heap.size + 1 + 1 ≠ s + 1 + 1 by omega) (.int .i64 (p 2).1) (.int .i64 (p 2).2)
          have L := L.put (.int .i64 (p 2).1) (.int .i64 (p 2).2)
          have HB := Lib.hid (below_set2 HB.out (show w.heap.size ≤ s + 1 + 1 by omega) (.int .i64 (p 2).1) (.int .i64 (p 2).2))
          go_roundg 1
          case measure => have := HM.out; omega
          case rel => exact ⟨3, rfl, rfl, by show _ ∧ _; omega, E, by show At2 _ _ (.int .i64 (exF p 2).1) (.int .i64 (exF p 2).2); rw [Q.out.1]; exact F, by show At2 _ _ (.int .i64 (exL p 2).1) (.int .i64 (exL p 2).2); rw [Q.out.2]; exact L, R, HB⟩
        · obtain ⟨q1, q2⟩ := ext_r110 p HP.out h1 h2
          have C1 := Lib.hid (fun wx => rBefore_p (p 2) (exF p 1) (HP.out _) (ex_in HP.out _).1 _ h1 wx)
          have C2 := Lib.hid (fun wx => rBefore_p (exL p 1) (p 2) (ex_in HP.out _).2 (HP.out _) _ h2 wx)
          have Q := Lib.hid (And.intro q1 q2)
          clear q1 q2 h1 h2
          generalize exF p 1 = ef at *
          generalize exL p 1 = el at *
          go_upto_region 11 with fail
          go_still_tail 5, (by kernel_rfl)
          repeat still_step
          (try refine wpStill_nil ?_)
          (try change wpList _ _ _ _ _ (World.drew _))
          go_wp2_with fail
          refine (C1.out _).mono ?_
          rintro e w1 ⟨rfl, hb⟩
          clear E0 E1 E2 E3 E4 E5 E6 E7 F0 F1 F2 F3 L0 L1 L2 L3
          have E := E.keep (bdrew hb)
          have F := F.keep (bdrew hb)
          have L := L.keep (bdrew hb)
          have R := R.keep (bdrew hb)
          have HB := Lib.hid (bstep HB.out (bdrew hb))
          clear hb
          obtain ⟨E0, E1, E2, E3, E4, E5, E6, E7⟩ := id E
          obtain ⟨F0, F1, F2, F3, -⟩ := id F
          obtain ⟨L0, L1, L2, L3, -⟩ := id L
          go_upto_region 13 with fail
          have E := E.far (show s ≠ s + 1 by omega) (.int .i64 (p 2).1) (.int .i64 (p 2).2)
          have L := L.far (show s + 1 + 1 ≠ s + 1 by omega) (.int .i64 (p 2).1) (.int .i64 (p 2).2)
          have R := R.far (show w.heap.size + 1 + 1 ≠ s + 1 by omega) (.int .i64 (p 2).1) (.int .i64 (p 2).2)
          have F := F.put (.int .i64 (p 2).1) (.int .i64 (p 2).2)
          have HB := Lib.hid (below_set2 HB.out (show w.heap.size ≤ s + 1 by omega) (.int .i64 (p 2).1) (.int .i64 (p 2).2))
          clear E0 E1 E2 E3 E4 E5 E6 E7 F0 F1 F2 F3 L0 L1 L2 L3
          generalize (w1.setCell ⟨s + 1, 0, none⟩ (.int .i64 (p 2).1)).setCell ⟨s + 1, 1, none⟩ (.int .i64 (p 2).2) = wz at *
          obtain ⟨E0, E1, E2, E3, E4, E5, E6, E7⟩ := id E
          obtain ⟨F0, F1, F2, F3, -⟩ := id F
          obtain ⟨L0, L1, L2, L3, -⟩ := id L
          go_still_tail 5, (by kernel_rfl)
          repeat still_step
          (try refine wpStill_nil ?_)
          (try change wpList _ _ _ _ _ (World.drew _))
          go_wp2_with fail
          refine (C2.out _).mono ?_
          rintro e w2 ⟨rfl, hb⟩
          clear E0 E1 E2 E3 E4 E5 E6 E7 F0 F1 F2 F3 L0 L1 L2 L3
          have E := E.keep (bdrew hb)
          have F := F.keep (bdrew hb)
          have L := L.keep (bdrew hb)
          have R := R.keep (bdrew hb)
          have HB := Lib.hid (bstep HB.out (bdrew hb))
          clear hb
          obtain ⟨E0, E1, E2, E3, E4, E5, E6, E7⟩ := id E
          obtain ⟨F0, F1, F2, F3, -⟩ := id F
          obtain ⟨L0, L1, L2, L3, -⟩ := id L
          go_wp2_with fail
          go_roundg 1
          case measure => have := HM.out; omega
          case rel => exact ⟨3, rfl, rfl, by show _ ∧ _; omega, E, by show At2 _ _ (.int .i64 (exF p 2).1) (.int .i64 (exF p 2).2); rw [Q.out.1]; exact F, by show At2 _ _ (.int .i64 (exL p 2).1) (.int .i64 (exL p 2).2); rw [Q.out.2]; exact L, R, HB⟩
        · obtain ⟨q1, q2⟩ := ext_r101 p HP.out h1 h2
          have C1 := Lib.hid (fun wx => rBefore_p (p 2) (exF p 1) (HP.out _) (ex_in HP.out _).1 _ h1 wx)
          have C2 := Lib.hid (fun wx => rBefore_p (exL p 1) (p 2) (ex_in HP.out _).2 (HP.out _) _ h2 wx)
          have Q := Lib.hid (And.intro q1 q2)
          clear q1 q2 h1 h2
          generalize exF p 1 = ef at *
          generalize exL p 1 = el at *
          go_upto_region 11 with fail
          go_still_tail 5, (by kernel_rfl)
          repeat still_step
          (try refine wpStill_nil ?_)
          (try change wpList _ _ _ _ _ (World.drew _))
          go_wp2_with fail
          refine (C1.out _).mono ?_
          rintro e w1 ⟨rfl, hb⟩
          clear E0 E1 E2 E3 E4 E5 E6 E7 F0 F1 F2 F3 L0 L1 L2 L3
          have E := E.keep (bdrew hb)
          have F := F.keep (bdrew hb)
          have L := L.keep (bdrew hb)
          have R := R.keep (bdrew hb)
          have HB := Lib.hid (bstep HB.out (bdrew hb))
          clear hb
          obtain ⟨E0, E1, E2, E3, E4, E5, E6, E7⟩ := id E
          obtain ⟨F0, F1, F2, F3, -⟩ := id F
          obtain ⟨L0, L1, L2, L3, -⟩ := id L
          go_upto_region 13 with fail
          go_still_tail 5, (by kernel_rfl)
          repeat still_step
          (try refine wpStill_nil ?_)
          (try change wpList _ _ _ _ _ (World.drew _))
          go_wp2_with fail
          refine (C2.out _).mono ?_
          rintro e w2 ⟨rfl, hb⟩
          clear E0 E1 E2 E3 E4 E5 E6 E7 F0 F1 F2 F3 L0 L1 L2 L3
          have E := E.keep (bdrew hb)
          have F := F.keep (bdrew hb)
          have L := L.keep (bdrew hb)
          have R := R.keep (bdrew hb)
          have HB := Lib.hid (bstep HB.out (bdrew hb))
          clear hb
          obtain ⟨E0, E1, E2, E3, E4, E5, E6, E7⟩ := id E
          obtain ⟨F0, F1, F2, F3, -⟩ := id F
          obtain ⟨L0, L1, L2, L3, -⟩ := id L
          go_wp2_with fail
          have E := E.far (show s ≠ s + 1 + 1 by omega) (.int .i64 (p 2).1) (.int .i64 (p 2).2)
          have F := F.far (show s + 1 ≠ s + 1 + 1 by omega) (.int .i64 (p 2).1) (.int .i64 (p 2).2)
          have R := R.far (show w.heap.size + 1 + 1 ≠ s + 1 + 1 by omega) (.int .i64 (p 2).1) (.int .i64 (p 2).2)
          have L := L.put (.int .i64 (p 2).1) (.int .i64 (p 2).2)
          have HB := Lib.hid (below_set2 HB.out (show w.heap.size ≤ s + 1 + 1 by omega) (.int .i64 (p 2).1) (.int .i64 (p 2).2))
          go_roundg 1
          case measure => have := HM.out; omega
          case rel => exact ⟨3, rfl, rfl, by show _ ∧ _; omega, E, by show At2 _ _ (.int .i64 (exF p 2).1) (.int .i64 (exF p 2).2); rw [Q.out.1]; exact F, by show At2 _ _ (.int .i64 (exL p 2).1) (.int .i64 (exL p 2).2); rw [Q.out.2]; exact L, R, HB⟩
        · obtain ⟨q1, q2⟩ := ext_r100 p HP.out h1 h2
          have C1 := Lib.hid (fun wx => rBefore_p (p 2) (exF p 1) (HP.out _) (ex_in HP.out _).1 _ h1 wx)
          have C2 := Lib.hid (fun wx => rBefore_p (exL p 1) (p 2) (ex_in HP.out _).2 (HP.out _) _ h2 wx)
          have Q := Lib.hid (And.intro q1 q2)
          clear q1 q2 h1 h2
          generalize exF p 1 = ef at *
          generalize exL p 1 = el at *
          go_upto_region 11 with fail
          go_still_tail 5, (by kernel_rfl)
          repeat still_step
          (try refine wpStill_nil ?_)
          (try change wpList _ _ _ _ _ (World.drew _))
          go_wp2_with fail
          refine (C1.out _).mono ?_
          rintro e w1 ⟨rfl, hb⟩
          clear E0 E1 E2 E3 E4 E5 E6 E7 F0 F1 F2 F3 L0 L1 L2 L3
          have E := E.keep (bdrew hb)
          have F := F.keep (bdrew hb)
          have L := L.keep (bdrew hb)
          have R := R.keep (bdrew hb)
          have HB := Lib.hid (bstep HB.out (bdrew hb))
          clear hb
          obtain ⟨E0, E1, E2, E3, E4, E5, E6, E7⟩ := id E
          obtain ⟨F0, F1, F2, F3, -⟩ := id F
          obtain ⟨L0, L1, L2, L3, -⟩ := id L
          go_upto_region 13 with fail
          go_still_tail 5, (by kernel_rfl)
          repeat still_step
          (try refine wpStill_nil ?_)
          (try change wpList _ _ _ _ _ (World.drew _))
          go_wp2_with fail
          refine (C2.out _).mono ?_
          rintro e w2 ⟨rfl, hb⟩
          clear E0 E1 E2 E3 E4 E5 E6 E7 F0 F1 F2 F3 L0 L1 L2 L3
          have E := E.keep (bdrew hb)
          have F := F.keep (bdrew hb)
          have L := L.keep (bdrew hb)
          have R := R.keep (bdrew hb)
          have HB := Lib.hid (bstep HB.out (bdrew hb))
          clear hb
          obtain ⟨E0, E1, E2, E3, E4, E5, E6, E7⟩ := id E
          obtain ⟨F0, F1, F2, F3, -⟩ := id F
          obtain ⟨L0, L1, L2, L3, -⟩ := id L
          go_wp2_with fail
          go_roundg 1
          case measure => have := HM.out; omega
          case rel => exact ⟨3, rfl, rfl, by show _ ∧ _; omega, E, by show At2 _ _ (.int .i64 (exF p 2).1) (.int .i64 (exF p 2).2); rw [Q.out.1]; exact F, by show At2 _ _ (.int .i64 (exL p 2).1) (.int .i64 (exL p 2).2); rw [Q.out.2]; exact L, R, HB⟩
      · change At2 _ _ (.int .i64 (exF p 2).1) (.int .i64 (exF p 2).2) at F
        change At2 _ _ (.int .i64 (exL p 2).1) (.int .i64 (exL p 2).2) at L
        obtain ⟨E0, E1, E2, E3, E4, E5, E6, E7⟩ := id E
        obtain ⟨F0, F1, F2, F3, -⟩ := id F
        obtain ⟨L0, L1, L2, L3, -⟩ := id L
        rcases Bool.eq_false_or_eq_true (bf (p 3) (exF p 2)) with h1 | h1 <;> rcases Bool.eq_false_or_eq_true (bf (exL p 2) (p 3)) with h2 | h2
        · obtain ⟨q1, q2⟩ := ext_r211 p HP.out h1 h2
          have C1 := Lib.hid (fun wx => rBefore_p (p 3) (exF p 2) (HP.out _) (ex_in HP.out _).1 _ h1 wx)
          have C2 := Lib.hid (fun wx => rBefore_p (exL p 2) (p 3) (ex_in HP.out _).2 (HP.out _) _ h2 wx)
          have Q := Lib.hid (And.intro q1 q2)
          clear q1 q2 h1 h2
          generalize exF p 2 = ef at *
          generalize exL p 2 = el at *
          go_upto_region 11 with fail
          go_still_tail 5, (by kernel_rfl)
          repeat still_step
          (try refine wpStill_nil ?_)
          (try change wpList _ _ _ _ _ (World.drew _))
          go_wp2_with fail
          refine (C1.out _).mono ?_
          rintro e w1 ⟨rfl, hb⟩
          clear E0 E1 E2 E3 E4 E5 E6 E7 F0 F1 F2 F3 L0 L1 L2 L3
          have E := E.keep (bdrew hb)
          have F := F.keep (bdrew hb)
          have L := L.keep (bdrew hb)
          have R := R.keep (bdrew hb)
          have HB := Lib.hid (bstep HB.out (bdrew hb))
          clear hb
          obtain ⟨E0, E1, E2, E3, E4, E5, E6, E7⟩ := id E
          obtain ⟨F0, F1, F2, F3, -⟩ := id F
          obtain ⟨L0, L1, L2, L3, -⟩ := id L
          go_upto_region 13 with fail
          have E := E.far (show s ≠ s + 1 by omega) (.int .i64 (p 3).1) (.int .i64 (p 3).2)
          have L := L.far (show s + 1 + 1 ≠ s + 1 by omega) (.int .i64 (p 3).1) (.int .i64 (p 3).2)
          have R := R.far (show w.heap.size + 1 + 1 ≠ s + 1 by omega) (.int .i64 (p 3).1) (.int .i64 (p 3).2)
          have F := F.put (.int .i64 (p 3).1) (.int .i64 (p 3).2)
          have HB := Lib.hid (below_set2 HB.out (show w.heap.size ≤ s + 1 by omega) (.int .i64 (p 3).1) (.int .i64 (p 3).2))
          clear E0 E1 E2 E3 E4 E5 E6 E7 F0 F1 F2 F3 L0 L1 L2 L3
          generalize (w1.setCell ⟨s + 1, 0, none⟩ (.int .i64 (p 3).1)).setCell ⟨s + 1, 1, none⟩ (.int .i64 (p 3).2) = wz at *
          obtain ⟨E0, E1, E2, E3, E4, E5, E6, E7⟩ := id E
          obtain ⟨F0, F1, F2, F3, -⟩ := id F
          obtain ⟨L0, L1, L2, L3, -⟩ := id L
          go_still_tail 5, (by kernel_rfl)
          repeat still_step
          (try refine wpStill_nil ?_)
          (try change wpList _ _ _ _ _ (World.drew _))
          go_wp2_with fail
          refine (C2.out _).mono ?_
          rintro e w2 ⟨rfl, hb⟩
          clear E0 E1 E2 E3 E4 E5 E6 E7 F0 F1 F2 F3 L0 L1 L2 L3
          have E := E.keep (bdrew hb)
          have F := F.keep (bdrew hb)
          have L := L.keep (bdrew hb)
          have R := R.keep (bdrew hb)
          have HB := Lib.hid (bstep HB.out (bdrew hb))
          clear hb
          obtain ⟨E0, E1, E2, E3, E4, E5, E6, E7⟩ := id E
          obtain ⟨F0, F1, F2, F3, -⟩ := id F
          obtain ⟨L0, L1, L2, L3, -⟩ := id L
          go_wp2_with fail
          have E := E.far (show s ≠ s + 1 + 1 by omega) (.int .i64 (p 3).1) (.int .i64 (p 3).2)
          have F := F.far (show s + 1 ≠ s + 1 + 1 by omega) (.int .i64 (p 3).1) (.int .i64 (p 3).2)
          have R := R.far (show w.heap.size + 1 + 1 ≠ s + 1 + 1 by omega) (.int .i64 (p 3).1) (.int .i64 (p 3).2)
          have L := L.put (.int .i64 (p 3).1) (.int .i64 (p 3).2)
          have HB := Lib.hid (below_set2 HB.out (show w.heap.size ≤ s + 1 + 1 by omega) (.int .i64 (p 3).1) (.int .i64 (p 3).2))
          go_roundg 0
          case measure => have := HM.out; omega
          case rel => exact ⟨4, rfl, rfl, by show _ ∧ _; omega, E, by show At2 _ _ (.int .i64 (exF p 3).1) (.int .i64 (exF p 3).2); rw [Q.out.1]; exact F, by show At2 _ _ (.int .i64 (exL p 3).1) (.int .i64 (exL p 3).2); rw [Q.out.2]; exact L, R, HB⟩
        · obtain ⟨q1, q2⟩ := ext_r210 p HP.out h1 h2
          have C1 := Lib.hid (fun wx => rBefore_p (p 3) (exF p 2) (HP.out _) (ex_in HP.out _).1 _ h1 wx)
          have C2 := Lib.hid (fun wx => rBefore_p (exL p 2) (p 3) (ex_in HP.out _).2 (HP.out _) _ h2 wx)
          have Q := Lib.hid (And.intro q1 q2)
          clear q1 q2 h1 h2
          generalize exF p 2 = ef at *
          generalize exL p 2 = el at *
          go_upto_region 11 with fail
          go_still_tail 5, (by kernel_rfl)
          repeat still_step
          (try refine wpStill_nil ?_)
          (try change wpList _ _ _ _ _ (World.drew _))
          go_wp2_with fail
          refine (C1.out _).mono ?_
          rintro e w1 ⟨rfl, hb⟩
          clear E0 E1 E2 E3 E4 E5 E6 E7 F0 F1 F2 F3 L0 L1 L2 L3
          have E := E.keep (bdrew hb)
          have F := F.keep (bdrew hb)
          have L := L.keep (bdrew hb)
          have R := R.keep (bdrew hb)
          have HB := Lib.hid (bstep HB.out (bdrew hb))
          clear hb
          obtain ⟨E0, E1, E2, E3, E4, E5, E6, E7⟩ := id E
          obtain ⟨F0, F1, F2, F3, -⟩ := id F
          obtain ⟨L0, L1, L2, L3, -⟩ := id L
          go_upto_region 13 with fail
          have E := E.far (show s ≠ s + 1 by omega) (.int .i64 (p 3).1) (.int .i64 (p 3).2)
          have L := L.far (show s + 1 + 1 ≠ s + 1 by omega) (.int .i64 (p 3).1) (.int .i64 (p 3).2)
          have R := R.far (show w.heap.size + 1 + 1 ≠ s + 1 by omega) (.int .i64 (p 3).1) (.int .i64 (p 3).2)
          have F := F.put (.int .i64 (p 3).1) (.int .i64 (p 3).2)
          have HB := Lib.hid (below_set2 HB.out (show w.heap.size ≤ s + 1 by omega) (.int .i64 (p 3).1) (.int .i64 (p 3).2))
          clear E0 E1 E2 E3 E4 E5 E6 E7 F0 F1 F2 F3 L0 L1 L2 L3
          generalize (w1.setCell ⟨s + 1, 0, none⟩ (.int .i64 (p 3).1)).setCell ⟨s + 1, 1, none⟩ (.int .i64 (p 3).2) = wz at *
          obtain ⟨E0, E1, E2, E3, E4, E5, E6, E7⟩ := id E
          obtain ⟨F0, F1, F2, F3, -⟩ := id F
          obtain ⟨L0, L1, L2, L3, -⟩ := id L
          go_still_tail 5, (by kernel_rfl)
          repeat still_step
          (try refine wpStill_nil ?_)
          (try change wpList _ _ _ _ _ (World.drew _))
          go_wp2_with fail
          refine (C2.out _).mono ?_
          rintro e w2 ⟨rfl, hb⟩
          clear E0 E1 E2 E3 E4 E5 E6 E7 F0 F1 F2 F3 L0 L1 L2 L3
          have E := E.keep (bdrew hb)
          have F := F.keep (bdrew hb)
          have L := L.keep (bdrew hb)
          have R := R.keep (bdrew hb)
          have HB := Lib.hid (bstep HB.out (bdrew hb))
          clear hb
          obtain ⟨E0, E1, E2, E3, E4, E5, E6, E7⟩ := id E
          obtain ⟨F0, F1, F2, F3, -⟩ := id F
          obtain ⟨L0, L1, L2, L3, -⟩ := id L
          go_wp2_with fail
          go_roundg 0
          case measure => have := HM.out; omega
          case rel => exact ⟨4, rfl, rfl, by show _ ∧ _; omega, E, by show At2 _ _ (.int .i64 (exF p 3).1) (.int .i64 (exF p 3).2); rw [Q.out.1]; exact F, by show At2 _ _ (.int .i64 (exL p 3).1) (.int .i64 (exL p 3).2); rw [Q.out.2]; exact L, R, HB⟩
        · obtain ⟨q1, q2⟩ := ext_r201 p HP.out h1 h2
          have C1 := Lib.hid (fun wx => rBefore_p (p 3) (exF p 2) (HP.out _) (ex_in HP.out _).1 _ h1 wx)
          have C2 := Lib.hid (fun wx => rBefore_p (exL p 2) (p 3) (ex_in HP.out _).2 (HP.out _) _ h2 wx)
          have Q := Lib.hid (And.intro q1 q2)
          clear q1 q2 h1 h2
          generalize exF p 2 = ef at *
          generalize exL p 2 = el at *
          go_upto_region 11 with fail
          go_still_tail 5, (by kernel_rfl)
          repeat still_step
          (try refine wpStill_nil ?_)
          (try change wpList _ _ _ _ _ (World.drew _))
          go_wp2_with fail
          refine (C1.out _).mono ?_
          rintro e w1 ⟨rfl, hb⟩
          clear E0 E1 E2 E3 E4 E5 E6 E7 F0 F1 F2 F3 L0 L1 L2 L3
          have E := E.keep (bdrew hb)
          have F := F.keep (bdrew hb)
          have L := L.keep (bdrew hb)
          have R := R.keep (bdrew hb)
          have HB := Lib.hid (bstep HB.out (bdrew hb))
          clear hb
          obtain ⟨E0, E1, E2, E3, E4, E5, E6, E7⟩ := id E
          obtain ⟨F0, F1, F2, F3, -⟩ := id F
          obtain ⟨L0, L1, L2, L3, -⟩ := id L
          go_upto_region 13 with fail
          go_still_tail 5, (by kernel_rfl)
          repeat still_step
          (try refine wpStill_nil ?_)
          (try change wpList _ _ _ _ _ (World.drew _))
          go_wp2_with fail
          refine (C2.out _).mono ?_
          rintro e w2 ⟨rfl, hb⟩
          clear E0 E1 E2 E3 E4 E5 E6 E7 F0 F1 F2 F3 L0 L1 L2 L3
          have E := E.keep (bdrew hb)
          have F := F.keep (bdrew hb)
          have L := L.keep (bdrew hb)
          have R := R.keep (bdrew hb)
          have HB := Lib.hid (bstep HB.out (bdrew hb))
          clear hb
          obtain ⟨E0, E1, E2, E3, E4, E5, E6, E7⟩ := id E
          obtain ⟨F0, F1, F2, F3, -⟩ := id F
          obtain ⟨L0, L1, L2, L3, -⟩ := id L
          go_wp2_with fail
          have E := E.far (show s ≠ s + 1 + 1 by omega) (.int .i64 (p 3).1) (.int .i64 (p 3).2)
          have F := F.far (show s + 1 ≠ s + 1 + 1 by omega) (.int .i64 (p 3).1) (.int .i64 (p 3).2)
          have R := R.far (show w.heap.size + 1 + 1 ≠ s + 1 + 1 by omega) (.int .i64 (p 3).1) (.int .i64 (p 3).2)
          have L := L.put (.int .i64 (p 3).1) (.int .i64 (p 3).2)
          have HB := Lib.hid (below_set2 HB.out (show w.heap.size ≤ s + 1 + 1 by omega) (.int .i64 (p 3).1) (.int .i64 (p 3).2))
          go_roundg 0
          case measure => have := HM.out; omega
          case rel => exact ⟨4, rfl, rfl, by show _ ∧ _; omega, E, by show At2 _ _ (.int .i64 (exF p 3).1) (.int .i64 (exF p 3).2); rw [Q.out.1]; exact F, by show At2 _ _ (.int .i64 (exL p 3).1) (.int .i64 (exL p 3).2); rw [Q.out.2]; exact L, R, HB⟩
        · obtain ⟨q1, q2⟩ := ext_r200 p HP.out h1 h2
          have C1 := Lib.hid (fun wx => rBefore_p (p 3) (exF p 2) (HP.out _) (ex_in HP.out _).1 _ h1 wx)
          have C2 := Lib.hid (fun wx => rBefore_p (exL p 2) (p 3) (ex_in HP.out _).2 (HP.out _) _ h2 wx)
          have Q := Lib.hid (And.intro q1 q2)
          clear q1 q2 h1 h2
          generalize exF p 2 = ef at *
          generalize exL p 2 = el at *
          go_upto_region 11 with fail
          go_still_tail 5, (by kernel_rfl)
          repeat still_step
          (try refine wpStill_nil ?_)
          (try change wpList _ _ _ _ _ (World.drew _))
          go_wp2_with fail
          refine (C1.out _).mono ?_
          rintro e w1 ⟨rfl, hb⟩
          clear E0 E1 E2 E3 E4 E5 E6 E7 F0 F1 F2 F3 L0 L1 L2 L3
          have E := E.keep (bdrew hb)
          have F := F.keep (bdrew hb)
          have L := L.keep (bdrew hb)
          have R := R.keep (bdrew hb)
          have HB := Lib.hid (bstep HB.out (bdrew hb))
          clear hb
          obtain ⟨E0, E1, E2, E3, E4, E5, E6, E7⟩ := id E
          obtain ⟨F0, F1, F2, F3, -⟩ := id F
          obtain ⟨L0, L1, L2, L3, -⟩ := id L
          go_upto_region 13 with fail
          go_still_tail 5, (by kernel_rfl)
          repeat still_step
          (try refine wpStill_nil ?_)
          (try change wpList _ _ _ _ _ (World.drew _))
          go_wp2_with fail
          refine (C2.out _).mono ?_
          rintro e w2 ⟨rfl, hb⟩
          clear E0 E1 E2 E3 E4 E5 E6 E7 F0 F1 F2 F3 L0 L1 L2 L3
          have E := E.keep (bdrew hb)
          have F := F.keep (bdrew hb)
          have L := L.keep (bdrew hb)
          have R := R.keep (bdrew hb)
          have HB := Lib.hid (bstep HB.out (bdrew hb))
          clear hb
          obtain ⟨E0, E1, E2, E3, E4, E5, E6, E7⟩ := id E
          obtain ⟨F0, F1, F2, F3, -⟩ := id F
          obtain ⟨L0, L1, L2, L3, -⟩ := id L
          go_wp2_with fail
          go_roundg 0
          case measure => have := HM.out; omega
          case rel => exact ⟨4, rfl, rfl, by show _ ∧ _; omega, E, by show At2 _ _ (.int .i64 (exF p 3).1) (.int .i64 (exF p 3).2); rw [Q.out.1]; exact F, by show At2 _ _ (.int .i64 (exL p 3).1) (.int .i64 (exL p 3).2); rw [Q.out.2]; exact L, R, HB⟩
      · change At2 _ _ (.int .i64 (exF p 3).1) (.int .i64 (exF p 3).2) at F
        change At2 _ _ (.int .i64 (exL p 3).1) (.int .i64 (exL p 3).2) at L
        obtain ⟨F0, F1, F2, F3, -⟩ := id F
        obtain ⟨L0, L1, L2, L3, -⟩ := id L
        generalize exF p 3 = ef at *
        generalize exL p 3 = el at *
        go_wp2_with fail
        refine (AF.out _).mono ?_
        rintro e w4 ⟨rfl, hb⟩
        clear F0 F1 F2 F3 L0 L1 L2 L3
        have L := L.keep hb
        have R := R.keep hb
        have HB := Lib.hid (bstep HB.out hb)
        clear hb
        obtain ⟨L0, L1, L2, L3, -⟩ := id L
        go_wp2_with fail
        refine (AL.out _).mono ?_
        rintro e w5 ⟨rfl, hb⟩
        have R := R.keep hb
        have HB := Lib.hid (bstep HB.out hb)
        clear hb L0 L1 L2 L3
        obtain ⟨R0, R1, R2, R3, -⟩ := id R
        rcases HX.out with ⟨hx, e1⟩ | ⟨hx, e1⟩ <;> rcases HT.out with ⟨hc, ht⟩ | ⟨hc, ht⟩
        · have hc' : m1 < l0 := by omega
          have et : t = m1 + 21600000 := by rw [ht, e1]
          clear hc ht e1
          go_wp2_with fail
          obtain ⟨z0, z1⟩ := set2 R0 R1 (.int .i64 l0) (.int .i64 (m1 + 21600000))
          refine bodyPost_ret (v := .tuple #[.agg #[.int .i64 l0, .int .i64 (m1 + 21600000)], .int .i64 0]) (by simp [results, Tryd.results7, go_sem, z0, z1]) rfl ⟨by rw [et], ?_⟩
          exact below_set2 HB.out (by omega) _ _
        · have hc' : ¬ m1 < l0 := by omega
          have et : t = m1 := by rw [ht, e1]
          clear hc ht e1
          go_wp2_with fail
          obtain ⟨z0, z1⟩ := set2 R0 R1 (.int .i64 l0) (.int .i64 (m1))
          refine bodyPost_ret (v := .tuple #[.agg #[.int .i64 l0, .int .i64 (m1)], .int .i64 0]) (by simp [results, Tryd.results7, go_sem, z0, z1]) rfl ⟨by rw [et], ?_⟩
          exact below_set2 HB.out (by omega) _ _
        · have hc' : m1 + 1 < l0 := by omega
          have et : t = m1 + 1 + 21600000 := by rw [ht, e1]
          clear hc ht e1
          go_wp2_with fail
          obtain ⟨z0, z1⟩ := set2 R0 R1 (.int .i64 l0) (.int .i64 (m1 + 1 + 21600000))
          refine bodyPost_ret (v := .tuple #[.agg #[.int .i64 l0, .int .i64 (m1 + 1 + 21600000)], .int .i64 0]) (by simp [results, Tryd.results7, go_sem, z0, z1]) rfl ⟨by rw [et], ?_⟩
          exact below_set2 HB.out (by omega) _ _
        · have hc' : ¬ m1 + 1 < l0 := by omega
          have et : t = m1 + 1 := by rw [ht, e1]
          clear hc ht e1
          go_wp2_with fail
          obtain ⟨z0, z1⟩ := set2 R0 R1 (.int .i64 l0) (.int .i64 (m1 + 1))
          refine bodyPost_ret (v := .tuple #[.agg #[.int .i64 l0, .int .i64 (m1 + 1)], .int .i64 0]) (by simp [results, Tryd.results7, go_sem, z0, z1]) rfl ⟨by rw [et], ?_⟩
          exact below_set2 HB.out (by omega) _ _
end Go.Proofs.YtndcjldnnfhedaaDoor.wd2
