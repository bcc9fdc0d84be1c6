/- Arctrig: the reference's floor. -/
import Derived.Test.YtndcjldnnfhedaaDoorArYk
namespace Go.Proofs.YtndcjldnnfhedaaDoor.wd2
open Go.RowKit
set_option linter.unusedVariables false
set_option maxRecDepth 100000

set_option maxHeartbeats 4000000 in
theorem floor_any (X Y : Int) (x0 : 0 < X) (x1 : X ≤ 2147483648) (y0 : 0 ≤ Y) (y1 : Y ≤ 2147483648) (w : World) :
    Calls Tryd.prog 40 #[.agg #[.int .i64 X, .int .i64 Y]] w fun e w' => e = .returned (.tuple #[.int .i64 (L6.gN X Y), .bool (L6.sd (L6.gN X Y) X Y == 0)]) ∧ Below w.heap.size w w' := by
  have P0 := At2.new w (.int .i64 X) (.int .i64 Y) 57
  obtain ⟨A0, A1, -, -, -⟩ := id P0
  have HP := Lib.hid P0
  have SA := Lib.hid (fun (n : Int) (h0 : 0 ≤ n) (h1 : n ≤ 5400000) (wx : World) => side_any n X Y h0 h1 x0 x1 y0 y1 wx)
  have S0 : Hid (L6.sd 0 X Y ≤ 0) := by
    show _ ≤ _
    rw [L6.sd_zero]
    rcases Int.lt_or_le 0 Y with h | h
    · rw [Int.sign_eq_neg_one_of_neg (by omega)]; decide
    · rw [show Y = 0 by omega]; decide
  have S9 : Hid (0 < L6.sd 5400000 X Y) := by
    show _ < _
    rw [L6.sd_quarter, Int.sign_eq_one_of_pos x0]; decide
  have GE := Lib.hid (fun (n : Int) (h : L6.IsG n X Y) => L6.gN_eq x0 x1 y0 y1 h)
  clear P0
  go_enter Tryd.func40, Tryd.ntmps40
  go_wp2_with fail
  refine (direction_any X Y _).mono ?_
  rintro e w1 ⟨n0, rfl, ⟨hn0, hn1⟩, hb⟩
  have HB := Lib.hid (bstep (below1 w (.cells #[.int .i64 X, .int .i64 Y] 57)) hb)
  have HP := Lib.hid (HP.out.keep hb)
  clear hb A0 A1
  go_wp2_with fail
  go_loopg [4] n0.toNat (fun mm v4 wr => ∃ lo : Int, v4 = .int .i64 lo ∧ 0 ≤ lo ∧ lo ≤ 5399999 ∧ Hid (mm = lo.toNat) ∧ Hid (At2 wr w.heap.size (.int .i64 X) (.int .i64 Y)) ∧ Hid (Below w.heap.size w wr))
  case atStart => exact ⟨n0, rfl, hn0, hn1, rfl, HP, HB⟩
  case round =>
    clear HP HB hn0 hn1
    obtain ⟨lo, rfl, l0, l1, HM, HP, HB⟩ := hrel
    obtain ⟨A0, A1, -, -, -⟩ := id HP.out
    have C := SA.out lo l0 (by omega) wr
    obtain ⟨s, hs⟩ : ∃ s, L6.sd lo X Y = s := ⟨_, rfl⟩
    rw [hs] at C
    have S := Lib.hid hs
    have HC := Lib.hid C
    clear hs C
    by_cases c : s > 0
    · have l2 : 1 ≤ lo := by
        rcases (show lo = 0 ∨ 1 ≤ lo by omega) with h | h
        · subst h
          have a := S0.out
          have b := S.out
          omega
        · exact h
      go_wp2_with fail
      refine HC.out.mono ?_
      rintro e w2 ⟨rfl, hb⟩
      have HB := Lib.hid (bstep HB.out hb)
      have HP := Lib.hid (HP.out.keep hb)
      clear hb A0 A1
      go_wp2_with fail
      go_roundg (lo - 1).toNat
      case measure => have := HM.out; omega
      case rel => exact ⟨lo - 1, rfl, by omega, by omega, rfl, HP, HB⟩
    · go_wp2_with fail
      refine HC.out.mono ?_
      rintro e w2 ⟨rfl, hb⟩
      have HB := Lib.hid (bstep HB.out hb)
      have HP := Lib.hid (HP.out.keep hb)
      have ST : Hid (L6.sd lo X Y ≤ 0) := by have := S.out; show _ ≤ _; omega
      clear hb A0 A1 HC S
      go_wp2_with fail
      go_loopg [4] (5399999 - lo).toNat (fun mm v4 wr => ∃ lo : Int, v4 = .int .i64 lo ∧ 0 ≤ lo ∧ lo ≤ 5399999 ∧ Hid (L6.sd lo X Y ≤ 0) ∧ Hid (mm = (5399999 - lo).toNat) ∧ Hid (At2 wr w.heap.size (.int .i64 X) (.int .i64 Y)) ∧ Hid (Below w.heap.size w wr))
      case atStart => exact ⟨lo, rfl, l0, l1, ST, rfl, HP, HB⟩
      case round =>
        clear HP HB ST HM c l0 l1
        obtain ⟨lx, rfl, l0, l1, ST, HM, HP, HB⟩ := hrel
        obtain ⟨A0, A1, -, -, -⟩ := id HP.out
        have C := SA.out (lx + 1) (by omega) (by omega) wr
        obtain ⟨s, hs⟩ : ∃ s, L6.sd (lx + 1) X Y = s := ⟨_, rfl⟩
        rw [hs] at C
        have S := Lib.hid hs
        have HC := Lib.hid C
        clear hs C
        by_cases c : s ≤ 0
        · have l2 : lx + 1 ≤ 5399999 := by
            rcases (show lx + 1 = 5400000 ∨ lx + 1 ≤ 5399999 by omega) with h | h
            · rw [h] at S
              have a := S9.out
              have b := S.out
              omega
            · exact h
          go_wp2_with fail
          refine HC.out.mono ?_
          rintro e w3 ⟨rfl, hb⟩
          have HB := Lib.hid (bstep HB.out hb)
          have HP := Lib.hid (HP.out.keep hb)
          have ST : Hid (L6.sd (lx + 1) X Y ≤ 0) := by have := S.out; show _ ≤ _; omega
          clear hb A0 A1
          go_wp2_with fail
          go_roundg (5399999 - (lx + 1)).toNat
          case measure => have := HM.out; omega
          case rel => exact ⟨lx + 1, rfl, by omega, by omega, ST, rfl, HP, HB⟩
        · have G : L6.gN X Y = lx := GE.out lx ⟨l0, by omega, ST.out, by have := S.out; omega⟩
          have HG := Lib.hid G
          clear G
          go_wp2_with fail
          refine HC.out.mono ?_
          rintro e w3 ⟨rfl, hb⟩
          have HB := Lib.hid (bstep HB.out hb)
          have HP := Lib.hid (HP.out.keep hb)
          clear hb A0 A1
          obtain ⟨A0, A1, -, -, -⟩ := id HP.out
          have C := SA.out lx (by omega) (by omega) w3
          obtain ⟨t, ht⟩ : ∃ t, L6.sd lx X Y = t := ⟨_, rfl⟩
          rw [ht] at C
          have HT := Lib.hid ht
          have HC := Lib.hid C
          clear ht C
          go_wp2_with fail
          refine HC.out.mono ?_
          rintro e w4 ⟨rfl, hb⟩
          have HB := Lib.hid (bstep HB.out hb)
          clear hb
          go_wp2_with fail
          go_ret2
          exact ⟨by rw [HG.out, HT.out]; rfl, HB.out⟩
end Go.Proofs.YtndcjldnnfhedaaDoor.wd2
