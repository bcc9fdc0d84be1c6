/- Arctrig: the reference's Side as one contract; direction. -/
import Derived.Test.YtndcjldnnfhedaaDoorArYh
import Derived.Test.YtndcjldnnfhedaaDoorArYj
import Derived.Test.YtndcjldnnfhedaaDoorArYc
import Derived.BigQuiet
namespace Go.Proofs.YtndcjldnnfhedaaDoor.wd2
open Go.RowKit
set_option linter.unusedVariables false
set_option maxRecDepth 100000

theorem side_any (n X Y : Int) (h0 : 0 ≤ n) (h1 : n ≤ 5400000) (x0 : 0 < X) (x1 : X ≤ 2147483648) (y0 : 0 ≤ Y) (y1 : Y ≤ 2147483648) (w : World) :
    Calls Tryd.prog 54 #[.int .i64 n, .int .i64 X, .int .i64 Y] w fun e w' => e = .returned (.int .i64 (L6.sd n X Y)) ∧ Below w.heap.size w w' := by
  by_cases hn : n % 2700000 = 0
  · rcases (show n = 0 ∨ n = 2700000 ∨ n = 5400000 by omega) with h | h | h <;> subst h
    · exact side_0 X Y x0 x1 y0 y1 w
    · exact side_mid X Y x0 x1 y0 y1 w
    · exact side_q X Y x0 x1 y0 y1 w
  · exact side_other n X Y h0 h1 hn x0 x1 y0 y1 w
set_option maxHeartbeats 4000000 in
theorem direction_any (X Y : Int) (w : World) :
    Calls Tryd.prog 53 #[.agg #[.int .i64 X, .int .i64 Y]] w fun e w' => ∃ n : Int, e = .returned (.int .i64 n) ∧ (0 ≤ n ∧ n ≤ 5399999) ∧ Below w.heap.size w w' := by
  have P0 := At2.new w (.int .i64 X) (.int .i64 Y) 57
  have H0 := Lib.hid (below1 w (.cells #[.int .i64 X, .int .i64 Y] 57))
  have HP := Lib.hid P0
  clear P0
  go_enter Tryd.func53, Tryd.ntmps53
  go_wp2_with fail
  go_loopg [3, 4] 5399999 (fun mm v3 v4 wr => ∃ lo hi : Int, v3 = .int .i64 lo ∧ v4 = .int .i64 hi ∧ 0 ≤ lo ∧ lo ≤ hi ∧ hi ≤ 5399999 ∧ Hid (mm = (hi - lo).toNat) ∧ Hid (At2 wr w.heap.size (.int .i64 X) (.int .i64 Y)) ∧ Hid (Below w.heap.size w wr))
  case atStart => exact ⟨0, 5399999, rfl, rfl, by omega, by omega, by omega, rfl, HP, H0⟩
  case round =>
    clear HP H0
    obtain ⟨lo, hi, rfl, rfl, l0, lh, hh, HM, HP, HB⟩ := hrel
    by_cases c : lo < hi
    · have A := HP.out
      obtain ⟨A0, A1, -, -, -⟩ := id A
      obtain ⟨m, hm⟩ : ∃ m, lo + (hi - lo + 1) / 2 = m := ⟨_, rfl⟩
      have m0 : lo < m := by omega
      have m1 : m ≤ hi := by omega
      obtain ⟨r1, a1, a2, R1⟩ := roughd_any m (by omega) (by omega)
      obtain ⟨r2, a3, a4, R2⟩ := roughd_any (5400000 - m) (by omega) (by omega)
      have C1 := Lib.hid R1
      have C2 := Lib.hid R2
      have zw := i64_is (x := 5400000 - m) (by omega) (by omega)
      have A9 := HP
      clear A HP a1 a2 a3 a4 R1 R2
      go_upto_region 5 with fail
      go_quiet (first | (go_at_call 68; first | (with_reducible refine Calls.quiet_of_same (C1.out _)) | (with_reducible refine Calls.quiet_of_same (C2.out _))))
      generalize wrap64 (X * r1) = u
      generalize wrap64 (Y * r2) = v
      clear zw
      by_cases cc : u ≤ v
      · go_wp2_with fail
        go_roundg (hi - m).toNat
        case measure => have := HM.out; omega
        case rel => exact ⟨m, hi, rfl, rfl, by omega, by omega, hh, rfl, A9.out.keep (below_drewN _ _ _), bstep HB.out (below_drewN _ _ _)⟩
      · go_wp2_with fail
        go_roundg (m - 1 - lo).toNat
        case measure => have := HM.out; omega
        case rel => exact ⟨lo, m - 1, rfl, rfl, by omega, by omega, by omega, rfl, A9.out.keep (below_drewN _ _ _), bstep HB.out (below_drewN _ _ _)⟩
    · have e : lo = hi := by omega
      subst e
      go_wp2_with fail
      go_ret
      exact ⟨_, rfl, ⟨l0, hh⟩, HB.out⟩
end Go.Proofs.YtndcjldnnfhedaaDoor.wd2
