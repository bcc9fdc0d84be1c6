/- Arctrig: the reference's Side. -/
import Derived.Test.YtndcjldnnfhedaaDoorArYg
import Derived.Test.YtndcjldnnfhedaaDoorArYb
import Derived.RegionTactic
import Derived.Deep.RegionHeld3
namespace Go.Proofs.YtndcjldnnfhedaaDoor.wd2
open Go.RowKit
set_option linter.unusedVariables false
set_option maxRecDepth 100000

set_option maxHeartbeats 2000000 in
theorem side_0 (X Y : Int) (x0 : 0 < X) (x1 : X ≤ 2147483648) (y0 : 0 ≤ Y) (y1 : Y ≤ 2147483648) (w : World) :
    Calls Tryd.prog 54 #[.int .i64 0, .int .i64 X, .int .i64 Y] w fun e w' => e = .returned (.int .i64 (L6.sd 0 X Y)) ∧ Below w.heap.size w w' := by
  rw [L6.sd_zero]
  have C := Lib.hid (fun wx => rSign (-Y) wx)
  go_enter Tryd.func54, Tryd.ntmps54
  go_upto_region 7 with fail
  go_region
  all_goals
    go_wp2_with fail
    refine (C.out _).mono ?_
    rintro e w1 ⟨rfl, rfl⟩
    go_wp2_with fail
    go_ret
    exact ⟨ret_int (by simp), by first | exact ((Below.refl _ _).alloc (Nat.le_refl _) _).drew | exact (Below.refl _ _).alloc (Nat.le_refl _) _⟩
set_option maxHeartbeats 2000000 in
theorem side_mid (X Y : Int) (x0 : 0 < X) (x1 : X ≤ 2147483648) (y0 : 0 ≤ Y) (y1 : Y ≤ 2147483648) (w : World) :
    Calls Tryd.prog 54 #[.int .i64 2700000, .int .i64 X, .int .i64 Y] w fun e w' => e = .returned (.int .i64 (L6.sd 2700000 X Y)) ∧ Below w.heap.size w w' := by
  rw [L6.sd_mid]
  have C := Lib.hid (fun wx => rSign (X - Y) wx)
  go_enter Tryd.func54, Tryd.ntmps54
  go_upto_region 7 with fail
  go_region
  all_goals
    go_wp2_with fail
    refine (C.out _).mono ?_
    rintro e w1 ⟨rfl, rfl⟩
    go_wp2_with fail
    go_ret
    exact ⟨ret_int (by simp), by first | exact ((Below.refl _ _).alloc (Nat.le_refl _) _).drew | exact (Below.refl _ _).alloc (Nat.le_refl _) _⟩
set_option maxHeartbeats 2000000 in
theorem side_q (X Y : Int) (x0 : 0 < X) (x1 : X ≤ 2147483648) (y0 : 0 ≤ Y) (y1 : Y ≤ 2147483648) (w : World) :
    Calls Tryd.prog 54 #[.int .i64 5400000, .int .i64 X, .int .i64 Y] w fun e w' => e = .returned (.int .i64 (L6.sd 5400000 X Y)) ∧ Below w.heap.size w w' := by
  rw [L6.sd_quarter]
  have C := Lib.hid (fun wx => rSign (X) wx)
  go_enter Tryd.func54, Tryd.ntmps54
  go_upto_region 7 with fail
  go_region
  all_goals
    go_wp2_with fail
    refine (C.out _).mono ?_
    rintro e w1 ⟨rfl, rfl⟩
    go_wp2_with fail
    go_ret
    exact ⟨ret_int (by simp), by first | exact ((Below.refl _ _).alloc (Nat.le_refl _) _).drew | exact (Below.refl _ _).alloc (Nat.le_refl _) _⟩
end Go.Proofs.YtndcjldnnfhedaaDoor.wd2
