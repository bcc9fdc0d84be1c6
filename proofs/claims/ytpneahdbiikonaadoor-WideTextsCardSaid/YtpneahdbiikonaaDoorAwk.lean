/- Contract of the law's awake: the chapter's examples hold. -/
import Derived.Test.YtpneahdbiikonaaDoorWdB
import Derived.Test.YtpneahdbiikonaaDoorWdP
import Derived.Test.YtpneahdbiikonaaDoorWdT
namespace Go.Proofs.YtpneahdbiikonaaDoor
open Go.RowKit
set_option linter.unusedVariables false

theorem awake_any (w : World) :
    Calls Tryd.prog 4 #[] w fun e w' => e = .returned (.bool true) ∧ Below w.heap.size w w' := by
  have CP : Hid (∀ wx, Calls Tryd.prog 8 #[.int .i64 1099511627776, .int .i64 (-1099511627776)] wx fun e w' => e = .returned (.tuple #[.agg #[.int .i64 (-1048576), .int .i64 0], .int .i64 0]) ∧ Below wx.heap.size wx w') := by
    intro wx
    have := product_any 1099511627776 (-1099511627776) wx (by omega) (by omega) (by omega) (by omega)
    rw [show fitH (1099511627776 * -1099511627776) = -1048576 by decide, show fitL (1099511627776 * -1099511627776) = 0 by decide, show fitE (1099511627776 * -1099511627776) = 0 by decide] at this
    exact this
  have C7 : Hid (∀ wx, Calls Tryd.prog 10 #[.int .i64 (-7)] wx fun e w' => e = .returned (.agg #[.int .i64 (-1), .int .i64 1152921504606846969]) ∧ Below wx.heap.size wx w') := by
    intro wx
    have := of_any (-7) wx (by omega) (by omega)
    rw [show wh (-7) = -1 by decide, show wl (-7) = 1152921504606846969 by decide] at this
    exact this
  have C1 : Hid (∀ wx, Calls Tryd.prog 10 #[.int .i64 (-1)] wx fun e w' => e = .returned (.agg #[.int .i64 (-1), .int .i64 1152921504606846975]) ∧ Below wx.heap.size wx w') := by
    intro wx
    have := of_any (-1) wx (by omega) (by omega)
    rw [show wh (-1) = -1 by decide, show wl (-1) = 1152921504606846975 by decide] at this
    exact this
  have CF : Hid (∀ wx, Calls Tryd.prog 9 #[.agg #[.int .i64 (-1), .int .i64 1152921504606846969], .int .i64 2] wx fun e w' => e = .returned (.tuple #[.int .i64 (-4), .int .i64 0]) ∧ Below wx.heap.size wx w') := by
    intro wx
    have := floor_any (-1) 1152921504606846969 2 wx (by omega) (by omega)
    rw [show rqV (-1) 1152921504606846969 2 true = -4 by decide, show rqE (-1) 1152921504606846969 2 true = 0 by decide] at this
    exact this
  have CC : Hid (∀ wx, Calls Tryd.prog 11 #[.agg #[.int .i64 (-1), .int .i64 1152921504606846969], .int .i64 2] wx fun e w' => e = .returned (.tuple #[.int .i64 (-3), .int .i64 0]) ∧ Below wx.heap.size wx w') := by
    intro wx
    have := ceil_any (-1) 1152921504606846969 2 wx (by omega) (by omega)
    rw [show rqV (-1) 1152921504606846969 2 false = -3 by decide, show rqE (-1) 1152921504606846969 2 false = 0 by decide] at this
    exact this
  have CR : Hid (∀ wx, Calls Tryd.prog 12 #[.agg #[.int .i64 2097152, .int .i64 0]] wx fun e w' => e = .returned (.tuple #[.int .i64 1554944255987, .int .i64 0]) ∧ Below wx.heap.size wx w') := by
    intro wx
    exact Root_ok 2097152 0 1554944255987 wx (by decide) (by decide) (by decide) (by decide)
  go_enter Tryd.func4, Tryd.ntmps4
  go_wp2_with fail
  refine (CP.out _).mono ?_
  rintro e w1 ⟨rfl, hb1⟩
  have HB1 := Lib.hid hb1
  clear hb1
  go_wp2_with fail
  refine (C7.out _).mono ?_
  rintro e w2 ⟨rfl, hb2⟩
  have A := (At2.new w1 (.int .i64 (-1048576)) (.int .i64 0) 23).keep hb2
  have HB2 := Lib.hid (bstep (bstep HB1.out (below1 w1 _)) hb2)
  clear hb2
  go_wp2_with fail
  refine (CF.out _).mono ?_
  rintro e w3 ⟨rfl, hb3⟩
  have A := A.keep hb3
  have HB3 := Lib.hid (bstep HB2.out hb3)
  clear hb3
  go_wp2_with fail
  refine (C7.out _).mono ?_
  rintro e w4 ⟨rfl, hb4⟩
  have A := A.keep hb4
  have HB4 := Lib.hid (bstep HB3.out hb4)
  clear hb4
  go_wp2_with fail
  refine (CC.out _).mono ?_
  rintro e w5 ⟨rfl, hb5⟩
  have A := A.keep hb5
  have HB5 := Lib.hid (bstep HB4.out hb5)
  clear hb5
  go_wp2_with fail
  refine (CR.out _).mono ?_
  rintro e w6 ⟨rfl, hb6⟩
  have A := A.keep hb6
  have HB6 := Lib.hid (bstep HB5.out hb6)
  clear hb6
  obtain ⟨p0, p1, _, _, _⟩ := id A
  go_wp2_with fail
  refine (C1.out _).mono ?_
  rintro e w7 ⟨rfl, hb7⟩
  have HB7 := Lib.hid (bstep HB6.out hb7)
  clear hb7
  go_wp2_with fail
  go_ret
  exact ⟨rfl, HB7.out⟩
end Go.Proofs.YtpneahdbiikonaaDoor
