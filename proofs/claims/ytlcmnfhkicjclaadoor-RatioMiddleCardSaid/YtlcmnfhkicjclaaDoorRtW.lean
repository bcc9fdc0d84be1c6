/- Contract of the law's awake: the chapter's examples hold. -/
import Derived.Test.YtlcmnfhkicjclaaDoorRtT
namespace Go.Proofs.YtlcmnfhkicjclaaDoor
open Go.RowKit
set_option linter.unusedVariables false

/-- the chapter's four fractions -/
def four : List Rat := [Rat.divInt 3 1, Rat.divInt 1 2, Rat.divInt 1 1, Rat.divInt 2 1]
theorem four_pr : four.map pr = [(3, 1), (1, 2), (1, 1), (2, 1)] := by decide +kernel
theorem four_fit : FitAll four := by
  intro q hq
  have : four.all rfit = true := by decide +kernel
  exact List.all_eq_true.1 this q hq
theorem four_sort : sortQ four = [Rat.divInt 1 2, Rat.divInt 1 1, Rat.divInt 2 1, Rat.divInt 3 1] := by
  refine (sortQ_unique ?_ ?_).symm
  · decide +kernel
  · decide +kernel
theorem four_med : medN (sortQ four) = 3 ∧ medD (sortQ four) = 2 ∧ medE (sortQ four) = 0 := by
  rw [four_sort]; decide +kernel
theorem four_mean : mnN (mean four) 4 = 13 ∧ mnD (mean four) 4 = 8 ∧ mnE (mean four) 4 = 0 := by decide +kernel
theorem four_row (w : World) (T : Nat) : SlP (w.alloc (.cells #[.int .i64 3, .int .i64 1, .int .i64 1, .int .i64 2, .int .i64 1, .int .i64 1, .int .i64 2, .int .i64 1] T)) (some ⟨w.heap.size, 0, none⟩) 4 (four.map pr) := by
  rw [four_pr]
  refine ⟨rfl, by unfold maxLen; omega, fun _ => ⟨_, 0, rfl, by simp, ?_⟩⟩
  intro j hj
  match j, hj with
  | 0, _ => exact ⟨by rw [World.cell?_alloc_new]; rfl, by rw [World.cell?_alloc_new]; rfl⟩
  | 1, _ => exact ⟨by rw [World.cell?_alloc_new]; rfl, by rw [World.cell?_alloc_new]; rfl⟩
  | 2, _ => exact ⟨by rw [World.cell?_alloc_new]; rfl, by rw [World.cell?_alloc_new]; rfl⟩
  | 3, _ => exact ⟨by rw [World.cell?_alloc_new]; rfl, by rw [World.cell?_alloc_new]; rfl⟩

set_option maxRecDepth 100000 in
set_option maxHeartbeats 4000000 in
theorem awake_any (w : World) (htab : Lib.TabIs Tryd.prog w "internal/strconv.uint64pow10" .u64 Lib.pow10Tab) :
    Calls Tryd.prog 12 #[] w fun e w' => e = .returned (.bool true) ∧ Below w.heap.size w w' := by
  have CMake : Hid (∀ wx, Calls Tryd.prog 13 #[.int .i64 6, .int .i64 (-4)] wx fun e w' => e = .returned (.tuple #[.agg #[.int .i64 (-3), .int .i64 2], .int .i64 0]) ∧ Below wx.heap.size wx w') := by
    intro wx
    have := Make_any 6 (-4) wx (by omega) (by omega) (by omega) (by omega) (by omega)
    rw [show rN (Rat.divInt 6 (-4)) = -3 by decide +kernel, show rD (Rat.divInt 6 (-4)) = 2 by decide +kernel, show rE (Rat.divInt 6 (-4)) = 0 by decide +kernel] at this
    exact this
  have CBig : Hid (∀ wx, Calls Tryd.prog 13 #[.int .i64 1, .int .i64 1073741825] wx fun e w' => e = .returned (.tuple #[.agg #[.int .i64 0, .int .i64 0], .int .i64 5]) ∧ Below wx.heap.size wx w') := by
    intro wx
    have := Make_any 1 1073741825 wx (by omega) (by omega) (by omega) (by omega) (by omega)
    rw [show rN (Rat.divInt 1 1073741825) = 0 by decide +kernel, show rD (Rat.divInt 1 1073741825) = 0 by decide +kernel, show rE (Rat.divInt 1 1073741825) = 5 by decide +kernel] at this
    exact this
  have CF := Lib.hid (fun wx => pFloor (-3) 2 wx (by decide +kernel))
  rw [show (-3 : Int) / 2 = -2 by decide] at CF
  have CR := Lib.hid (fun wx => pRound (-3) 2 wx (by decide +kernel))
  rw [show (2 * (-3) + 2 : Int) / (2 * 2) = -1 by decide] at CR
  have CT : Hid (∀ wx, Below w.heap.size w wx → Calls Tryd.prog 39 #[.agg #[.int .i64 (-3), .int .i64 2]] wx fun e w' => e = .returned (.tuple #[.string ⟨#[45, 51, 47, 50]⟩, .int .i64 0]) ∧ Below wx.heap.size wx w') := by
    intro wx hb
    have := text_ok (-3) 2 wx (by decide +kernel) (Lib.tabBelow_of_tabIs htab wx hb)
    have e : ba (rtx (-3) 2) = ⟨#[45, 51, 47, 50]⟩ := by
      unfold rtx Lib.itoa
      rw [if_neg (by decide), if_pos (by decide), if_neg (by decide), dec_small (by decide), dec_small (by decide)]
      rfl
    rw [e] at this
    exact this
  have CA : Hid (∀ wx, Calls Tryd.prog 17 #[.agg #[.int .i64 1, .int .i64 2], .agg #[.int .i64 1, .int .i64 3]] wx fun e w' => e = .returned (.tuple #[.agg #[.int .i64 5, .int .i64 6], .int .i64 0]) ∧ Below wx.heap.size wx w') := by
    intro wx
    have := pAdd (Rat.divInt 1 2) (Rat.divInt 1 3) wx (by decide +kernel) (by decide +kernel)
    rw [show rN (Rat.divInt 1 2 + Rat.divInt 1 3) = 5 by decide +kernel, show rD (Rat.divInt 1 2 + Rat.divInt 1 3) = 6 by decide +kernel, show rE (Rat.divInt 1 2 + Rat.divInt 1 3) = 0 by decide +kernel, show (Rat.divInt 1 2).num = 1 by decide +kernel, show ((Rat.divInt 1 2).den : Int) = 2 by decide +kernel, show (Rat.divInt 1 3).num = 1 by decide +kernel, show ((Rat.divInt 1 3).den : Int) = 3 by decide +kernel] at this
    exact this
  have CMed : Hid (∀ wx g, SlP wx (some ⟨g, 0, none⟩) 4 (four.map pr) → Calls Tryd.prog 32 #[.slice (some ⟨g, 0, none⟩) 4 4] wx fun e w' => e = .returned (.tuple #[.agg #[.int .i64 3, .int .i64 2], .int .i64 0]) ∧ Below wx.heap.size wx w') := by
    intro wx g h
    have := median_ok _ 4 4 four wx four_fit (by omega) (by omega) h
    rw [four_med.1, four_med.2.1, four_med.2.2] at this
    exact this
  have CMn : Hid (∀ wx g, SlP wx (some ⟨g, 0, none⟩) 4 (four.map pr) → Calls Tryd.prog 33 #[.slice (some ⟨g, 0, none⟩) 4 4] wx fun e w' => e = .returned (.tuple #[.agg #[.int .i64 13, .int .i64 8], .int .i64 0]) ∧ Below wx.heap.size wx w') := by
    intro wx g h
    have := mean_ok _ 4 4 four wx four_fit (by omega) (by omega) h (by omega) (by unfold maxLen; omega)
    rw [four_mean.1, four_mean.2.1, four_mean.2.2] at this
    exact this
  clear htab
  go_enter Tryd.func12, Tryd.ntmps12
  go_wp2_with fail
  refine (CMake.out _).mono ?_
  rintro e w1 ⟨rfl, hb⟩
  have HB := Lib.hid (bstep hb (below1 w1 (.cells #[.int .i64 (-3), .int .i64 2] 24)))
  have A := At2.new w1 (.int .i64 (-3)) (.int .i64 2) 24
  clear hb
  go_wp2_with fail
  refine (CF.out _).mono ?_
  rintro e w2 ⟨rfl, hb⟩
  have A := A.keep hb
  have HB := Lib.hid (bstep HB.out hb)
  clear hb
  obtain ⟨p0, p1, _, _, _⟩ := id A
  go_wp2_with fail
  refine (CR.out _).mono ?_
  rintro e w3 ⟨rfl, hb⟩
  have A := A.keep hb
  have HB := Lib.hid (bstep HB.out hb)
  clear hb p0 p1
  obtain ⟨p0, p1, _, _, _⟩ := id A
  go_wp2_with fail
  refine (CT.out _ HB.out).mono ?_
  rintro e w4 ⟨rfl, hb⟩
  have A := A.keep hb
  have HB := Lib.hid (bstep HB.out hb)
  clear hb p0 p1
  go_wp2_with fail
  refine (CA.out _).mono ?_
  rintro e w5 ⟨rfl, hb⟩
  have A := (A.keep hb).alloc (.cells #[.int .i64 5, .int .i64 6] 24)
  have B := At2.new w5 (.int .i64 5) (.int .i64 6) 24
  have HB := Lib.hid (bstep (bstep HB.out hb) (below1 w5 (.cells #[.int .i64 5, .int .i64 6] 24)))
  clear hb
  go_wp2_with fail
  refine (CBig.out _).mono ?_
  rintro e w6 ⟨rfl, hb⟩
  have A := (A.keep hb).alloc (.cells #[.int .i64 0, .int .i64 0] 24)
  have B := (B.keep hb).alloc (.cells #[.int .i64 0, .int .i64 0] 24)
  have HB := Lib.hid (bstep (bstep HB.out hb) (below1 w6 (.cells #[.int .i64 0, .int .i64 0] 24)))
  clear hb
  have R := four_row (w6.alloc (.cells #[.int .i64 0, .int .i64 0] 24)) 24
  have A := A.alloc (.cells #[.int .i64 3, .int .i64 1, .int .i64 1, .int .i64 2, .int .i64 1, .int .i64 1, .int .i64 2, .int .i64 1] 24)
  have B := B.alloc (.cells #[.int .i64 3, .int .i64 1, .int .i64 1, .int .i64 2, .int .i64 1, .int .i64 1, .int .i64 2, .int .i64 1] 24)
  have HB := Lib.hid (bstep HB.out (below1 _ (.cells #[.int .i64 3, .int .i64 1, .int .i64 1, .int .i64 2, .int .i64 1, .int .i64 1, .int .i64 2, .int .i64 1] 24)))
  rw [show (w6.alloc (.cells #[.int .i64 0, .int .i64 0] 24)).heap.size = w6.heap.size + 1 by simp] at R
  have HR := Lib.hid R
  clear R
  go_wp2_with fail
  refine (CMed.out _ (w6.heap.size + 1) HR.out).mono ?_
  rintro e w7 ⟨rfl, hb⟩
  have HR := Lib.hid ((HR.out.keep hb).keep (below1 w7 (.cells #[.int .i64 3, .int .i64 2] 24)))
  have A := (A.keep hb).alloc (.cells #[.int .i64 3, .int .i64 2] 24)
  have B := (B.keep hb).alloc (.cells #[.int .i64 3, .int .i64 2] 24)
  have D := At2.new w7 (.int .i64 3) (.int .i64 2) 24
  have HB := Lib.hid (bstep (bstep HB.out hb) (below1 w7 (.cells #[.int .i64 3, .int .i64 2] 24)))
  clear hb
  go_wp2_with fail
  refine (CMn.out _ (w6.heap.size + 1) HR.out).mono ?_
  rintro e w8 ⟨rfl, hb⟩
  have A := (A.keep hb).alloc (.cells #[.int .i64 13, .int .i64 8] 24)
  have B := (B.keep hb).alloc (.cells #[.int .i64 13, .int .i64 8] 24)
  have D := (D.keep hb).alloc (.cells #[.int .i64 13, .int .i64 8] 24)
  have HB := Lib.hid (bstep (bstep HB.out hb) (below1 w8 (.cells #[.int .i64 13, .int .i64 8] 24)))
  clear hb HR
  obtain ⟨a0, a1, _, _, _⟩ := A
  obtain ⟨b0, b1, _, _, _⟩ := B
  obtain ⟨d0, d1, _, _, _⟩ := D
  go_wp2_with fail
  go_ret
  exact ⟨rfl, HB.out⟩
end Go.Proofs.YtlcmnfhkicjclaaDoor
