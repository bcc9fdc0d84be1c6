/- The examples of the chapter hold: awake returns true. -/
import Derived.Test.YtjpjgohomajlpaaDoorTokE
import Derived.Test.YtjpjgohomajlpaaDoorDecJ
namespace Go.Proofs.YtjpjgohomajlpaaDoor
open Go.RowKit
set_option linter.unusedVariables false

def exText : ByteArray := ⟨#[52, 49, 45, 50, 51, 46, 52, 78, 32, 35, 32, 100, 114]⟩
theorem ex1 : decT (-1234) 2 = [45, 49, 50, 46, 51, 52] := by decide +kernel
theorem ex2 : pErr [49, 50, 46, 51] 2 = 0 ∧ pVal [49, 50, 46, 51] 2 = 1230 := by decide +kernel
theorem ex3 : rdErr 149 151 100 = 24 := by decide +kernel
theorem ex4 : rErr 149 151 100 = 0 ∧ ¬ near 149 100 = near 151 100 ∧ prText 149 151 100 1 = [48, 46, 49, 32, 46, 46, 32, 48, 46, 50] := by decide +kernel
def exTs : List Tok := [⟨2, [52, 49], 1, 1⟩, ⟨3, [45], 1, 3⟩, ⟨2, [50, 51, 46, 52], 1, 4⟩, ⟨1, [78], 1, 8⟩, ⟨5, [], 1, 14⟩]
theorem ex5 : tokTs exText.data.toList = exTs := by rfl
theorem ex6 : tokLine exText.data.toList = 0 ∧ tokCol exText.data.toList = 0 ∧ tokErr exText.data.toList = 0 := by decide +kernel

set_option maxRecDepth 100000 in
set_option maxHeartbeats 1000000 in
theorem awake_any (w : World) (hm : HasMax w) :
    Calls Tryd.prog 4 #[] w fun e w' => e = .returned (.bool true) ∧ Below w.heap.size w w' := by
  have C1 := Lib.hid (fun wx => by have := format_ok (-1234) 2 wx (by decide) (by omega); rw [ex1] at this; exact this)
  have C2 : Hid (∀ wx, HasMax wx → Calls Tryd.prog 12 #[.string ⟨#[49, 50, 46, 51]⟩, .int .i64 2] wx fun e w' => e = .returned (.tuple #[.int .i64 1230, .int .i64 0]) ∧ Below wx.heap.size wx w') := by
    intro wx h
    have := parse_any ⟨#[49, 50, 46, 51]⟩ 2 wx h (by decide) (by omega)
    rw [show (ByteArray.mk #[49, 50, 46, 51]).data.toList = [49, 50, 46, 51] from rfl, ex2.1, ex2.2] at this
    exact this
  have C3 : Hid (∀ wx, Calls Tryd.prog 13 #[.int .i64 149, .int .i64 151, .int .i64 100] wx fun e w' => e = .returned (.tuple #[.int .i64 (rdVal 149 151 100), .int .i64 24]) ∧ wx = w') := by
    intro wx
    have := round_any 149 151 100 wx
    rw [ex3] at this
    exact this
  have C4 : Hid (∀ wx, Calls Tryd.prog 14 #[.int .i64 149, .int .i64 151, .int .i64 100, .int .i64 1] wx fun e w' => e = .returned (.tuple #[.string ⟨#[48, 46, 49, 32, 46, 46, 32, 48, 46, 50]⟩, .int .i64 0]) ∧ Below wx.heap.size wx w') := by
    intro wx
    have := print_ok2 149 151 100 1 wx ex4.1 (by omega) ex4.2.1
    rw [ex4.2.2] at this
    exact this
  have C5 : Hid (∀ wx, Calls Tryd.prog 5 #[.string ⟨#[52, 49, 45, 50, 51, 46, 52, 78, 32, 35, 32, 100, 114]⟩] wx fun e w' => ∃ g cap, e = .returned (.tuple #[.slice (some ⟨g, 0, none⟩) 5 cap, .agg #[.int .i64 0, .int .i64 0], .int .i64 0]) ∧
      w'.ownsRow wx.heap.size 30 4 (.slice (some ⟨g, 0, none⟩) 5 cap) 5 (exTs.flatMap Tok.cells) ∧ Below wx.heap.size wx w') := by
    intro wx
    have := tokens_any exText wx (by decide)
    refine this.mono fun e w' h => ?_
    obtain ⟨v, he, hown, hb⟩ := h
    rw [ex6.1, ex6.2.1, ex6.2.2] at he
    rw [ex5] at hown
    obtain ⟨g, cap, rfl, _, _⟩ := hown.form (by decide)
    exact ⟨g, cap, he, hown, hb⟩
  have HM := Lib.hid hm
  clear hm
  go_enter Tryd.func4, Tryd.ntmps4
  go_wp2_with fail
  refine (C1.out _).mono ?_
  rintro e w1 ⟨rfl, hb1⟩
  have hm1 := HM.out.below hb1
  have HM1 := Lib.hid hm1
  have HB1 := Lib.hid hb1
  clear hm1 hb1
  go_wp2_with fail
  refine (C2.out _ HM1.out).mono ?_
  rintro e w2 ⟨rfl, hb2⟩
  have HB2 := Lib.hid (HB1.out.trans (hb2.mono HB1.out.size))
  clear hb2
  go_wp2_with fail
  refine (C3.out _).mono ?_
  rintro e w3 ⟨rfl, rfl⟩
  go_wp2_with fail
  refine (C4.out _).mono ?_
  rintro e w4 ⟨rfl, hb4⟩
  have HB4 := Lib.hid (HB2.out.trans (hb4.mono HB2.out.size))
  clear hb4
  go_wp2_with fail
  refine (C5.out _).mono ?_
  rintro e w5 ⟨g, cap, rfl, hown, hb5⟩
  have HB5 := Lib.hid (HB4.out.trans (hb5.mono HB4.out.size))
  have hc : ∀ j, j < 20 → w5.cell? ⟨g, j, none⟩ = (exTs.flatMap Tok.cells)[j]? := fun j hj => hown.cellAt j (by omega)
  have k9 : w5.cell? ⟨g, 9, none⟩ = some (.string ⟨#[50, 51, 46, 52]⟩) := hc 9 (by omega)
  have k18 : w5.cell? ⟨g, 18, none⟩ = some (.int .i64 1) := hc 18 (by omega)
  have k19 : w5.cell? ⟨g, 19, none⟩ = some (.int .i64 14) := hc 19 (by omega)
  have hg : g < w5.heap.size := (hown.lt g rfl).2
  clear hc hown hb5
  go_wp2_with fail
  go_ret
  exact ⟨rfl, HB5.out.alloc HB5.out.size _⟩

end Go.Proofs.YtjpjgohomajlpaaDoor
