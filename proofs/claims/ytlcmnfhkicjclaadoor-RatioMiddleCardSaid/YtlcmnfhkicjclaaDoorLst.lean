/- The walk of almucantarlaw03.RatioLists. -/
import Derived.Test.YtlcmnfhkicjclaaDoorRsE
import Derived.Test.YtlcmnfhkicjclaaDoorRtW
namespace Go.Proofs.YtlcmnfhkicjclaaDoor
open Go.RowKit
set_option linter.unusedVariables false

set_option maxRecDepth 100000 in
set_option maxHeartbeats 4000000 in
theorem lst_run (A : Option Addr) (n c : Nat) (zs : List (Int × Int)) (w : World) (htab : Lib.TabIs Tryd.prog w "internal/strconv.uint64pow10" .u64 Lib.pow10Tab) (h : SlP w A n zs) (hA : ∀ a, A = some a → a.spot = none) (hn : n ≤ 40 ∨ 1000 < n) (hm : n ≤ 3000) (x y z x2 y2 z2 : Int)
    (c1 : ∀ wx, Below w.heap.size w wx → Calls Tryd.prog 32 #[.slice A n c] wx fun e w' => e = .returned (.tuple #[.agg #[.int .i64 x, .int .i64 y], .int .i64 z]) ∧ Below wx.heap.size wx w')
    (c2 : ∀ wx, Below w.heap.size w wx → Calls Tryd.prog 33 #[.slice A n c] wx fun e w' => e = .returned (.tuple #[.agg #[.int .i64 x2, .int .i64 y2], .int .i64 z2]) ∧ Below wx.heap.size wx w')
    (c3 : ∀ wx, Below w.heap.size w wx → Calls Tryd.prog 34 #[.slice A n c] wx fun e w' => e = .returned (.tuple #[.agg #[.int .i64 x, .int .i64 y], .int .i64 z]) ∧ Below wx.heap.size wx w')
    (c4 : ∀ wx, Below w.heap.size w wx → Calls Tryd.prog 35 #[.slice A n c] wx fun e w' => e = .returned (.tuple #[.agg #[.int .i64 x2, .int .i64 y2], .int .i64 z2]) ∧ Below wx.heap.size wx w') :
    Calls Tryd.prog 6 #[.slice A n c] w fun e w' => e = .returned (.bool true) ∧ Below w.heap.size w w' := by
  have CA := Lib.hid (fun wx (hb : Below w.heap.size w wx) => awake_any wx (Lib.tabBelow_of_tabIs htab wx hb))
  have C1 := Lib.hid c1
  have C2 := Lib.hid c2
  have C3 := Lib.hid c3
  have C4 := Lib.hid c4
  have CC := Lib.hid (fun wx (hb : Below w.heap.size w wx) => clone_all zs A n c wx (h.keep hb) hm hA)
  have CE := Lib.hid (fun A' c' wx (hb : Below w.heap.size w wx) (h' : SlP wx A' n zs) => equal_all zs A A' n c c' wx (h.keep hb) h')
  have k3 : ¬ (3000 : Int) < (n : Int) := by omega
  have kz : (n : Int) ≤ 3000 := by omega
  clear htab c1 c2 c3 c4 h hA hm
  rcases hn with hn | hn
  all_goals
    first
    | (have k1 : ¬ (40 : Int) < (n : Int) := by omega)
    | (have k1 : (40 : Int) < (n : Int) := by omega
       have k2 : ¬ (n : Int) ≤ 1000 := by omega)
    clear hn
    go_enter Tryd.func6, Tryd.ntmps6
    have HB := Lib.hid (Below.refl w.heap.size w)
    go_wp2_with fail
    refine (CA.out _ HB.out).mono ?_
    rintro e w1 ⟨rfl, hb⟩
    have HB := Lib.hid (bstep HB.out hb)
    clear hb
    go_wp2_with fail
    refine (CC.out _ HB.out).mono ?_
    rintro e w2 ⟨A', c', rfl, hs, hb⟩
    have HB := Lib.hid (bstep HB.out hb)
    have HS := Lib.hid hs
    clear hb hs
    go_wp2_with fail
    refine (C1.out _ HB.out).mono ?_
    rintro e w3 ⟨rfl, hb⟩
    have HB := Lib.hid (bstep (bstep HB.out hb) (below1 w3 (.cells #[.int .i64 x, .int .i64 y] 24)))
    have HS := Lib.hid ((HS.out.keep hb).keep (below1 w3 (.cells #[.int .i64 x, .int .i64 y] 24)))
    have X := At2.new w3 (.int .i64 x) (.int .i64 y) 24
    clear hb
    go_wp2_with fail
    refine (C2.out _ HB.out).mono ?_
    rintro e w4 ⟨rfl, hb⟩
    have HB := Lib.hid (bstep (bstep HB.out hb) (below1 w4 (.cells #[.int .i64 x2, .int .i64 y2] 24)))
    have HS := Lib.hid ((HS.out.keep hb).keep (below1 w4 (.cells #[.int .i64 x2, .int .i64 y2] 24)))
    have X := (X.keep hb).alloc (.cells #[.int .i64 x2, .int .i64 y2] 24)
    have Y := At2.new w4 (.int .i64 x2) (.int .i64 y2) 24
    clear hb
    go_wp2_with fail
    refine (C3.out _ HB.out).mono ?_
    rintro e w5 ⟨rfl, hb⟩
    have HB := Lib.hid (bstep (bstep HB.out hb) (below1 w5 (.cells #[.int .i64 x, .int .i64 y] 24)))
    have HS := Lib.hid ((HS.out.keep hb).keep (below1 w5 (.cells #[.int .i64 x, .int .i64 y] 24)))
    have X := (X.keep hb).alloc (.cells #[.int .i64 x, .int .i64 y] 24)
    have Y := (Y.keep hb).alloc (.cells #[.int .i64 x, .int .i64 y] 24)
    have Z := At2.new w5 (.int .i64 x) (.int .i64 y) 24
    clear hb
    go_wp2_with fail
    refine (C4.out _ HB.out).mono ?_
    rintro e w6 ⟨rfl, hb⟩
    have HB := Lib.hid (bstep (bstep HB.out hb) (below1 w6 (.cells #[.int .i64 x2, .int .i64 y2] 24)))
    have HS := Lib.hid ((HS.out.keep hb).keep (below1 w6 (.cells #[.int .i64 x2, .int .i64 y2] 24)))
    have X := (X.keep hb).alloc (.cells #[.int .i64 x2, .int .i64 y2] 24)
    have Y := (Y.keep hb).alloc (.cells #[.int .i64 x2, .int .i64 y2] 24)
    have Z := (Z.keep hb).alloc (.cells #[.int .i64 x2, .int .i64 y2] 24)
    have V := At2.new w6 (.int .i64 x2) (.int .i64 y2) 24
    clear hb
    obtain ⟨f00, f01, _, _, _⟩ := id X
    obtain ⟨f10, f11, _, _, _⟩ := id Y
    obtain ⟨f20, f21, _, _, _⟩ := id Z
    obtain ⟨f30, f31, _, _, _⟩ := id V
    clear X Y Z V
    go_wp2_with fail
    refine (CE.out _ _ _ HB.out HS.out).mono ?_
    rintro e w7 ⟨rfl, hb⟩
    have HB := Lib.hid (bstep HB.out hb)
    clear hb f00 f01 f10 f11 f20 f21 f30 f31
    go_wp2_with fail
    go_ret
    exact ⟨rfl, HB.out⟩
end Go.Proofs.YtlcmnfhkicjclaaDoor
