/- (door seat) the walk of DecimalJoins. -/
import Derived.Test.YtjpjgohomajlpaaDoorJnF
import Derived.Test.YtjpjgohomajlpaaDoorJnG
import Derived.Deep.LoopGhost
import Derived.Deep.QuietTactic
import Derived.BigQuiet
import Derived.Deep.Draws
import Derived.Lib.Bytes2
namespace Go.Proofs.YtjpjgohomajlpaaDoor
open Go.RowKit
set_option linter.unusedVariables false

theorem isBuilder_drewN {T e : TypeId} {B b : Nat} {bs : List Value} {w : World} (h : Lib.IsBuilder T e B b bs w) (n : Nat) : Lib.IsBuilder T e B b bs (w.drewN n) := h

theorem below_drewN (B : Nat) (w : World) (n : Nat) : Below B w (w.drewN n) := ⟨rfl, rfl, rfl, Nat.le_refl _, fun _ _ => rfl⟩

set_option maxRecDepth 100000 in
set_option maxHeartbeats 20000000 in
theorem walk_skip (a0 : ByteArray) (w0 : a0.size ≤ maxLen) (w : World) (hm : HasMax w) (hl : 400 < a0.size) :
    Calls Tryd.prog 3 #[.string a0] w fun e w' => e = .returned (.bool true) ∧ Below w.heap.size w w' := by
  have HM := Lib.hid hm
  unfold maxLen at w0
  clear hm
  go_enter Tryd.func3, Tryd.ntmps3
  go_wp2_with fail
  refine (awake_any _ HM.out).mono ?_
  rintro e w1 ⟨rfl, hb1⟩
  have HB1 := Lib.hid hb1
  clear hb1
  go_wp2_with fail
  go_ret
  exact ⟨rfl, HB1.out⟩

set_option maxRecDepth 100000 in
set_option maxHeartbeats 20000000 in
theorem walk_err (a0 : ByteArray) (w : World) (hm : HasMax w) (hl : a0.size ≤ 400) (he : tokErr a0.data.toList ≠ 0) :
    Calls Tryd.prog 3 #[.string a0] w fun e w' => e = .returned (.bool true) ∧ Below w.heap.size w w' := by
  have HM := Lib.hid hm
  have C1 := Lib.hid (fun wx => tokens_any a0 wx (by omega))
  unfold TokPost at C1
  have hn := tokTs_none _ he
  rw [hn] at C1
  obtain ⟨tl, htl⟩ : ∃ b, b = tokLine a0.data.toList := ⟨_, rfl⟩
  obtain ⟨tc, htc⟩ : ∃ b, b = tokCol a0.data.toList := ⟨_, rfl⟩
  obtain ⟨te, hte⟩ : ∃ b, b = tokErr a0.data.toList := ⟨_, rfl⟩
  rw [← htl, ← htc, ← hte] at C1
  rw [← hte] at he
  have he1 : (te != 0) = true := by simp [he]
  clear hm htl htc hte hn
  go_enter Tryd.func3, Tryd.ntmps3
  go_wp2_with fail
  refine (awake_any _ HM.out).mono ?_
  rintro e w1 ⟨rfl, hb1⟩
  have HB1 := Lib.hid hb1
  clear hb1
  go_wp2_with fail
  refine (C1.out _).mono ?_
  rintro e w2 ⟨v1, rfl, ho1, hb2⟩
  have HB2 := Lib.hid (HB1.out.trans (hb2.mono HB1.out.size))
  have hv : ∃ a c, v1 = .slice a 0 c := by
    rcases ho1.2 with ⟨rfl, -⟩ | ⟨g, c, cur, rfl, -⟩
    · exact ⟨_, _, rfl⟩
    · exact ⟨_, _, rfl⟩
  obtain ⟨ao, co, rfl⟩ := hv
  clear hb2 ho1
  go_wp2_with fail
  go_ret
  exact ⟨rfl, HB2.out.alloc HB2.out.size _⟩

end Go.Proofs.YtjpjgohomajlpaaDoor
