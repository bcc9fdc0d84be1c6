/- RatioMakes: the walk of the law. -/
import Derived.Test.YtlcmnfhkicjclaaDoorOps
import Derived.Deep.RegionWith
namespace Go.Proofs.YtlcmnfhkicjclaaDoor
open Go.RowKit
set_option linter.unusedVariables false

theorem make_both (n d : Int) (n1 : -9223372036854775808 ≤ n) (n2 : n ≤ 9223372036854775807) (d1 : -9223372036854775808 ≤ d) (d2 : d ≤ 9223372036854775807) :
    ∃ x y z, (z = 0 → rok x y = true) ∧ (∀ wx, Calls Tryd.prog 13 #[.int .i64 n, .int .i64 d] wx fun e w' => e = .returned (.tuple #[.agg #[.int .i64 x, .int .i64 y], .int .i64 z]) ∧ Below wx.heap.size wx w') ∧ (∀ wx, Calls Tryd.prog 14 #[.int .i64 n, .int .i64 d] wx fun e w' => e = .returned (.tuple #[.agg #[.int .i64 x, .int .i64 y], .int .i64 z]) ∧ Below wx.heap.size wx w') := by
  by_cases h : d = 0
  · subst h
    exact ⟨0, 0, 16, fun h => by omega, fun wx => Make_zero n wx, fun wx => rMake_zero n wx⟩
  · refine ⟨_, _, _, ?_, fun wx => Make_any n d wx h n1 n2 d1 d2, fun wx => rMake_any n d wx h n1 n2 d1 d2⟩
    cases hf : rfit (Rat.divInt n d)
    · rw [rE_big hf]; intro h; omega
    · rw [rN_fit hf, rD_fit hf]; intro _; exact rok_of hf

/-- three blocks of two cells lie in a world -/
structure Tri (w W : World) (a b c : Nat) (x y u v s t : Int) : Prop where
  A : At2 W a (.int .i64 x) (.int .i64 y)
  B : At2 W b (.int .i64 u) (.int .i64 v)
  C : At2 W c (.int .i64 s) (.int .i64 t)
  bel : Below w.heap.size w W
theorem Tri.keep {w W W' : World} {a b c : Nat} {x y u v s t : Int} (h : Tri w W a b c x y u v s t) (hb : Below W.heap.size W W') : Tri w W' a b c x y u v s t :=
  ⟨h.A.keep hb, h.B.keep hb, h.C.keep hb, bstep h.bel hb⟩

set_option maxRecDepth 100000 in
set_option maxHeartbeats 4000000 in
theorem mks_ne (n d x y z : Int) (w : World) (htab : Lib.TabIs Tryd.prog w "internal/strconv.uint64pow10" .u64 Lib.pow10Tab) (c1 : ∀ wx, Calls Tryd.prog 13 #[.int .i64 n, .int .i64 d] wx fun e w' => e = .returned (.tuple #[.agg #[.int .i64 x, .int .i64 y], .int .i64 z]) ∧ Below wx.heap.size wx w') (c2 : ∀ wx, Calls Tryd.prog 14 #[.int .i64 n, .int .i64 d] wx fun e w' => e = .returned (.tuple #[.agg #[.int .i64 x, .int .i64 y], .int .i64 z]) ∧ Below wx.heap.size wx w') (hz : z ≠ 0) :
    Calls Tryd.prog 3 #[.int .i64 n, .int .i64 d] w fun e w' => e = .returned (.bool true) ∧ Below w.heap.size w w' := by
  have CA := Lib.hid (fun wx (hb : Below w.heap.size w wx) => awake_any wx (Lib.tabBelow_of_tabIs htab wx hb))
  have C1 := Lib.hid c1
  have C2 := Lib.hid c2
  obtain ⟨r, hr⟩ : ∃ r, rok n d = r := ⟨_, rfl⟩
  have CV := Lib.hid (fun wx => valid_is n d r hr wx)
  have RV := Lib.hid (fun wx => rvalid_is n d r hr wx)
  have tz : (z != 0) = true := by rw [bne_iff_ne]; exact hz
  have tz2 : (z == 0) = false := by rw [beq_eq_false_iff_ne]; exact hz
  clear hz
  clear htab c1 c2 hr
  go_enter Tryd.func3, Tryd.ntmps3
  have HB := Lib.hid (Below.refl w.heap.size w)
  go_wp2_with fail
  refine (CA.out _ HB.out).mono ?_
  rintro e w1 ⟨rfl, hb⟩
  have HB := Lib.hid (bstep HB.out hb)
  clear hb 
  go_wp2_with fail
  refine (C1.out _).mono ?_
  rintro e w2 ⟨rfl, hb⟩
  have HB := Lib.hid (bstep HB.out hb)
  clear hb 
  have X := At2.new w2 (.int .i64 x) (.int .i64 y) 24
  have HB := Lib.hid (bstep (HB.out) (below1 w2 (.cells #[.int .i64 x, .int .i64 y] 24)))
  obtain ⟨f00, f01, _, _, _⟩ := id X
  go_wp2_with fail
  refine (C2.out _).mono ?_
  rintro e w3 ⟨rfl, hb⟩
  have X := X.keep hb
  have HB := Lib.hid (bstep HB.out hb)
  clear hb f00 f01
  have X := X.alloc (.cells #[.int .i64 x, .int .i64 y] 24)
  have Y := At2.new w3 (.int .i64 x) (.int .i64 y) 24
  have X := X.alloc (.cells #[.int .i64 n, .int .i64 d] 24)
  have Y := Y.alloc (.cells #[.int .i64 n, .int .i64 d] 24)
  have Z := At2.new (w3.alloc (.cells #[.int .i64 x, .int .i64 y] 24)) (.int .i64 n) (.int .i64 d) 24
  simp at Z
  have HB := Lib.hid (bstep (bstep (HB.out) (below1 w3 (.cells #[.int .i64 x, .int .i64 y] 24))) (below1 (w3.alloc (.cells #[.int .i64 x, .int .i64 y] 24)) (.cells #[.int .i64 n, .int .i64 d] 24)))
  obtain ⟨f00, f01, _, _, _⟩ := id X
  obtain ⟨f10, f11, _, _, _⟩ := id Y
  obtain ⟨f20, f21, _, _, _⟩ := id Z
  have T := Lib.hid ((Tri.mk X Y Z HB.out).keep ((Below.refl _ _).drew))
  clear f00 f01 f10 f11 f20 f21 X Y Z HB
  obtain ⟨⟨f00, f01, _, _, _⟩, ⟨f10, f11, _, _, _⟩, ⟨f20, f21, _, _, _⟩, _⟩ := id T.out
  go_wp2_with fail
  go_region_with
    (first
    | (go_at_call 15; (with_reducible refine (CV.out _).mono ?_); rintro e wq ⟨rfl, hb⟩; have T := Lib.hid (T.out.keep hb); obtain ⟨⟨f00, f01, _, _, _⟩, ⟨f10, f11, _, _, _⟩, ⟨f20, f21, _, _, _⟩, _⟩ := id T.out; clear hb)
    | (go_at_call 16; (with_reducible refine (RV.out _).mono ?_); rintro e wq ⟨rfl, hb⟩; have T := Lib.hid (T.out.keep hb); obtain ⟨⟨f00, f01, _, _, _⟩, ⟨f10, f11, _, _, _⟩, ⟨f20, f21, _, _, _⟩, _⟩ := id T.out; clear hb))
  all_goals
    go_wp2_with fail
    go_ret
    exact ⟨rfl, T.out.bel⟩

set_option maxRecDepth 100000 in
set_option maxHeartbeats 4000000 in
theorem mks_ok (n d x y z : Int) (w : World) (htab : Lib.TabIs Tryd.prog w "internal/strconv.uint64pow10" .u64 Lib.pow10Tab) (c1 : ∀ wx, Calls Tryd.prog 13 #[.int .i64 n, .int .i64 d] wx fun e w' => e = .returned (.tuple #[.agg #[.int .i64 x, .int .i64 y], .int .i64 z]) ∧ Below wx.heap.size wx w') (c2 : ∀ wx, Calls Tryd.prog 14 #[.int .i64 n, .int .i64 d] wx fun e w' => e = .returned (.tuple #[.agg #[.int .i64 x, .int .i64 y], .int .i64 z]) ∧ Below wx.heap.size wx w') (hz : z = 0) (ho : rok x y = true) :
    Calls Tryd.prog 3 #[.int .i64 n, .int .i64 d] w fun e w' => e = .returned (.bool true) ∧ Below w.heap.size w w' := by
  have CA := Lib.hid (fun wx (hb : Below w.heap.size w wx) => awake_any wx (Lib.tabBelow_of_tabIs htab wx hb))
  have C1 := Lib.hid c1
  have C2 := Lib.hid c2
  obtain ⟨r, hr⟩ : ∃ r, rok n d = r := ⟨_, rfl⟩
  have CV := Lib.hid (fun wx => valid_is n d r hr wx)
  have RV := Lib.hid (fun wx => rvalid_is n d r hr wx)
  have CX := Lib.hid (fun wx => valid_is x y true ho wx)
  subst hz
  clear ho
  clear htab c1 c2 hr
  go_enter Tryd.func3, Tryd.ntmps3
  have HB := Lib.hid (Below.refl w.heap.size w)
  go_wp2_with fail
  refine (CA.out _ HB.out).mono ?_
  rintro e w1 ⟨rfl, hb⟩
  have HB := Lib.hid (bstep HB.out hb)
  clear hb 
  go_wp2_with fail
  refine (C1.out _).mono ?_
  rintro e w2 ⟨rfl, hb⟩
  have HB := Lib.hid (bstep HB.out hb)
  clear hb 
  have X := At2.new w2 (.int .i64 x) (.int .i64 y) 24
  have HB := Lib.hid (bstep (HB.out) (below1 w2 (.cells #[.int .i64 x, .int .i64 y] 24)))
  obtain ⟨f00, f01, _, _, _⟩ := id X
  go_wp2_with fail
  refine (C2.out _).mono ?_
  rintro e w3 ⟨rfl, hb⟩
  have X := X.keep hb
  have HB := Lib.hid (bstep HB.out hb)
  clear hb f00 f01
  have X := X.alloc (.cells #[.int .i64 x, .int .i64 y] 24)
  have Y := At2.new w3 (.int .i64 x) (.int .i64 y) 24
  have X := X.alloc (.cells #[.int .i64 n, .int .i64 d] 24)
  have Y := Y.alloc (.cells #[.int .i64 n, .int .i64 d] 24)
  have Z := At2.new (w3.alloc (.cells #[.int .i64 x, .int .i64 y] 24)) (.int .i64 n) (.int .i64 d) 24
  simp at Z
  have HB := Lib.hid (bstep (bstep (HB.out) (below1 w3 (.cells #[.int .i64 x, .int .i64 y] 24))) (below1 (w3.alloc (.cells #[.int .i64 x, .int .i64 y] 24)) (.cells #[.int .i64 n, .int .i64 d] 24)))
  obtain ⟨f00, f01, _, _, _⟩ := id X
  obtain ⟨f10, f11, _, _, _⟩ := id Y
  obtain ⟨f20, f21, _, _, _⟩ := id Z
  have T := Lib.hid ((Tri.mk X Y Z HB.out).keep ((Below.refl _ _).drew))
  clear f00 f01 f10 f11 f20 f21 X Y Z HB
  obtain ⟨⟨f00, f01, _, _, _⟩, ⟨f10, f11, _, _, _⟩, ⟨f20, f21, _, _, _⟩, _⟩ := id T.out
  go_wp2_with fail
  go_region_with
    (first
    | (go_at_call 15; (first | (with_reducible refine (CV.out _).mono ?_) | (with_reducible refine (CX.out _).mono ?_)); rintro e wq ⟨rfl, hb⟩; have T := Lib.hid (T.out.keep hb); obtain ⟨⟨f00, f01, _, _, _⟩, ⟨f10, f11, _, _, _⟩, ⟨f20, f21, _, _, _⟩, _⟩ := id T.out; clear hb)
    | (go_at_call 16; (with_reducible refine (RV.out _).mono ?_); rintro e wq ⟨rfl, hb⟩; have T := Lib.hid (T.out.keep hb); obtain ⟨⟨f00, f01, _, _, _⟩, ⟨f10, f11, _, _, _⟩, ⟨f20, f21, _, _, _⟩, _⟩ := id T.out; clear hb))
  all_goals
    go_wp2_with fail
    go_ret
    exact ⟨rfl, T.out.bel⟩
theorem mks_any (n d : Int) (w : World) (htab : Lib.TabIs Tryd.prog w "internal/strconv.uint64pow10" .u64 Lib.pow10Tab) (n1 : -9223372036854775808 ≤ n) (n2 : n ≤ 9223372036854775807) (d1 : -9223372036854775808 ≤ d) (d2 : d ≤ 9223372036854775807) :
    Calls Tryd.prog 3 #[.int .i64 n, .int .i64 d] w fun e w' => e = .returned (.bool true) ∧ Below w.heap.size w w' := by
  obtain ⟨x, y, z, h, c1, c2⟩ := make_both n d n1 n2 d1 d2
  by_cases hz : z = 0
  · exact mks_ok n d x y z w htab c1 c2 hz (h hz)
  · exact mks_ne n d x y z w htab c1 c2 hz
end Go.Proofs.YtlcmnfhkicjclaaDoor
