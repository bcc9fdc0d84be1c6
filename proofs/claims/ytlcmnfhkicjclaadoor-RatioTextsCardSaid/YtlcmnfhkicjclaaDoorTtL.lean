/- RatioTexts: the walk of the law. -/
import Derived.Test.YtlcmnfhkicjclaaDoorTtH
import Derived.Test.YtlcmnfhkicjclaaDoorRtW
namespace Go.Proofs.YtlcmnfhkicjclaaDoor
open Go.RowKit
set_option linter.unusedVariables false

theorem both_parse (s : ByteArray) (w : World) (hs : s.size ≤ 200) (hm : HasMax w) (he : HasErr w) (htab : Lib.TabIs Tryd.prog w "internal/strconv.uint64pow10" .u64 Lib.pow10Tab) :
    ∃ x y z b, ((z = 0 ∧ b = true) ∨ (z = 7 ∧ b = false)) ∧ (∀ wx, Below w.heap.size w wx → Calls Tryd.prog 37 #[.string s] wx fun e w' => e = .returned (.tuple #[.agg #[.int .i64 x, .int .i64 y], .int .i64 z]) ∧ Below wx.heap.size wx w') ∧ (∀ wx, Below w.heap.size w wx → Calls Tryd.prog 38 #[.string s] wx fun e w' => e = .returned (.tuple #[.agg #[.int .i64 x, .int .i64 y], .bool b]) ∧ Below wx.heap.size wx w') := by
  by_cases h : ∃ n d, rok n d = true ∧ ba (rtx n d) = s
  · obtain ⟨n, d, hk, rfl⟩ := h
    exact ⟨n, d, 0, true, Or.inl ⟨rfl, rfl⟩, fun wx hb => parse_yes n d wx hk (hm.below hb) (Lib.tabBelow_of_tabIs htab wx hb), fun wx hb => rparse_yes n d wx hk⟩
  · have hno : ∀ n d, rok n d = true → ba (rtx n d) ≠ s := fun n d hk e => h ⟨n, d, hk, e⟩
    exact ⟨0, 0, 7, false, Or.inr ⟨rfl, rfl⟩, fun wx hb => parse_no s wx (by omega) hno (hm.below hb) (he.below hb) (Lib.tabBelow_of_tabIs htab wx hb), fun wx hb => rparse_no s wx (by omega) hno⟩

set_option maxRecDepth 100000 in
set_option maxHeartbeats 4000000 in
theorem txt_long (n d : Int) (s : ByteArray) (w : World) (htab : Lib.TabIs Tryd.prog w "internal/strconv.uint64pow10" .u64 Lib.pow10Tab) (hl : 200 < s.size) :
    Calls Tryd.prog 7 #[.agg #[.int .i64 n, .int .i64 d], .string s] w fun e w' => e = .returned (.bool true) ∧ Below w.heap.size w w' := by
  have CA := Lib.hid (fun wx (hb : Below w.heap.size w wx) => awake_any wx (Lib.tabBelow_of_tabIs htab wx hb))
  have h1 : (200 : Int) < (s.size : Int) := by omega
  clear htab hl
  go_enter Tryd.func7, Tryd.ntmps7
  have A := At2.new w (.int .i64 n) (.int .i64 d) 24
  have HB := Lib.hid (bstep (Below.refl w.heap.size w) (below1 w (.cells #[.int .i64 n, .int .i64 d] 24)))
  obtain ⟨f00, f01, -, -, -⟩ := id A
  go_wp2_with fail
  refine (CA.out _ HB.out).mono ?_
  rintro e w1 ⟨rfl, hb⟩
  have A := A.keep hb
  have HB := Lib.hid (bstep HB.out hb)
  clear hb f00 f01
  obtain ⟨f00, f01, -, -, -⟩ := id A
  go_wp2_with fail
  go_ret
  exact ⟨rfl, HB.out⟩

set_option maxRecDepth 100000 in
set_option maxHeartbeats 4000000 in
theorem txt_bad0 (n d : Int) (s : ByteArray) (x y : Int) (w : World) (htab : Lib.TabIs Tryd.prog w "internal/strconv.uint64pow10" .u64 Lib.pow10Tab) (hl : s.size ≤ 200) (hk : rok n d = false) (c1 : ∀ wx, Below w.heap.size w wx → Calls Tryd.prog 37 #[.string s] wx fun e w' => e = .returned (.tuple #[.agg #[.int .i64 x, .int .i64 y], .int .i64 0]) ∧ Below wx.heap.size wx w') (c2 : ∀ wx, Below w.heap.size w wx → Calls Tryd.prog 38 #[.string s] wx fun e w' => e = .returned (.tuple #[.agg #[.int .i64 x, .int .i64 y], .bool true]) ∧ Below wx.heap.size wx w') :
    Calls Tryd.prog 7 #[.agg #[.int .i64 n, .int .i64 d], .string s] w fun e w' => e = .returned (.bool true) ∧ Below w.heap.size w w' := by
  have CA := Lib.hid (fun wx (hb : Below w.heap.size w wx) => awake_any wx (Lib.tabBelow_of_tabIs htab wx hb))
  have h1 : ¬ (200 : Int) < (s.size : Int) := by omega
  have C1 := Lib.hid c1
  have C2 := Lib.hid c2
  have C3 := Lib.hid (fun wx => text_bad n d wx hk)
  have C4 := Lib.hid (fun wx => rvalid_is n d false hk wx)
  rw [show ba [] = ⟨#[]⟩ from rfl] at C3
  clear htab hl c1 c2 hk
  go_enter Tryd.func7, Tryd.ntmps7
  have A := At2.new w (.int .i64 n) (.int .i64 d) 24
  have HB := Lib.hid (bstep (Below.refl w.heap.size w) (below1 w (.cells #[.int .i64 n, .int .i64 d] 24)))
  obtain ⟨f00, f01, -, -, -⟩ := id A
  go_wp2_with fail
  refine (CA.out _ HB.out).mono ?_
  rintro e w1 ⟨rfl, hb⟩
  have A := A.keep hb
  have HB := Lib.hid (bstep HB.out hb)
  clear hb f00 f01
  obtain ⟨f00, f01, -, -, -⟩ := id A
  go_wp2_with fail
  refine (C1.out _ HB.out).mono ?_
  rintro e w2 ⟨rfl, hb⟩
  have A := A.keep hb
  have HB := Lib.hid (bstep HB.out hb)
  clear hb f00 f01
  have A := A.alloc (.cells #[.int .i64 x, .int .i64 y] 24)
  have X := At2.new w2 (.int .i64 x) (.int .i64 y) 24
  have HB := Lib.hid (bstep (HB.out) (below1 w2 (.cells #[.int .i64 x, .int .i64 y] 24)))
  obtain ⟨f00, f01, -, -, -⟩ := id A
  obtain ⟨f10, f11, -, -, -⟩ := id X
  go_wp2_with fail
  refine (C2.out _ HB.out).mono ?_
  rintro e w3 ⟨rfl, hb⟩
  have A := A.keep hb
  have X := X.keep hb
  have HB := Lib.hid (bstep HB.out hb)
  clear hb f00 f01 f10 f11
  have A := A.alloc (.cells #[.int .i64 x, .int .i64 y] 24)
  have X := X.alloc (.cells #[.int .i64 x, .int .i64 y] 24)
  have Y := At2.new w3 (.int .i64 x) (.int .i64 y) 24
  have HB := Lib.hid (bstep (HB.out) (below1 w3 (.cells #[.int .i64 x, .int .i64 y] 24)))
  obtain ⟨f00, f01, -, -, -⟩ := id A
  obtain ⟨f10, f11, -, -, -⟩ := id X
  obtain ⟨f20, f21, -, -, -⟩ := id Y
  go_wp2_with fail
  refine (C3.out _).mono ?_
  rintro e w4 ⟨rfl, hb⟩
  have A := A.keep hb
  have X := X.keep hb
  have Y := Y.keep hb
  have HB := Lib.hid (bstep HB.out hb)
  clear hb f00 f01 f10 f11 f20 f21
  obtain ⟨f00, f01, -, -, -⟩ := id A
  obtain ⟨f10, f11, -, -, -⟩ := id X
  obtain ⟨f20, f21, -, -, -⟩ := id Y
  go_wp2_with fail
  refine (C4.out _).mono ?_
  rintro e w5 ⟨rfl, hb⟩
  have A := A.keep hb
  have X := X.keep hb
  have Y := Y.keep hb
  have HB := Lib.hid (bstep HB.out hb)
  clear hb f00 f01 f10 f11 f20 f21
  obtain ⟨f00, f01, -, -, -⟩ := id A
  obtain ⟨f10, f11, -, -, -⟩ := id X
  obtain ⟨f20, f21, -, -, -⟩ := id Y
  go_wp2_with fail
  go_ret
  exact ⟨rfl, HB.out⟩

set_option maxRecDepth 100000 in
set_option maxHeartbeats 4000000 in
theorem txt_ok0 (n d : Int) (s : ByteArray) (x y : Int) (w : World) (htab : Lib.TabIs Tryd.prog w "internal/strconv.uint64pow10" .u64 Lib.pow10Tab) (hl : s.size ≤ 200) (hm : HasMax w) (hk : rok n d = true) (c1 : ∀ wx, Below w.heap.size w wx → Calls Tryd.prog 37 #[.string s] wx fun e w' => e = .returned (.tuple #[.agg #[.int .i64 x, .int .i64 y], .int .i64 0]) ∧ Below wx.heap.size wx w') (c2 : ∀ wx, Below w.heap.size w wx → Calls Tryd.prog 38 #[.string s] wx fun e w' => e = .returned (.tuple #[.agg #[.int .i64 x, .int .i64 y], .bool true]) ∧ Below wx.heap.size wx w') :
    Calls Tryd.prog 7 #[.agg #[.int .i64 n, .int .i64 d], .string s] w fun e w' => e = .returned (.bool true) ∧ Below w.heap.size w w' := by
  have CA := Lib.hid (fun wx (hb : Below w.heap.size w wx) => awake_any wx (Lib.tabBelow_of_tabIs htab wx hb))
  have h1 : ¬ (200 : Int) < (s.size : Int) := by omega
  have C1 := Lib.hid c1
  have C2 := Lib.hid c2
  have C3 := Lib.hid (fun wx (hb : Below w.heap.size w wx) => text_ok n d wx hk (Lib.tabBelow_of_tabIs htab wx hb))
  have C4 := Lib.hid (fun wx => rvalid_is n d true hk wx)
  have C5 := Lib.hid (fun wx (hb : Below w.heap.size w wx) => parse_yes n d wx hk (hm.below hb) (Lib.tabBelow_of_tabIs htab wx hb))
  obtain ⟨k1, k2, k3, k4, -⟩ := (rok_iff _ _).1 hk
  have C6 := Lib.hid (fun wx => rtext_ok n d wx k1 k2 k3 k4)
  have sz : (ba (rtx n d)).size ≤ 100 := by rw [ba_size]; exact rtx_len n d k1 k2 k3 k4
  obtain ⟨R, hR⟩ : ∃ R, R = ba (rtx n d) := ⟨_, rfl⟩
  rw [← hR] at C3 C5 C6 sz
  clear htab hl c1 c2 hk hm hR k1 k2 k3 k4
  go_enter Tryd.func7, Tryd.ntmps7
  have A := At2.new w (.int .i64 n) (.int .i64 d) 24
  have HB := Lib.hid (bstep (Below.refl w.heap.size w) (below1 w (.cells #[.int .i64 n, .int .i64 d] 24)))
  obtain ⟨f00, f01, -, -, -⟩ := id A
  go_wp2_with fail
  refine (CA.out _ HB.out).mono ?_
  rintro e w1 ⟨rfl, hb⟩
  have A := A.keep hb
  have HB := Lib.hid (bstep HB.out hb)
  clear hb f00 f01
  obtain ⟨f00, f01, -, -, -⟩ := id A
  go_wp2_with fail
  refine (C1.out _ HB.out).mono ?_
  rintro e w2 ⟨rfl, hb⟩
  have A := A.keep hb
  have HB := Lib.hid (bstep HB.out hb)
  clear hb f00 f01
  have A := A.alloc (.cells #[.int .i64 x, .int .i64 y] 24)
  have X := At2.new w2 (.int .i64 x) (.int .i64 y) 24
  have HB := Lib.hid (bstep (HB.out) (below1 w2 (.cells #[.int .i64 x, .int .i64 y] 24)))
  obtain ⟨f00, f01, -, -, -⟩ := id A
  obtain ⟨f10, f11, -, -, -⟩ := id X
  go_wp2_with fail
  refine (C2.out _ HB.out).mono ?_
  rintro e w3 ⟨rfl, hb⟩
  have A := A.keep hb
  have X := X.keep hb
  have HB := Lib.hid (bstep HB.out hb)
  clear hb f00 f01 f10 f11
  have A := A.alloc (.cells #[.int .i64 x, .int .i64 y] 24)
  have X := X.alloc (.cells #[.int .i64 x, .int .i64 y] 24)
  have Y := At2.new w3 (.int .i64 x) (.int .i64 y) 24
  have HB := Lib.hid (bstep (HB.out) (below1 w3 (.cells #[.int .i64 x, .int .i64 y] 24)))
  obtain ⟨f00, f01, -, -, -⟩ := id A
  obtain ⟨f10, f11, -, -, -⟩ := id X
  obtain ⟨f20, f21, -, -, -⟩ := id Y
  go_wp2_with fail
  refine (C3.out _ HB.out).mono ?_
  rintro e w4 ⟨rfl, hb⟩
  have A := A.keep hb
  have X := X.keep hb
  have Y := Y.keep hb
  have HB := Lib.hid (bstep HB.out hb)
  clear hb f00 f01 f10 f11 f20 f21
  obtain ⟨f00, f01, -, -, -⟩ := id A
  obtain ⟨f10, f11, -, -, -⟩ := id X
  obtain ⟨f20, f21, -, -, -⟩ := id Y
  go_wp2_with fail
  refine (C4.out _).mono ?_
  rintro e w5 ⟨rfl, hb⟩
  have A := A.keep hb
  have X := X.keep hb
  have Y := Y.keep hb
  have HB := Lib.hid (bstep HB.out hb)
  clear hb f00 f01 f10 f11 f20 f21
  obtain ⟨f00, f01, -, -, -⟩ := id A
  obtain ⟨f10, f11, -, -, -⟩ := id X
  obtain ⟨f20, f21, -, -, -⟩ := id Y
  go_wp2_with fail
  refine (C5.out _ HB.out).mono ?_
  rintro e w6 ⟨rfl, hb⟩
  have A := A.keep hb
  have X := X.keep hb
  have Y := Y.keep hb
  have HB := Lib.hid (bstep HB.out hb)
  clear hb f00 f01 f10 f11 f20 f21
  have A := A.alloc (.cells #[.int .i64 n, .int .i64 d] 24)
  have X := X.alloc (.cells #[.int .i64 n, .int .i64 d] 24)
  have Y := Y.alloc (.cells #[.int .i64 n, .int .i64 d] 24)
  have V := At2.new w6 (.int .i64 n) (.int .i64 d) 24
  have HB := Lib.hid (bstep (HB.out) (below1 w6 (.cells #[.int .i64 n, .int .i64 d] 24)))
  obtain ⟨f00, f01, -, -, -⟩ := id A
  obtain ⟨f10, f11, -, -, -⟩ := id X
  obtain ⟨f20, f21, -, -, -⟩ := id Y
  obtain ⟨f30, f31, -, -, -⟩ := id V
  go_wp2_with fail
  refine (C6.out _).mono ?_
  rintro e w7 ⟨rfl, hb⟩
  have A := A.keep hb
  have X := X.keep hb
  have Y := Y.keep hb
  have V := V.keep hb
  have HB := Lib.hid (bstep HB.out hb)
  clear hb f00 f01 f10 f11 f20 f21 f30 f31
  obtain ⟨f00, f01, -, -, -⟩ := id A
  obtain ⟨f10, f11, -, -, -⟩ := id X
  obtain ⟨f20, f21, -, -, -⟩ := id Y
  obtain ⟨f30, f31, -, -, -⟩ := id V
  go_wp2_with fail
  go_ret
  exact ⟨rfl, HB.out⟩

set_option maxRecDepth 100000 in
set_option maxHeartbeats 4000000 in
theorem txt_bad7 (n d : Int) (s : ByteArray) (x y : Int) (w : World) (htab : Lib.TabIs Tryd.prog w "internal/strconv.uint64pow10" .u64 Lib.pow10Tab) (hl : s.size ≤ 200) (hk : rok n d = false) (c1 : ∀ wx, Below w.heap.size w wx → Calls Tryd.prog 37 #[.string s] wx fun e w' => e = .returned (.tuple #[.agg #[.int .i64 x, .int .i64 y], .int .i64 7]) ∧ Below wx.heap.size wx w') (c2 : ∀ wx, Below w.heap.size w wx → Calls Tryd.prog 38 #[.string s] wx fun e w' => e = .returned (.tuple #[.agg #[.int .i64 x, .int .i64 y], .bool false]) ∧ Below wx.heap.size wx w') :
    Calls Tryd.prog 7 #[.agg #[.int .i64 n, .int .i64 d], .string s] w fun e w' => e = .returned (.bool true) ∧ Below w.heap.size w w' := by
  have CA := Lib.hid (fun wx (hb : Below w.heap.size w wx) => awake_any wx (Lib.tabBelow_of_tabIs htab wx hb))
  have h1 : ¬ (200 : Int) < (s.size : Int) := by omega
  have C1 := Lib.hid c1
  have C2 := Lib.hid c2
  have C3 := Lib.hid (fun wx => text_bad n d wx hk)
  have C4 := Lib.hid (fun wx => rvalid_is n d false hk wx)
  rw [show ba [] = ⟨#[]⟩ from rfl] at C3
  clear htab hl c1 c2 hk
  go_enter Tryd.func7, Tryd.ntmps7
  have A := At2.new w (.int .i64 n) (.int .i64 d) 24
  have HB := Lib.hid (bstep (Below.refl w.heap.size w) (below1 w (.cells #[.int .i64 n, .int .i64 d] 24)))
  obtain ⟨f00, f01, -, -, -⟩ := id A
  go_wp2_with fail
  refine (CA.out _ HB.out).mono ?_
  rintro e w1 ⟨rfl, hb⟩
  have A := A.keep hb
  have HB := Lib.hid (bstep HB.out hb)
  clear hb f00 f01
  obtain ⟨f00, f01, -, -, -⟩ := id A
  go_wp2_with fail
  refine (C1.out _ HB.out).mono ?_
  rintro e w2 ⟨rfl, hb⟩
  have A := A.keep hb
  have HB := Lib.hid (bstep HB.out hb)
  clear hb f00 f01
  have A := A.alloc (.cells #[.int .i64 x, .int .i64 y] 24)
  have X := At2.new w2 (.int .i64 x) (.int .i64 y) 24
  have HB := Lib.hid (bstep (HB.out) (below1 w2 (.cells #[.int .i64 x, .int .i64 y] 24)))
  obtain ⟨f00, f01, -, -, -⟩ := id A
  obtain ⟨f10, f11, -, -, -⟩ := id X
  go_wp2_with fail
  refine (C2.out _ HB.out).mono ?_
  rintro e w3 ⟨rfl, hb⟩
  have A := A.keep hb
  have X := X.keep hb
  have HB := Lib.hid (bstep HB.out hb)
  clear hb f00 f01 f10 f11
  have A := A.alloc (.cells #[.int .i64 x, .int .i64 y] 24)
  have X := X.alloc (.cells #[.int .i64 x, .int .i64 y] 24)
  have Y := At2.new w3 (.int .i64 x) (.int .i64 y) 24
  have HB := Lib.hid (bstep (HB.out) (below1 w3 (.cells #[.int .i64 x, .int .i64 y] 24)))
  obtain ⟨f00, f01, -, -, -⟩ := id A
  obtain ⟨f10, f11, -, -, -⟩ := id X
  obtain ⟨f20, f21, -, -, -⟩ := id Y
  go_wp2_with fail
  refine (C3.out _).mono ?_
  rintro e w4 ⟨rfl, hb⟩
  have A := A.keep hb
  have X := X.keep hb
  have Y := Y.keep hb
  have HB := Lib.hid (bstep HB.out hb)
  clear hb f00 f01 f10 f11 f20 f21
  obtain ⟨f00, f01, -, -, -⟩ := id A
  obtain ⟨f10, f11, -, -, -⟩ := id X
  obtain ⟨f20, f21, -, -, -⟩ := id Y
  go_wp2_with fail
  refine (C4.out _).mono ?_
  rintro e w5 ⟨rfl, hb⟩
  have A := A.keep hb
  have X := X.keep hb
  have Y := Y.keep hb
  have HB := Lib.hid (bstep HB.out hb)
  clear hb f00 f01 f10 f11 f20 f21
  obtain ⟨f00, f01, -, -, -⟩ := id A
  obtain ⟨f10, f11, -, -, -⟩ := id X
  obtain ⟨f20, f21, -, -, -⟩ := id Y
  go_wp2_with fail
  go_ret
  exact ⟨rfl, HB.out⟩

set_option maxRecDepth 100000 in
set_option maxHeartbeats 4000000 in
theorem txt_ok7 (n d : Int) (s : ByteArray) (x y : Int) (w : World) (htab : Lib.TabIs Tryd.prog w "internal/strconv.uint64pow10" .u64 Lib.pow10Tab) (hl : s.size ≤ 200) (hm : HasMax w) (hk : rok n d = true) (c1 : ∀ wx, Below w.heap.size w wx → Calls Tryd.prog 37 #[.string s] wx fun e w' => e = .returned (.tuple #[.agg #[.int .i64 x, .int .i64 y], .int .i64 7]) ∧ Below wx.heap.size wx w') (c2 : ∀ wx, Below w.heap.size w wx → Calls Tryd.prog 38 #[.string s] wx fun e w' => e = .returned (.tuple #[.agg #[.int .i64 x, .int .i64 y], .bool false]) ∧ Below wx.heap.size wx w') :
    Calls Tryd.prog 7 #[.agg #[.int .i64 n, .int .i64 d], .string s] w fun e w' => e = .returned (.bool true) ∧ Below w.heap.size w w' := by
  have CA := Lib.hid (fun wx (hb : Below w.heap.size w wx) => awake_any wx (Lib.tabBelow_of_tabIs htab wx hb))
  have h1 : ¬ (200 : Int) < (s.size : Int) := by omega
  have C1 := Lib.hid c1
  have C2 := Lib.hid c2
  have C3 := Lib.hid (fun wx (hb : Below w.heap.size w wx) => text_ok n d wx hk (Lib.tabBelow_of_tabIs htab wx hb))
  have C4 := Lib.hid (fun wx => rvalid_is n d true hk wx)
  have C5 := Lib.hid (fun wx (hb : Below w.heap.size w wx) => parse_yes n d wx hk (hm.below hb) (Lib.tabBelow_of_tabIs htab wx hb))
  obtain ⟨k1, k2, k3, k4, -⟩ := (rok_iff _ _).1 hk
  have C6 := Lib.hid (fun wx => rtext_ok n d wx k1 k2 k3 k4)
  have sz : (ba (rtx n d)).size ≤ 100 := by rw [ba_size]; exact rtx_len n d k1 k2 k3 k4
  obtain ⟨R, hR⟩ : ∃ R, R = ba (rtx n d) := ⟨_, rfl⟩
  rw [← hR] at C3 C5 C6 sz
  clear htab hl c1 c2 hk hm hR k1 k2 k3 k4
  go_enter Tryd.func7, Tryd.ntmps7
  have A := At2.new w (.int .i64 n) (.int .i64 d) 24
  have HB := Lib.hid (bstep (Below.refl w.heap.size w) (below1 w (.cells #[.int .i64 n, .int .i64 d] 24)))
  obtain ⟨f00, f01, -, -, -⟩ := id A
  go_wp2_with fail
  refine (CA.out _ HB.out).mono ?_
  rintro e w1 ⟨rfl, hb⟩
  have A := A.keep hb
  have HB := Lib.hid (bstep HB.out hb)
  clear hb f00 f01
  obtain ⟨f00, f01, -, -, -⟩ := id A
  go_wp2_with fail
  refine (C1.out _ HB.out).mono ?_
  rintro e w2 ⟨rfl, hb⟩
  have A := A.keep hb
  have HB := Lib.hid (bstep HB.out hb)
  clear hb f00 f01
  have A := A.alloc (.cells #[.int .i64 x, .int .i64 y] 24)
  have X := At2.new w2 (.int .i64 x) (.int .i64 y) 24
  have HB := Lib.hid (bstep (HB.out) (below1 w2 (.cells #[.int .i64 x, .int .i64 y] 24)))
  obtain ⟨f00, f01, -, -, -⟩ := id A
  obtain ⟨f10, f11, -, -, -⟩ := id X
  go_wp2_with fail
  refine (C2.out _ HB.out).mono ?_
  rintro e w3 ⟨rfl, hb⟩
  have A := A.keep hb
  have X := X.keep hb
  have HB := Lib.hid (bstep HB.out hb)
  clear hb f00 f01 f10 f11
  have A := A.alloc (.cells #[.int .i64 x, .int .i64 y] 24)
  have X := X.alloc (.cells #[.int .i64 x, .int .i64 y] 24)
  have Y := At2.new w3 (.int .i64 x) (.int .i64 y) 24
  have HB := Lib.hid (bstep (HB.out) (below1 w3 (.cells #[.int .i64 x, .int .i64 y] 24)))
  obtain ⟨f00, f01, -, -, -⟩ := id A
  obtain ⟨f10, f11, -, -, -⟩ := id X
  obtain ⟨f20, f21, -, -, -⟩ := id Y
  go_wp2_with fail
  refine (C3.out _ HB.out).mono ?_
  rintro e w4 ⟨rfl, hb⟩
  have A := A.keep hb
  have X := X.keep hb
  have Y := Y.keep hb
  have HB := Lib.hid (bstep HB.out hb)
  clear hb f00 f01 f10 f11 f20 f21
  obtain ⟨f00, f01, -, -, -⟩ := id A
  obtain ⟨f10, f11, -, -, -⟩ := id X
  obtain ⟨f20, f21, -, -, -⟩ := id Y
  go_wp2_with fail
  refine (C4.out _).mono ?_
  rintro e w5 ⟨rfl, hb⟩
  have A := A.keep hb
  have X := X.keep hb
  have Y := Y.keep hb
  have HB := Lib.hid (bstep HB.out hb)
  clear hb f00 f01 f10 f11 f20 f21
  obtain ⟨f00, f01, -, -, -⟩ := id A
  obtain ⟨f10, f11, -, -, -⟩ := id X
  obtain ⟨f20, f21, -, -, -⟩ := id Y
  go_wp2_with fail
  refine (C5.out _ HB.out).mono ?_
  rintro e w6 ⟨rfl, hb⟩
  have A := A.keep hb
  have X := X.keep hb
  have Y := Y.keep hb
  have HB := Lib.hid (bstep HB.out hb)
  clear hb f00 f01 f10 f11 f20 f21
  have A := A.alloc (.cells #[.int .i64 n, .int .i64 d] 24)
  have X := X.alloc (.cells #[.int .i64 n, .int .i64 d] 24)
  have Y := Y.alloc (.cells #[.int .i64 n, .int .i64 d] 24)
  have V := At2.new w6 (.int .i64 n) (.int .i64 d) 24
  have HB := Lib.hid (bstep (HB.out) (below1 w6 (.cells #[.int .i64 n, .int .i64 d] 24)))
  obtain ⟨f00, f01, -, -, -⟩ := id A
  obtain ⟨f10, f11, -, -, -⟩ := id X
  obtain ⟨f20, f21, -, -, -⟩ := id Y
  obtain ⟨f30, f31, -, -, -⟩ := id V
  go_wp2_with fail
  refine (C6.out _).mono ?_
  rintro e w7 ⟨rfl, hb⟩
  have A := A.keep hb
  have X := X.keep hb
  have Y := Y.keep hb
  have V := V.keep hb
  have HB := Lib.hid (bstep HB.out hb)
  clear hb f00 f01 f10 f11 f20 f21 f30 f31
  obtain ⟨f00, f01, -, -, -⟩ := id A
  obtain ⟨f10, f11, -, -, -⟩ := id X
  obtain ⟨f20, f21, -, -, -⟩ := id Y
  obtain ⟨f30, f31, -, -, -⟩ := id V
  go_wp2_with fail
  go_ret
  exact ⟨rfl, HB.out⟩
theorem txt_any (n d : Int) (s : ByteArray) (w : World) (htab : Lib.TabIs Tryd.prog w "internal/strconv.uint64pow10" .u64 Lib.pow10Tab) (hm : HasMax w) (he : HasErr w) :
    Calls Tryd.prog 7 #[.agg #[.int .i64 n, .int .i64 d], .string s] w fun e w' => e = .returned (.bool true) ∧ Below w.heap.size w w' := by
  by_cases hl : 200 < s.size
  · exact txt_long n d s w htab hl
  · obtain ⟨x, y, z, b, hz, c1, c2⟩ := both_parse s w (by omega) hm he htab
    rcases hz with ⟨rfl, rfl⟩ | ⟨rfl, rfl⟩
    · cases hk : rok n d
      · exact txt_bad0 n d s x y w htab (by omega) hk c1 c2
      · exact txt_ok0 n d s x y w htab (by omega) hm hk c1 c2
    · cases hk : rok n d
      · exact txt_bad7 n d s x y w htab (by omega) hk c1 c2
      · exact txt_ok7 n d s x y w htab (by omega) hm hk c1 c2
end Go.Proofs.YtlcmnfhkicjclaaDoor
