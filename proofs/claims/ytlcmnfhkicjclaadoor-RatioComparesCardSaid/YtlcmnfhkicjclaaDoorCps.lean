/- RatioCompares: the walk of the law. -/
import Derived.Test.YtlcmnfhkicjclaaDoorRtW
import Derived.Test.YtlcmnfhkicjclaaDoorRtK
namespace Go.Proofs.YtlcmnfhkicjclaaDoor
open Go.RowKit
set_option linter.unusedVariables false

set_option maxRecDepth 100000 in
set_option maxHeartbeats 2000000 in
theorem cps_bad (n d n2 d2 : Int) (w : World) (htab : Lib.TabIs Tryd.prog w "internal/strconv.uint64pow10" .u64 Lib.pow10Tab) (hk : rok n d = false) :
    Calls Tryd.prog 5 #[.agg #[.int .i64 n, .int .i64 d], .agg #[.int .i64 n2, .int .i64 d2]] w fun e w' => e = .returned (.bool true) ∧ Below w.heap.size w w' := by
  have CA := Lib.hid (fun wx (hb : Below w.heap.size w wx) => awake_any wx (Lib.tabBelow_of_tabIs htab wx hb))
  have C1 := Lib.hid (fun wx => pCmp_b1 n d n2 d2 wx hk)
  have C2 := Lib.hid (fun wx => pFloor_bad n d wx hk)
  have C3 := Lib.hid (fun wx => pRound_bad n d wx hk)
  have C4 := Lib.hid (fun wx => rvalid_is n d false hk wx)
  clear htab hk
  go_enter Tryd.func5, Tryd.ntmps5
  have A := At2.new w (.int .i64 n) (.int .i64 d) 24
  have A := A.alloc (.cells #[.int .i64 n2, .int .i64 d2] 24)
  have B := At2.new (w.alloc (.cells #[.int .i64 n, .int .i64 d] 24)) (.int .i64 n2) (.int .i64 d2) 24
  simp at B
  have HB := Lib.hid (bstep (bstep (Below.refl _ w) (below1 w (.cells #[.int .i64 n, .int .i64 d] 24))) (below1 (w.alloc (.cells #[.int .i64 n, .int .i64 d] 24)) (.cells #[.int .i64 n2, .int .i64 d2] 24)))
  obtain ⟨f00, f01, _, _, _⟩ := id A
  obtain ⟨f10, f11, _, _, _⟩ := id B
  go_wp2_with fail
  refine (CA.out _ HB.out).mono ?_
  rintro e w1 ⟨rfl, hb⟩
  have A := A.keep hb
  have B := B.keep hb
  have HB := Lib.hid (bstep HB.out hb)
  clear hb f00 f01 f10 f11
  obtain ⟨f00, f01, _, _, _⟩ := id A
  obtain ⟨f10, f11, _, _, _⟩ := id B
  go_wp2_with fail
  refine (C1.out _).mono ?_
  rintro e w2 ⟨rfl, hb⟩
  have A := A.keep hb
  have B := B.keep hb
  have HB := Lib.hid (bstep HB.out hb)
  clear hb f00 f01 f10 f11
  obtain ⟨f00, f01, _, _, _⟩ := id A
  obtain ⟨f10, f11, _, _, _⟩ := id B
  go_wp2_with fail
  refine (C2.out _).mono ?_
  rintro e w3 ⟨rfl, hb⟩
  have A := A.keep hb
  have B := B.keep hb
  have HB := Lib.hid (bstep HB.out hb)
  clear hb f00 f01 f10 f11
  obtain ⟨f00, f01, _, _, _⟩ := id A
  obtain ⟨f10, f11, _, _, _⟩ := id B
  go_wp2_with fail
  refine (C3.out _).mono ?_
  rintro e w4 ⟨rfl, hb⟩
  have A := A.keep hb
  have B := B.keep hb
  have HB := Lib.hid (bstep HB.out hb)
  clear hb f00 f01 f10 f11
  obtain ⟨f00, f01, _, _, _⟩ := id A
  obtain ⟨f10, f11, _, _, _⟩ := id B
  go_wp2_with fail
  refine (C4.out _).mono ?_
  rintro e w5 ⟨rfl, hb⟩
  have A := A.keep hb
  have B := B.keep hb
  have HB := Lib.hid (bstep HB.out hb)
  clear hb f00 f01 f10 f11
  obtain ⟨f00, f01, _, _, _⟩ := id A
  obtain ⟨f10, f11, _, _, _⟩ := id B
  go_wp2_with fail
  go_ret
  exact ⟨rfl, HB.out⟩

set_option maxRecDepth 100000 in
set_option maxHeartbeats 2000000 in
theorem cps_b2 (n d n2 d2 : Int) (w : World) (htab : Lib.TabIs Tryd.prog w "internal/strconv.uint64pow10" .u64 Lib.pow10Tab) (hk : rok n d = true) (hk2 : rok n2 d2 = false) :
    Calls Tryd.prog 5 #[.agg #[.int .i64 n, .int .i64 d], .agg #[.int .i64 n2, .int .i64 d2]] w fun e w' => e = .returned (.bool true) ∧ Below w.heap.size w w' := by
  have CA := Lib.hid (fun wx (hb : Below w.heap.size w wx) => awake_any wx (Lib.tabBelow_of_tabIs htab wx hb))
  have C1 := Lib.hid (fun wx => pCmp_b2 n d n2 d2 wx hk hk2)
  have C2 := Lib.hid (fun wx => pFloor n d wx hk)
  have C3 := Lib.hid (fun wx => pRound n d wx hk)
  have C4 := Lib.hid (fun wx => rvalid_is n d true hk wx)
  have C5 := Lib.hid (fun wx => rvalid_is n2 d2 false hk2 wx)
  have hk := (rok_iff _ _).1 hk
  obtain ⟨k1, k2, k3, k4, -⟩ := hk
  have R1 := Lib.hid (fun wx => rFloor n d wx k1 k2 k3 k4)
  have R2 := Lib.hid (fun wx => rRound n d wx k1 k2 k3 k4)
  obtain ⟨q, hq⟩ : ∃ q, q = n / d := ⟨_, rfl⟩
  obtain ⟨r, hr⟩ : ∃ r, r = (2 * n + d) / (2 * d) := ⟨_, rfl⟩
  rw [← hq] at C2 R1
  rw [← hr] at C3 R2
  clear htab hk2 hq hr k1 k2 k3 k4
  go_enter Tryd.func5, Tryd.ntmps5
  have A := At2.new w (.int .i64 n) (.int .i64 d) 24
  have A := A.alloc (.cells #[.int .i64 n2, .int .i64 d2] 24)
  have B := At2.new (w.alloc (.cells #[.int .i64 n, .int .i64 d] 24)) (.int .i64 n2) (.int .i64 d2) 24
  simp at B
  have HB := Lib.hid (bstep (bstep (Below.refl _ w) (below1 w (.cells #[.int .i64 n, .int .i64 d] 24))) (below1 (w.alloc (.cells #[.int .i64 n, .int .i64 d] 24)) (.cells #[.int .i64 n2, .int .i64 d2] 24)))
  obtain ⟨f00, f01, _, _, _⟩ := id A
  obtain ⟨f10, f11, _, _, _⟩ := id B
  go_wp2_with fail
  refine (CA.out _ HB.out).mono ?_
  rintro e w1 ⟨rfl, hb⟩
  have A := A.keep hb
  have B := B.keep hb
  have HB := Lib.hid (bstep HB.out hb)
  clear hb f00 f01 f10 f11
  obtain ⟨f00, f01, _, _, _⟩ := id A
  obtain ⟨f10, f11, _, _, _⟩ := id B
  go_wp2_with fail
  refine (C1.out _).mono ?_
  rintro e w2 ⟨rfl, hb⟩
  have A := A.keep hb
  have B := B.keep hb
  have HB := Lib.hid (bstep HB.out hb)
  clear hb f00 f01 f10 f11
  obtain ⟨f00, f01, _, _, _⟩ := id A
  obtain ⟨f10, f11, _, _, _⟩ := id B
  go_wp2_with fail
  refine (C2.out _).mono ?_
  rintro e w3 ⟨rfl, hb⟩
  have A := A.keep hb
  have B := B.keep hb
  have HB := Lib.hid (bstep HB.out hb)
  clear hb f00 f01 f10 f11
  obtain ⟨f00, f01, _, _, _⟩ := id A
  obtain ⟨f10, f11, _, _, _⟩ := id B
  go_wp2_with fail
  refine (C3.out _).mono ?_
  rintro e w4 ⟨rfl, hb⟩
  have A := A.keep hb
  have B := B.keep hb
  have HB := Lib.hid (bstep HB.out hb)
  clear hb f00 f01 f10 f11
  obtain ⟨f00, f01, _, _, _⟩ := id A
  obtain ⟨f10, f11, _, _, _⟩ := id B
  go_wp2_with fail
  refine (C4.out _).mono ?_
  rintro e w5 ⟨rfl, hb⟩
  have A := A.keep hb
  have B := B.keep hb
  have HB := Lib.hid (bstep HB.out hb)
  clear hb f00 f01 f10 f11
  obtain ⟨f00, f01, _, _, _⟩ := id A
  obtain ⟨f10, f11, _, _, _⟩ := id B
  go_wp2_with fail
  refine (R1.out _).mono ?_
  rintro e w6 ⟨rfl, hb⟩
  have A := A.keep hb
  have B := B.keep hb
  have HB := Lib.hid (bstep HB.out hb)
  clear hb f00 f01 f10 f11
  obtain ⟨f00, f01, _, _, _⟩ := id A
  obtain ⟨f10, f11, _, _, _⟩ := id B
  go_wp2_with fail
  refine (R2.out _).mono ?_
  rintro e w7 ⟨rfl, hb⟩
  have A := A.keep hb
  have B := B.keep hb
  have HB := Lib.hid (bstep HB.out hb)
  clear hb f00 f01 f10 f11
  obtain ⟨f00, f01, _, _, _⟩ := id A
  obtain ⟨f10, f11, _, _, _⟩ := id B
  go_wp2_with fail
  refine (C5.out _).mono ?_
  rintro e w8 ⟨rfl, hb⟩
  have A := A.keep hb
  have B := B.keep hb
  have HB := Lib.hid (bstep HB.out hb)
  clear hb f00 f01 f10 f11
  obtain ⟨f00, f01, _, _, _⟩ := id A
  obtain ⟨f10, f11, _, _, _⟩ := id B
  go_wp2_with fail
  go_ret
  exact ⟨rfl, HB.out⟩

set_option maxRecDepth 100000 in
set_option maxHeartbeats 2000000 in
theorem cps_ok (a b : Rat) (w : World) (htab : Lib.TabIs Tryd.prog w "internal/strconv.uint64pow10" .u64 Lib.pow10Tab) (ha : rfit a = true) (hb : rfit b = true) :
    Calls Tryd.prog 5 #[.agg #[.int .i64 a.num, .int .i64 (a.den : Int)], .agg #[.int .i64 b.num, .int .i64 (b.den : Int)]] w fun e w' => e = .returned (.bool true) ∧ Below w.heap.size w w' := by
  have CA := Lib.hid (fun wx (hb : Below w.heap.size w wx) => awake_any wx (Lib.tabBelow_of_tabIs htab wx hb))
  have C1 := Lib.hid (fun wx => pCmp a b wx ha hb)
  have hk := rok_of ha
  have hk2 := rok_of hb
  have C2 := Lib.hid (fun wx => pFloor a.num (a.den : Int) wx hk)
  have C3 := Lib.hid (fun wx => pRound a.num (a.den : Int) wx hk)
  have C4 := Lib.hid (fun wx => rvalid_is a.num (a.den : Int) true hk wx)
  have C5 := Lib.hid (fun wx => rvalid_is b.num (b.den : Int) true hk2 wx)
  have R3 := Lib.hid (fun wx => rCmp a b wx ha hb)
  have hk := (rok_iff _ _).1 hk
  obtain ⟨k1, k2, k3, k4, -⟩ := hk
  have R1 := Lib.hid (fun wx => rFloor a.num (a.den : Int) wx k1 k2 k3 k4)
  have R2 := Lib.hid (fun wx => rRound a.num (a.den : Int) wx k1 k2 k3 k4)
  obtain ⟨q, hq⟩ : ∃ q, q = a.num / (a.den : Int) := ⟨_, rfl⟩
  obtain ⟨r, hr⟩ : ∃ r, r = (2 * a.num + (a.den : Int)) / (2 * (a.den : Int)) := ⟨_, rfl⟩
  obtain ⟨z, hz⟩ : ∃ z, z = rcmp a b := ⟨_, rfl⟩
  rw [← hq] at C2 R1
  rw [← hr] at C3 R2
  rw [← hz] at C1 R3
  obtain ⟨n, han⟩ : ∃ t, t = a.num := ⟨_, rfl⟩
  obtain ⟨d, had⟩ : ∃ t, t = (a.den : Int) := ⟨_, rfl⟩
  obtain ⟨n2, hbn⟩ : ∃ t, t = b.num := ⟨_, rfl⟩
  obtain ⟨d2, hbd⟩ : ∃ t, t = (b.den : Int) := ⟨_, rfl⟩
  simp only [← han, ← had, ← hbn, ← hbd] at C1 C2 C3 C4 C5 R1 R2 R3 ⊢
  clear htab hk2 hq hr hz k1 k2 k3 k4 ha hb han had hbn hbd
  go_enter Tryd.func5, Tryd.ntmps5
  have A := At2.new w (.int .i64 n) (.int .i64 d) 24
  have A := A.alloc (.cells #[.int .i64 n2, .int .i64 d2] 24)
  have B := At2.new (w.alloc (.cells #[.int .i64 n, .int .i64 d] 24)) (.int .i64 n2) (.int .i64 d2) 24
  simp at B
  have HB := Lib.hid (bstep (bstep (Below.refl _ w) (below1 w (.cells #[.int .i64 n, .int .i64 d] 24))) (below1 (w.alloc (.cells #[.int .i64 n, .int .i64 d] 24)) (.cells #[.int .i64 n2, .int .i64 d2] 24)))
  obtain ⟨f00, f01, _, _, _⟩ := id A
  obtain ⟨f10, f11, _, _, _⟩ := id B
  go_wp2_with fail
  refine (CA.out _ HB.out).mono ?_
  rintro e w1 ⟨rfl, hb⟩
  have A := A.keep hb
  have B := B.keep hb
  have HB := Lib.hid (bstep HB.out hb)
  clear hb f00 f01 f10 f11
  obtain ⟨f00, f01, _, _, _⟩ := id A
  obtain ⟨f10, f11, _, _, _⟩ := id B
  go_wp2_with fail
  refine (C1.out _).mono ?_
  rintro e w2 ⟨rfl, hb⟩
  have A := A.keep hb
  have B := B.keep hb
  have HB := Lib.hid (bstep HB.out hb)
  clear hb f00 f01 f10 f11
  obtain ⟨f00, f01, _, _, _⟩ := id A
  obtain ⟨f10, f11, _, _, _⟩ := id B
  go_wp2_with fail
  refine (C2.out _).mono ?_
  rintro e w3 ⟨rfl, hb⟩
  have A := A.keep hb
  have B := B.keep hb
  have HB := Lib.hid (bstep HB.out hb)
  clear hb f00 f01 f10 f11
  obtain ⟨f00, f01, _, _, _⟩ := id A
  obtain ⟨f10, f11, _, _, _⟩ := id B
  go_wp2_with fail
  refine (C3.out _).mono ?_
  rintro e w4 ⟨rfl, hb⟩
  have A := A.keep hb
  have B := B.keep hb
  have HB := Lib.hid (bstep HB.out hb)
  clear hb f00 f01 f10 f11
  obtain ⟨f00, f01, _, _, _⟩ := id A
  obtain ⟨f10, f11, _, _, _⟩ := id B
  go_wp2_with fail
  refine (C4.out _).mono ?_
  rintro e w5 ⟨rfl, hb⟩
  have A := A.keep hb
  have B := B.keep hb
  have HB := Lib.hid (bstep HB.out hb)
  clear hb f00 f01 f10 f11
  obtain ⟨f00, f01, _, _, _⟩ := id A
  obtain ⟨f10, f11, _, _, _⟩ := id B
  go_wp2_with fail
  refine (R1.out _).mono ?_
  rintro e w6 ⟨rfl, hb⟩
  have A := A.keep hb
  have B := B.keep hb
  have HB := Lib.hid (bstep HB.out hb)
  clear hb f00 f01 f10 f11
  obtain ⟨f00, f01, _, _, _⟩ := id A
  obtain ⟨f10, f11, _, _, _⟩ := id B
  go_wp2_with fail
  refine (R2.out _).mono ?_
  rintro e w7 ⟨rfl, hb⟩
  have A := A.keep hb
  have B := B.keep hb
  have HB := Lib.hid (bstep HB.out hb)
  clear hb f00 f01 f10 f11
  obtain ⟨f00, f01, _, _, _⟩ := id A
  obtain ⟨f10, f11, _, _, _⟩ := id B
  go_wp2_with fail
  refine (C5.out _).mono ?_
  rintro e w8 ⟨rfl, hb⟩
  have A := A.keep hb
  have B := B.keep hb
  have HB := Lib.hid (bstep HB.out hb)
  clear hb f00 f01 f10 f11
  obtain ⟨f00, f01, _, _, _⟩ := id A
  obtain ⟨f10, f11, _, _, _⟩ := id B
  go_wp2_with fail
  refine (R3.out _).mono ?_
  rintro e w9 ⟨rfl, hb⟩
  have A := A.keep hb
  have B := B.keep hb
  have HB := Lib.hid (bstep HB.out hb)
  clear hb f00 f01 f10 f11
  obtain ⟨f00, f01, _, _, _⟩ := id A
  obtain ⟨f10, f11, _, _, _⟩ := id B
  go_wp2_with fail
  go_ret
  exact ⟨rfl, HB.out⟩
theorem cps_any (n d n2 d2 : Int) (w : World) (htab : Lib.TabIs Tryd.prog w "internal/strconv.uint64pow10" .u64 Lib.pow10Tab) :
    Calls Tryd.prog 5 #[.agg #[.int .i64 n, .int .i64 d], .agg #[.int .i64 n2, .int .i64 d2]] w fun e w' => e = .returned (.bool true) ∧ Below w.heap.size w w' := by
  cases hk : rok n d
  · exact cps_bad n d n2 d2 w htab hk
  · cases hk2 : rok n2 d2
    · exact cps_b2 n d n2 d2 w htab hk hk2
    · obtain ⟨a, ha, rfl, rfl⟩ := rok_rat hk
      obtain ⟨b, hb, rfl, rfl⟩ := rok_rat hk2
      exact cps_ok a b w htab ha hb
end Go.Proofs.YtlcmnfhkicjclaaDoor
