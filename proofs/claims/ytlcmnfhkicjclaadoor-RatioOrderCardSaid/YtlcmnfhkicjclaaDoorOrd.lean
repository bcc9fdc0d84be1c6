/- RatioOrder: the walk of the law. -/
import Derived.Test.YtlcmnfhkicjclaaDoorFdm
import Derived.Deep.CutRange
namespace Go.Proofs.YtlcmnfhkicjclaaDoor
open Go.RowKit
set_option linter.unusedVariables false

/-- the three arguments' blocks -/
structure Ost (w W : World) (a b c : Nat) (x y u v s t : Int) : Prop where
  A : At2 W a (.int .i64 x) (.int .i64 y)
  B : At2 W b (.int .i64 u) (.int .i64 v)
  C : At2 W c (.int .i64 s) (.int .i64 t)
  bel : Below w.heap.size w W
theorem Ost.keep {w W W' : World} {a b c : Nat} {x y u v s t : Int} (h : Ost w W a b c x y u v s t) (hb : Below W.heap.size W W') : Ost w W' a b c x y u v s t :=
  ⟨h.A.keep hb, h.B.keep hb, h.C.keep hb, bstep h.bel hb⟩
/-- what the three comparisons may be -/
theorem ord_cases (a b c : Rat) : rcmp a b = 1 ∨ ((rcmp a b = 0 ∨ rcmp a b = -1) ∧ rcmp b c = 1) ∨ (rcmp a b = 0 ∧ rcmp b c = 0 ∧ rcmp a c = 0) ∨ (rcmp a b = 0 ∧ rcmp b c = -1 ∧ rcmp a c = -1) ∨ (rcmp a b = -1 ∧ rcmp b c = 0 ∧ rcmp a c = -1) ∨ (rcmp a b = -1 ∧ rcmp b c = -1 ∧ rcmp a c = -1) := by
  have h1 := rcmp_bd a b
  have h2 := rcmp_bd b c
  have h3 := rcmp_bd a c
  have e1 := rcmp_le a b
  have e2 := rcmp_le b c
  have e3 := rcmp_lt a b
  have e4 := rcmp_lt b c
  have e5 := rcmp_lt a c
  have e6 := rcmp_le a c
  have t1 : a ≤ b → b ≤ c → a ≤ c := by grind
  have t2 : a < b → b ≤ c → a < c := by grind
  have t3 : a ≤ b → b < c → a < c := by grind
  have e7 := rcmp_eq a b
  have e8 := rcmp_eq b c
  have e9 := rcmp_eq a c
  by_cases q1 : rcmp a b = 1
  · exact Or.inl q1
  · by_cases q2 : rcmp b c = 1
    · exact Or.inr (Or.inl ⟨by omega, q2⟩)
    · refine Or.inr (Or.inr ?_)
      have g1 : a ≤ b := e1.1 (by omega)
      have g2 : b ≤ c := e2.1 (by omega)
      by_cases q3 : rcmp a b = 0
      · by_cases q4 : rcmp b c = 0
        · exact Or.inl ⟨q3, q4, e9.2 ((e7.1 q3).trans (e8.1 q4))⟩
        · have := e5.2 (t3 g1 (e4.1 (by omega)))
          exact Or.inr (Or.inl ⟨q3, by omega, by omega⟩)
      · have := e5.2 (t2 (e3.1 (by omega)) g2)
        by_cases q4 : rcmp b c = 0
        · exact Or.inr (Or.inr (Or.inl ⟨by omega, q4, by omega⟩))
        · exact Or.inr (Or.inr (Or.inr ⟨by omega, by omega, by omega⟩))
theorem ord_eq (a b : Rat) : (rcmp a b = 0 ∧ a.num = b.num ∧ (a.den : Int) = (b.den : Int)) ∨ ((rcmp a b = 1 ∨ rcmp a b = -1) ∧ (a.num ≠ b.num ∨ (a.num = b.num ∧ (a.den : Int) ≠ (b.den : Int)))) := by
  have h1 := rcmp_bd a b
  by_cases h : rcmp a b = 0
  · have e := (rcmp_eq a b).1 h
    subst e
    exact Or.inl ⟨h, rfl, rfl⟩
  · refine Or.inr ⟨by omega, ?_⟩
    by_cases h2 : a.num = b.num
    · refine Or.inr ⟨h2, fun h3 => h ((rcmp_eq a b).2 (Rat.ext h2 (by exact_mod_cast h3)))⟩
    · exact Or.inl h2

set_option maxRecDepth 100000 in
set_option maxHeartbeats 16000000 in
theorem ord_b1 (n d n2 d2 n3 d3 : Int) (w : World) (htab : Lib.TabIs Tryd.prog w "internal/strconv.uint64pow10" .u64 Lib.pow10Tab) (k1 : rok n d = false) :
    Calls Tryd.prog 9 #[.agg #[.int .i64 n, .int .i64 d], .agg #[.int .i64 n2, .int .i64 d2], .agg #[.int .i64 n3, .int .i64 d3]] w fun e w' => e = .returned (.bool true) ∧ Below w.heap.size w w' := by
  have CA := Lib.hid (fun wx (hb : Below w.heap.size w wx) => awake_any wx (Lib.tabBelow_of_tabIs htab wx hb))
  have C1 := Lib.hid (fun wx => rvalid_is n d false k1 wx)
  clear htab k1
  go_enter Tryd.func9, Tryd.ntmps9
  have A := At2.new w (.int .i64 n) (.int .i64 d) 24
  have A := A.alloc (.cells #[.int .i64 n2, .int .i64 d2] 24)
  have B := At2.new (w.alloc (.cells #[.int .i64 n, .int .i64 d] 24)) (.int .i64 n2) (.int .i64 d2) 24
  simp at B
  have A := A.alloc (.cells #[.int .i64 n3, .int .i64 d3] 24)
  have B := B.alloc (.cells #[.int .i64 n3, .int .i64 d3] 24)
  have C := At2.new ((w.alloc (.cells #[.int .i64 n, .int .i64 d] 24)).alloc (.cells #[.int .i64 n2, .int .i64 d2] 24)) (.int .i64 n3) (.int .i64 d3) 24
  simp at C
  have HB := Lib.hid (bstep (bstep (bstep (Below.refl w.heap.size w) (below1 w (.cells #[.int .i64 n, .int .i64 d] 24))) (below1 (w.alloc (.cells #[.int .i64 n, .int .i64 d] 24)) (.cells #[.int .i64 n2, .int .i64 d2] 24))) (below1 ((w.alloc (.cells #[.int .i64 n, .int .i64 d] 24)).alloc (.cells #[.int .i64 n2, .int .i64 d2] 24)) (.cells #[.int .i64 n3, .int .i64 d3] 24)))
  obtain ⟨f00, f01, -, -, -⟩ := id A
  obtain ⟨f10, f11, -, -, -⟩ := id B
  obtain ⟨f20, f21, -, -, -⟩ := id C
  go_wp2_with fail
  refine (CA.out _ HB.out).mono ?_
  rintro e w1 ⟨rfl, hb⟩
  have A := A.keep hb
  have B := B.keep hb
  have C := C.keep hb
  have HB := Lib.hid (bstep HB.out hb)
  clear hb f00 f01 f10 f11 f20 f21
  obtain ⟨f00, f01, -, -, -⟩ := id A
  obtain ⟨f10, f11, -, -, -⟩ := id B
  obtain ⟨f20, f21, -, -, -⟩ := id C
  go_wp2_with fail
  refine (C1.out _).mono ?_
  rintro e w2 ⟨rfl, hb⟩
  have A := A.keep hb
  have B := B.keep hb
  have C := C.keep hb
  have HB := Lib.hid (bstep HB.out hb)
  clear hb f00 f01 f10 f11 f20 f21
  obtain ⟨f00, f01, -, -, -⟩ := id A
  obtain ⟨f10, f11, -, -, -⟩ := id B
  obtain ⟨f20, f21, -, -, -⟩ := id C
  go_wp2_with fail
  go_ret
  exact ⟨rfl, HB.out⟩

set_option maxRecDepth 100000 in
set_option maxHeartbeats 16000000 in
theorem ord_b2 (n d n2 d2 n3 d3 : Int) (w : World) (htab : Lib.TabIs Tryd.prog w "internal/strconv.uint64pow10" .u64 Lib.pow10Tab) (k1 : rok n d = true) (k2 : rok n2 d2 = false) :
    Calls Tryd.prog 9 #[.agg #[.int .i64 n, .int .i64 d], .agg #[.int .i64 n2, .int .i64 d2], .agg #[.int .i64 n3, .int .i64 d3]] w fun e w' => e = .returned (.bool true) ∧ Below w.heap.size w w' := by
  have CA := Lib.hid (fun wx (hb : Below w.heap.size w wx) => awake_any wx (Lib.tabBelow_of_tabIs htab wx hb))
  have C1 := Lib.hid (fun wx => rvalid_is n d true k1 wx)
  have C2 := Lib.hid (fun wx => rvalid_is n2 d2 false k2 wx)
  clear htab k1 k2
  go_enter Tryd.func9, Tryd.ntmps9
  have A := At2.new w (.int .i64 n) (.int .i64 d) 24
  have A := A.alloc (.cells #[.int .i64 n2, .int .i64 d2] 24)
  have B := At2.new (w.alloc (.cells #[.int .i64 n, .int .i64 d] 24)) (.int .i64 n2) (.int .i64 d2) 24
  simp at B
  have A := A.alloc (.cells #[.int .i64 n3, .int .i64 d3] 24)
  have B := B.alloc (.cells #[.int .i64 n3, .int .i64 d3] 24)
  have C := At2.new ((w.alloc (.cells #[.int .i64 n, .int .i64 d] 24)).alloc (.cells #[.int .i64 n2, .int .i64 d2] 24)) (.int .i64 n3) (.int .i64 d3) 24
  simp at C
  have HB := Lib.hid (bstep (bstep (bstep (Below.refl w.heap.size w) (below1 w (.cells #[.int .i64 n, .int .i64 d] 24))) (below1 (w.alloc (.cells #[.int .i64 n, .int .i64 d] 24)) (.cells #[.int .i64 n2, .int .i64 d2] 24))) (below1 ((w.alloc (.cells #[.int .i64 n, .int .i64 d] 24)).alloc (.cells #[.int .i64 n2, .int .i64 d2] 24)) (.cells #[.int .i64 n3, .int .i64 d3] 24)))
  obtain ⟨f00, f01, -, -, -⟩ := id A
  obtain ⟨f10, f11, -, -, -⟩ := id B
  obtain ⟨f20, f21, -, -, -⟩ := id C
  go_wp2_with fail
  refine (CA.out _ HB.out).mono ?_
  rintro e w1 ⟨rfl, hb⟩
  have A := A.keep hb
  have B := B.keep hb
  have C := C.keep hb
  have HB := Lib.hid (bstep HB.out hb)
  clear hb f00 f01 f10 f11 f20 f21
  obtain ⟨f00, f01, -, -, -⟩ := id A
  obtain ⟨f10, f11, -, -, -⟩ := id B
  obtain ⟨f20, f21, -, -, -⟩ := id C
  go_wp2_with fail
  refine (C1.out _).mono ?_
  rintro e w2 ⟨rfl, hb⟩
  have A := A.keep hb
  have B := B.keep hb
  have C := C.keep hb
  have HB := Lib.hid (bstep HB.out hb)
  clear hb f00 f01 f10 f11 f20 f21
  obtain ⟨f00, f01, -, -, -⟩ := id A
  obtain ⟨f10, f11, -, -, -⟩ := id B
  obtain ⟨f20, f21, -, -, -⟩ := id C
  go_wp2_with fail
  refine (C2.out _).mono ?_
  rintro e w3 ⟨rfl, hb⟩
  have A := A.keep hb
  have B := B.keep hb
  have C := C.keep hb
  have HB := Lib.hid (bstep HB.out hb)
  clear hb f00 f01 f10 f11 f20 f21
  obtain ⟨f00, f01, -, -, -⟩ := id A
  obtain ⟨f10, f11, -, -, -⟩ := id B
  obtain ⟨f20, f21, -, -, -⟩ := id C
  go_wp2_with fail
  go_ret
  exact ⟨rfl, HB.out⟩

set_option maxRecDepth 100000 in
set_option maxHeartbeats 16000000 in
theorem ord_b3 (n d n2 d2 n3 d3 : Int) (w : World) (htab : Lib.TabIs Tryd.prog w "internal/strconv.uint64pow10" .u64 Lib.pow10Tab) (k1 : rok n d = true) (k2 : rok n2 d2 = true) (k3 : rok n3 d3 = false) :
    Calls Tryd.prog 9 #[.agg #[.int .i64 n, .int .i64 d], .agg #[.int .i64 n2, .int .i64 d2], .agg #[.int .i64 n3, .int .i64 d3]] w fun e w' => e = .returned (.bool true) ∧ Below w.heap.size w w' := by
  have CA := Lib.hid (fun wx (hb : Below w.heap.size w wx) => awake_any wx (Lib.tabBelow_of_tabIs htab wx hb))
  have C1 := Lib.hid (fun wx => rvalid_is n d true k1 wx)
  have C2 := Lib.hid (fun wx => rvalid_is n2 d2 true k2 wx)
  have C3 := Lib.hid (fun wx => rvalid_is n3 d3 false k3 wx)
  clear htab k1 k2 k3
  go_enter Tryd.func9, Tryd.ntmps9
  have A := At2.new w (.int .i64 n) (.int .i64 d) 24
  have A := A.alloc (.cells #[.int .i64 n2, .int .i64 d2] 24)
  have B := At2.new (w.alloc (.cells #[.int .i64 n, .int .i64 d] 24)) (.int .i64 n2) (.int .i64 d2) 24
  simp at B
  have A := A.alloc (.cells #[.int .i64 n3, .int .i64 d3] 24)
  have B := B.alloc (.cells #[.int .i64 n3, .int .i64 d3] 24)
  have C := At2.new ((w.alloc (.cells #[.int .i64 n, .int .i64 d] 24)).alloc (.cells #[.int .i64 n2, .int .i64 d2] 24)) (.int .i64 n3) (.int .i64 d3) 24
  simp at C
  have HB := Lib.hid (bstep (bstep (bstep (Below.refl w.heap.size w) (below1 w (.cells #[.int .i64 n, .int .i64 d] 24))) (below1 (w.alloc (.cells #[.int .i64 n, .int .i64 d] 24)) (.cells #[.int .i64 n2, .int .i64 d2] 24))) (below1 ((w.alloc (.cells #[.int .i64 n, .int .i64 d] 24)).alloc (.cells #[.int .i64 n2, .int .i64 d2] 24)) (.cells #[.int .i64 n3, .int .i64 d3] 24)))
  obtain ⟨f00, f01, -, -, -⟩ := id A
  obtain ⟨f10, f11, -, -, -⟩ := id B
  obtain ⟨f20, f21, -, -, -⟩ := id C
  go_wp2_with fail
  refine (CA.out _ HB.out).mono ?_
  rintro e w1 ⟨rfl, hb⟩
  have A := A.keep hb
  have B := B.keep hb
  have C := C.keep hb
  have HB := Lib.hid (bstep HB.out hb)
  clear hb f00 f01 f10 f11 f20 f21
  obtain ⟨f00, f01, -, -, -⟩ := id A
  obtain ⟨f10, f11, -, -, -⟩ := id B
  obtain ⟨f20, f21, -, -, -⟩ := id C
  go_wp2_with fail
  refine (C1.out _).mono ?_
  rintro e w2 ⟨rfl, hb⟩
  have A := A.keep hb
  have B := B.keep hb
  have C := C.keep hb
  have HB := Lib.hid (bstep HB.out hb)
  clear hb f00 f01 f10 f11 f20 f21
  obtain ⟨f00, f01, -, -, -⟩ := id A
  obtain ⟨f10, f11, -, -, -⟩ := id B
  obtain ⟨f20, f21, -, -, -⟩ := id C
  go_wp2_with fail
  refine (C2.out _).mono ?_
  rintro e w3 ⟨rfl, hb⟩
  have A := A.keep hb
  have B := B.keep hb
  have C := C.keep hb
  have HB := Lib.hid (bstep HB.out hb)
  clear hb f00 f01 f10 f11 f20 f21
  obtain ⟨f00, f01, -, -, -⟩ := id A
  obtain ⟨f10, f11, -, -, -⟩ := id B
  obtain ⟨f20, f21, -, -, -⟩ := id C
  go_wp2_with fail
  refine (C3.out _).mono ?_
  rintro e w4 ⟨rfl, hb⟩
  have A := A.keep hb
  have B := B.keep hb
  have C := C.keep hb
  have HB := Lib.hid (bstep HB.out hb)
  clear hb f00 f01 f10 f11 f20 f21
  obtain ⟨f00, f01, -, -, -⟩ := id A
  obtain ⟨f10, f11, -, -, -⟩ := id B
  obtain ⟨f20, f21, -, -, -⟩ := id C
  go_wp2_with fail
  go_ret
  exact ⟨rfl, HB.out⟩

set_option maxRecDepth 100000 in
set_option maxHeartbeats 16000000 in
theorem ord_ok (a b c : Rat) (w : World) (htab : Lib.TabIs Tryd.prog w "internal/strconv.uint64pow10" .u64 Lib.pow10Tab) (ha : rfit a = true) (hb : rfit b = true) (hc : rfit c = true) :
    Calls Tryd.prog 9 #[.agg #[.int .i64 a.num, .int .i64 (a.den : Int)], .agg #[.int .i64 b.num, .int .i64 (b.den : Int)], .agg #[.int .i64 c.num, .int .i64 (c.den : Int)]] w fun e w' => e = .returned (.bool true) ∧ Below w.heap.size w w' := by
  have CA := Lib.hid (fun wx (hb : Below w.heap.size w wx) => awake_any wx (Lib.tabBelow_of_tabIs htab wx hb))
  have V1 := Lib.hid (fun wx => rvalid_is a.num (a.den : Int) true (rok_of ha) wx)
  have V2 := Lib.hid (fun wx => rvalid_is b.num (b.den : Int) true (rok_of hb) wx)
  have V3 := Lib.hid (fun wx => rvalid_is c.num (c.den : Int) true (rok_of hc) wx)
  have P1 := Lib.hid (fun wx => pCmp a b wx ha hb)
  have P2 := Lib.hid (fun wx => pCmp b a wx hb ha)
  rw [rcmp_anti b a] at P2
  have P3 := Lib.hid (fun wx => pCmp b c wx hb hc)
  have P4 := Lib.hid (fun wx => pCmp a c wx ha hc)
  have Q1 := Lib.hid (fun wx => pAdd a c wx ha hc)
  have Q2 := Lib.hid (fun wx => pAdd b c wx hb hc)
  have Q3 : Hid (rE (a + c) = 0 → rE (b + c) = 0 → ∀ wx, Calls Tryd.prog 25 #[.agg #[.int .i64 (rN (a + c)), .int .i64 (rD (a + c))], .agg #[.int .i64 (rN (b + c)), .int .i64 (rD (b + c))]] wx fun e w' => e = .returned (.tuple #[.int .i64 (rcmp a b), .int .i64 0]) ∧ Below wx.heap.size wx w') := by
    intro h1 h2 wx
    have g1 := rE_zero h1
    have g2 := rE_zero h2
    have := pCmp (a + c) (b + c) wx g1 g2
    rw [rcmp_add] at this
    rw [rN_fit g1, rD_fit g1, rN_fit g2, rD_fit g2]
    exact this
  have K1 := Lib.hid (ord_cases a b c)
  have K2 := Lib.hid (ord_eq a b)
  obtain ⟨xn, hxn⟩ : ∃ t, t = rN (a + c) := ⟨_, rfl⟩
  obtain ⟨xd, hxd⟩ : ∃ t, t = rD (a + c) := ⟨_, rfl⟩
  obtain ⟨xz, hxz⟩ : ∃ t, t = rE (a + c) := ⟨_, rfl⟩
  obtain ⟨yn, hyn⟩ : ∃ t, t = rN (b + c) := ⟨_, rfl⟩
  obtain ⟨yd, hyd⟩ : ∃ t, t = rD (b + c) := ⟨_, rfl⟩
  obtain ⟨yz, hyz⟩ : ∃ t, t = rE (b + c) := ⟨_, rfl⟩
  obtain ⟨ab, hab⟩ : ∃ t, t = rcmp a b := ⟨_, rfl⟩
  obtain ⟨bc, hbc⟩ : ∃ t, t = rcmp b c := ⟨_, rfl⟩
  obtain ⟨ac, hac⟩ : ∃ t, t = rcmp a c := ⟨_, rfl⟩
  obtain ⟨an, han⟩ : ∃ t, t = a.num := ⟨_, rfl⟩
  obtain ⟨ad, had⟩ : ∃ t, t = (a.den : Int) := ⟨_, rfl⟩
  obtain ⟨bn, hbn⟩ : ∃ t, t = b.num := ⟨_, rfl⟩
  obtain ⟨bd, hbd⟩ : ∃ t, t = (b.den : Int) := ⟨_, rfl⟩
  obtain ⟨cn, hcn⟩ : ∃ t, t = c.num := ⟨_, rfl⟩
  obtain ⟨cd, hcd⟩ : ∃ t, t = (c.den : Int) := ⟨_, rfl⟩
  simp only [← hxn, ← hxd, ← hxz, ← hyn, ← hyd, ← hyz, ← hab, ← hbc, ← hac, ← han, ← had, ← hbn, ← hbd, ← hcn, ← hcd] at V1 V2 V3 P1 P2 P3 P4 Q1 Q2 Q3 K1 K2 ⊢
  clear htab ha hb hc hxn hxd hxz hyn hyd hyz hab hbc hac han had hbn hbd hcn hcd
  go_enter Tryd.func9, Tryd.ntmps9
  have A := At2.new w (.int .i64 an) (.int .i64 ad) 24
  have A := A.alloc (.cells #[.int .i64 bn, .int .i64 bd] 24)
  have B := At2.new (w.alloc (.cells #[.int .i64 an, .int .i64 ad] 24)) (.int .i64 bn) (.int .i64 bd) 24
  simp at B
  have A := A.alloc (.cells #[.int .i64 cn, .int .i64 cd] 24)
  have B := B.alloc (.cells #[.int .i64 cn, .int .i64 cd] 24)
  have C := At2.new ((w.alloc (.cells #[.int .i64 an, .int .i64 ad] 24)).alloc (.cells #[.int .i64 bn, .int .i64 bd] 24)) (.int .i64 cn) (.int .i64 cd) 24
  simp at C
  have HB := Lib.hid (bstep (bstep (bstep (Below.refl w.heap.size w) (below1 w (.cells #[.int .i64 an, .int .i64 ad] 24))) (below1 (w.alloc (.cells #[.int .i64 an, .int .i64 ad] 24)) (.cells #[.int .i64 bn, .int .i64 bd] 24))) (below1 ((w.alloc (.cells #[.int .i64 an, .int .i64 ad] 24)).alloc (.cells #[.int .i64 bn, .int .i64 bd] 24)) (.cells #[.int .i64 cn, .int .i64 cd] 24)))
  obtain ⟨f00, f01, -, -, -⟩ := id A
  obtain ⟨f10, f11, -, -, -⟩ := id B
  obtain ⟨f20, f21, -, -, -⟩ := id C
  go_wp2_with fail
  refine (CA.out _ HB.out).mono ?_
  rintro e w1 ⟨rfl, hb⟩
  have A := A.keep hb
  have B := B.keep hb
  have C := C.keep hb
  have HB := Lib.hid (bstep HB.out hb)
  clear hb f00 f01 f10 f11 f20 f21
  obtain ⟨f00, f01, -, -, -⟩ := id A
  obtain ⟨f10, f11, -, -, -⟩ := id B
  obtain ⟨f20, f21, -, -, -⟩ := id C
  go_wp2_with fail
  refine (V1.out _).mono ?_
  rintro e w2 ⟨rfl, hb⟩
  have A := A.keep hb
  have B := B.keep hb
  have C := C.keep hb
  have HB := Lib.hid (bstep HB.out hb)
  clear hb f00 f01 f10 f11 f20 f21
  obtain ⟨f00, f01, -, -, -⟩ := id A
  obtain ⟨f10, f11, -, -, -⟩ := id B
  obtain ⟨f20, f21, -, -, -⟩ := id C
  go_wp2_with fail
  refine (V2.out _).mono ?_
  rintro e w3 ⟨rfl, hb⟩
  have A := A.keep hb
  have B := B.keep hb
  have C := C.keep hb
  have HB := Lib.hid (bstep HB.out hb)
  clear hb f00 f01 f10 f11 f20 f21
  obtain ⟨f00, f01, -, -, -⟩ := id A
  obtain ⟨f10, f11, -, -, -⟩ := id B
  obtain ⟨f20, f21, -, -, -⟩ := id C
  go_wp2_with fail
  refine (V3.out _).mono ?_
  rintro e w4 ⟨rfl, hb⟩
  have A := A.keep hb
  have B := B.keep hb
  have C := C.keep hb
  have HB := Lib.hid (bstep HB.out hb)
  clear hb f00 f01 f10 f11 f20 f21
  have T := Lib.hid (Ost.mk A B C HB.out)
  clear A B C HB CA V1 V2 V3
  obtain ⟨⟨a0, a1, -, -, -⟩, ⟨b0, b1, -, -, -⟩, ⟨c0, c1, -, -, -⟩, -⟩ := id T.out
  go_wp2_with fail
  refine (P1.out _).mono ?_
  rintro e v1 ⟨rfl, hb⟩
  have T := Lib.hid (T.out.keep hb)
  clear hb a0 a1 b0 b1 c0 c1
  obtain ⟨⟨a0, a1, -, -, -⟩, ⟨b0, b1, -, -, -⟩, ⟨c0, c1, -, -, -⟩, -⟩ := id T.out
  go_wp2_with fail
  refine (P2.out _).mono ?_
  rintro e v2 ⟨rfl, hb⟩
  have T := Lib.hid (T.out.keep hb)
  clear hb a0 a1 b0 b1 c0 c1
  obtain ⟨⟨a0, a1, -, -, -⟩, ⟨b0, b1, -, -, -⟩, ⟨c0, c1, -, -, -⟩, -⟩ := id T.out
  go_wp2_with fail
  refine (P3.out _).mono ?_
  rintro e v3 ⟨rfl, hb⟩
  have T := Lib.hid (T.out.keep hb)
  clear hb a0 a1 b0 b1 c0 c1
  obtain ⟨⟨a0, a1, -, -, -⟩, ⟨b0, b1, -, -, -⟩, ⟨c0, c1, -, -, -⟩, -⟩ := id T.out
  go_wp2_with fail
  refine (P4.out _).mono ?_
  rintro e v4 ⟨rfl, hb⟩
  have T := Lib.hid (T.out.keep hb)
  clear hb a0 a1 b0 b1 c0 c1
  obtain ⟨⟨a0, a1, -, -, -⟩, ⟨b0, b1, -, -, -⟩, ⟨c0, c1, -, -, -⟩, -⟩ := id T.out
  go_upto_region 9 with fail
  go_cut [95] from 60 to 95 (fun tv wx => tv = .bool false ∧ wx = v4)
  case first =>
    rcases K2.out with ⟨e1, e2, e3⟩ | ⟨e1, e2⟩
    · subst e1 e2 e3
      go_wp2_with fail
      go_meet
      case rel => exact ⟨rfl, rfl⟩
    · rcases e1 with e1 | e1
      · subst e1
        rcases e2 with e2 | ⟨e2, e3⟩
        · have tn : (an == bn) = false := beq_eq_false_iff_ne.2 e2
          clear e2
          go_wp2_with fail
          go_meet
          case rel => exact ⟨rfl, rfl⟩
        · have td : (ad == bd) = false := beq_eq_false_iff_ne.2 e3
          clear e3
          subst e2
          go_wp2_with fail
          go_meet
          case rel => exact ⟨rfl, rfl⟩
      · subst e1
        rcases e2 with e2 | ⟨e2, e3⟩
        · have tn : (an == bn) = false := beq_eq_false_iff_ne.2 e2
          clear e2
          go_wp2_with fail
          go_meet
          case rel => exact ⟨rfl, rfl⟩
        · have td : (ad == bd) = false := beq_eq_false_iff_ne.2 e3
          clear e3
          subst e2
          go_wp2_with fail
          go_meet
          case rel => exact ⟨rfl, rfl⟩
  case rest =>
    obtain ⟨rfl, hw⟩ := hcut
    have hw2 := hw.symm
    subst hw2
    clear K2
    go_upto_region 11 with fail
    go_cut [117] from 96 to 117 (fun tv wx => tv = .bool false ∧ wx = v4)
    case first =>
      rcases K1.out with e1 | ⟨e1 | e1, e2⟩ | ⟨e1, e2, e3⟩ | ⟨e1, e2, e3⟩ | ⟨e1, e2, e3⟩ | ⟨e1, e2, e3⟩
      · subst e1
        go_wp2_with fail
        go_meet
        case rel => exact ⟨rfl, rfl⟩
      · subst e1 e2
        go_wp2_with fail
        go_meet
        case rel => exact ⟨rfl, rfl⟩
      · subst e1 e2
        go_wp2_with fail
        go_meet
        case rel => exact ⟨rfl, rfl⟩
      · subst e1 e2 e3
        go_wp2_with fail
        go_meet
        case rel => exact ⟨rfl, rfl⟩
      · subst e1 e2 e3
        go_wp2_with fail
        go_meet
        case rel => exact ⟨rfl, rfl⟩
      · subst e1 e2 e3
        go_wp2_with fail
        go_meet
        case rel => exact ⟨rfl, rfl⟩
      · subst e1 e2 e3
        go_wp2_with fail
        go_meet
        case rel => exact ⟨rfl, rfl⟩
    case rest =>
      obtain ⟨rfl, hw⟩ := hcut
      have hw2 := hw.symm
      subst hw2
      clear K1 P1 P2 P3 P4
      clear a0 a1 b0 b1 c0 c1
      obtain ⟨⟨a0, a1, -, -, -⟩, ⟨b0, b1, -, -, -⟩, ⟨c0, c1, -, -, -⟩, -⟩ := id T.out
      go_wp2_with fail
      refine (Q1.out _).mono ?_
      rintro e v5 ⟨rfl, hb⟩
      have T := Lib.hid (T.out.keep hb)
      clear hb a0 a1 b0 b1 c0 c1
      have T := Lib.hid (T.out.keep (below1 v5 (.cells #[.int .i64 xn, .int .i64 xd] 24)))
      have X := At2.new v5 (.int .i64 xn) (.int .i64 xd) 24
      obtain ⟨⟨a0, a1, -, -, -⟩, ⟨b0, b1, -, -, -⟩, ⟨c0, c1, -, -, -⟩, -⟩ := id T.out
      obtain ⟨h00, h01, -, -, -⟩ := id X
      go_wp2_with fail
      refine (Q2.out _).mono ?_
      rintro e v6 ⟨rfl, hb⟩
      have X := X.keep hb
      have T := Lib.hid (T.out.keep hb)
      clear hb a0 a1 b0 b1 c0 c1 h00 h01
      have X := X.alloc (.cells #[.int .i64 yn, .int .i64 yd] 24)
      have T := Lib.hid (T.out.keep (below1 v6 (.cells #[.int .i64 yn, .int .i64 yd] 24)))
      have Y := At2.new v6 (.int .i64 yn) (.int .i64 yd) 24
      obtain ⟨⟨a0, a1, -, -, -⟩, ⟨b0, b1, -, -, -⟩, ⟨c0, c1, -, -, -⟩, -⟩ := id T.out
      obtain ⟨h00, h01, -, -, -⟩ := id X
      obtain ⟨h10, h11, -, -, -⟩ := id Y
      by_cases z1 : xz = 0
      · by_cases z2 : yz = 0
        · have C3 := Lib.hid (Q3.out z1 z2)
          subst z1 z2
          go_wp2_with fail
          refine (C3.out _).mono ?_
          rintro e v7 ⟨rfl, hb⟩
          have T := Lib.hid (T.out.keep hb)
          clear hb a0 a1 b0 b1 c0 c1 h00 h01 h10 h11
          go_wp2_with fail
          go_ret
          exact ⟨rfl, T.out.bel⟩
        · have tz : (yz != 0) = true := by rw [bne_iff_ne]; exact z2
          subst z1
          clear z2
          go_wp2_with fail
          go_ret
          exact ⟨rfl, T.out.bel⟩
      · have tz : (xz != 0) = true := by rw [bne_iff_ne]; exact z1
        clear z1
        go_wp2_with fail
        go_ret
        exact ⟨rfl, T.out.bel⟩
theorem ord_any (n d n2 d2 n3 d3 : Int) (w : World) (htab : Lib.TabIs Tryd.prog w "internal/strconv.uint64pow10" .u64 Lib.pow10Tab) :
    Calls Tryd.prog 9 #[.agg #[.int .i64 n, .int .i64 d], .agg #[.int .i64 n2, .int .i64 d2], .agg #[.int .i64 n3, .int .i64 d3]] w fun e w' => e = .returned (.bool true) ∧ Below w.heap.size w w' := by
  cases k1 : rok n d
  · exact ord_b1 n d n2 d2 n3 d3 w htab k1
  · cases k2 : rok n2 d2
    · exact ord_b2 n d n2 d2 n3 d3 w htab k1 k2
    · cases k3 : rok n3 d3
      · exact ord_b3 n d n2 d2 n3 d3 w htab k1 k2 k3
      · obtain ⟨a, ha, rfl, rfl⟩ := rok_rat k1
        obtain ⟨b, hb, rfl, rfl⟩ := rok_rat k2
        obtain ⟨c, hc, rfl, rfl⟩ := rok_rat k3
        exact ord_ok a b c w htab ha hb hc
end Go.Proofs.YtlcmnfhkicjclaaDoor
