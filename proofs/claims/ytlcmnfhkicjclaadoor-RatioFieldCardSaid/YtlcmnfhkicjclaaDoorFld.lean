/- RatioField: the walk of the law. -/
import Derived.Test.YtlcmnfhkicjclaaDoorFdm
import Derived.Deep.CutRange
namespace Go.Proofs.YtlcmnfhkicjclaaDoor
open Go.RowKit
set_option linter.unusedVariables false

/-- the three arguments' blocks and the row of the two functions -/
structure Fst (w W : World) (a b c g : Nat) (x y u v s t : Int) : Prop where
  A : At2 W a (.int .i64 x) (.int .i64 y)
  B : At2 W b (.int .i64 u) (.int .i64 v)
  C : At2 W c (.int .i64 s) (.int .i64 t)
  G : At2 W g (.func (.func 17) #[] #[]) (.func (.func 19) #[] #[])
  bel : Below w.heap.size w W
theorem Fst.keep {w W W' : World} {a b c g : Nat} {x y u v s t : Int} (h : Fst w W a b c g x y u v s t) (hb : Below W.heap.size W W') : Fst w W' a b c g x y u v s t :=
  ⟨h.A.keep hb, h.B.keep hb, h.C.keep hb, h.G.keep hb, bstep h.bel hb⟩

set_option maxRecDepth 100000 in
set_option maxHeartbeats 16000000 in
theorem fld_b1 (n d n2 d2 n3 d3 : Int) (w : World) (htab : Lib.TabIs Tryd.prog w "internal/strconv.uint64pow10" .u64 Lib.pow10Tab) (k1 : rok n d = false) :
    Calls Tryd.prog 8 #[.agg #[.int .i64 n, .int .i64 d], .agg #[.int .i64 n2, .int .i64 d2], .agg #[.int .i64 n3, .int .i64 d3]] w fun e w' => e = .returned (.bool true) ∧ Below w.heap.size w w' := by
  have CA := Lib.hid (fun wx (hb : Below w.heap.size w wx) => awake_any wx (Lib.tabBelow_of_tabIs htab wx hb))
  have C1 := Lib.hid (fun wx => rvalid_is n d false k1 wx)
  clear htab k1
  go_enter Tryd.func8, Tryd.ntmps8
  have A := At2.new w (.int .i64 n) (.int .i64 d) 24
  have A := A.alloc (.cells #[.int .i64 n2, .int .i64 d2] 24)
  have B := At2.new (w.alloc (.cells #[.int .i64 n, .int .i64 d] 24)) (.int .i64 n2) (.int .i64 d2) 24
  simp at B
  have A := A.alloc (.cells #[.int .i64 n3, .int .i64 d3] 24)
  have B := B.alloc (.cells #[.int .i64 n3, .int .i64 d3] 24)
  have C := At2.new ((w.alloc (.cells #[.int .i64 n, .int .i64 d] 24)).alloc (.cells #[.int .i64 n2, .int .i64 d2] 24)) (.int .i64 n3) (.int .i64 d3) 24
  simp at C
  have HB := Lib.hid (bstep (bstep (bstep (Below.refl w.heap.size w) (below1 w (.cells #[.int .i64 n, .int .i64 d] 24))) (below1 (w.alloc (.cells #[.int .i64 n, .int .i64 d] 24)) (.cells #[.int .i64 n2, .int .i64 d2] 24))) (below1 ((w.alloc (.cells #[.int .i64 n, .int .i64 d] 24)).alloc (.cells #[.int .i64 n2, .int .i64 d2] 24)) (.cells #[.int .i64 n3, .int .i64 d3] 24)))
  obtain ⟨f00, f01, -, -, -⟩ := id A
  obtain ⟨f10, f11, -, -, -⟩ := id B
  obtain ⟨f20, f21, -, -, -⟩ := id C
  go_wp2_with fail
  refine (CA.out _ HB.out).mono ?_
  rintro e w1 ⟨rfl, hb⟩
  have A := A.keep hb
  have B := B.keep hb
  have C := C.keep hb
  have HB := Lib.hid (bstep HB.out hb)
  clear hb f00 f01 f10 f11 f20 f21
  obtain ⟨f00, f01, -, -, -⟩ := id A
  obtain ⟨f10, f11, -, -, -⟩ := id B
  obtain ⟨f20, f21, -, -, -⟩ := id C
  go_wp2_with fail
  refine (C1.out _).mono ?_
  rintro e w2 ⟨rfl, hb⟩
  have A := A.keep hb
  have B := B.keep hb
  have C := C.keep hb
  have HB := Lib.hid (bstep HB.out hb)
  clear hb f00 f01 f10 f11 f20 f21
  obtain ⟨f00, f01, -, -, -⟩ := id A
  obtain ⟨f10, f11, -, -, -⟩ := id B
  obtain ⟨f20, f21, -, -, -⟩ := id C
  go_wp2_with fail
  go_ret
  exact ⟨rfl, HB.out⟩

set_option maxRecDepth 100000 in
set_option maxHeartbeats 16000000 in
theorem fld_b2 (n d n2 d2 n3 d3 : Int) (w : World) (htab : Lib.TabIs Tryd.prog w "internal/strconv.uint64pow10" .u64 Lib.pow10Tab) (k1 : rok n d = true) (k2 : rok n2 d2 = false) :
    Calls Tryd.prog 8 #[.agg #[.int .i64 n, .int .i64 d], .agg #[.int .i64 n2, .int .i64 d2], .agg #[.int .i64 n3, .int .i64 d3]] w fun e w' => e = .returned (.bool true) ∧ Below w.heap.size w w' := by
  have CA := Lib.hid (fun wx (hb : Below w.heap.size w wx) => awake_any wx (Lib.tabBelow_of_tabIs htab wx hb))
  have C1 := Lib.hid (fun wx => rvalid_is n d true k1 wx)
  have C2 := Lib.hid (fun wx => rvalid_is n2 d2 false k2 wx)
  clear htab k1 k2
  go_enter Tryd.func8, Tryd.ntmps8
  have A := At2.new w (.int .i64 n) (.int .i64 d) 24
  have A := A.alloc (.cells #[.int .i64 n2, .int .i64 d2] 24)
  have B := At2.new (w.alloc (.cells #[.int .i64 n, .int .i64 d] 24)) (.int .i64 n2) (.int .i64 d2) 24
  simp at B
  have A := A.alloc (.cells #[.int .i64 n3, .int .i64 d3] 24)
  have B := B.alloc (.cells #[.int .i64 n3, .int .i64 d3] 24)
  have C := At2.new ((w.alloc (.cells #[.int .i64 n, .int .i64 d] 24)).alloc (.cells #[.int .i64 n2, .int .i64 d2] 24)) (.int .i64 n3) (.int .i64 d3) 24
  simp at C
  have HB := Lib.hid (bstep (bstep (bstep (Below.refl w.heap.size w) (below1 w (.cells #[.int .i64 n, .int .i64 d] 24))) (below1 (w.alloc (.cells #[.int .i64 n, .int .i64 d] 24)) (.cells #[.int .i64 n2, .int .i64 d2] 24))) (below1 ((w.alloc (.cells #[.int .i64 n, .int .i64 d] 24)).alloc (.cells #[.int .i64 n2, .int .i64 d2] 24)) (.cells #[.int .i64 n3, .int .i64 d3] 24)))
  obtain ⟨f00, f01, -, -, -⟩ := id A
  obtain ⟨f10, f11, -, -, -⟩ := id B
  obtain ⟨f20, f21, -, -, -⟩ := id C
  go_wp2_with fail
  refine (CA.out _ HB.out).mono ?_
  rintro e w1 ⟨rfl, hb⟩
  have A := A.keep hb
  have B := B.keep hb
  have C := C.keep hb
  have HB := Lib.hid (bstep HB.out hb)
  clear hb f00 f01 f10 f11 f20 f21
  obtain ⟨f00, f01, -, -, -⟩ := id A
  obtain ⟨f10, f11, -, -, -⟩ := id B
  obtain ⟨f20, f21, -, -, -⟩ := id C
  go_wp2_with fail
  refine (C1.out _).mono ?_
  rintro e w2 ⟨rfl, hb⟩
  have A := A.keep hb
  have B := B.keep hb
  have C := C.keep hb
  have HB := Lib.hid (bstep HB.out hb)
  clear hb f00 f01 f10 f11 f20 f21
  obtain ⟨f00, f01, -, -, -⟩ := id A
  obtain ⟨f10, f11, -, -, -⟩ := id B
  obtain ⟨f20, f21, -, -, -⟩ := id C
  go_wp2_with fail
  refine (C2.out _).mono ?_
  rintro e w3 ⟨rfl, hb⟩
  have A := A.keep hb
  have B := B.keep hb
  have C := C.keep hb
  have HB := Lib.hid (bstep HB.out hb)
  clear hb f00 f01 f10 f11 f20 f21
  obtain ⟨f00, f01, -, -, -⟩ := id A
  obtain ⟨f10, f11, -, -, -⟩ := id B
  obtain ⟨f20, f21, -, -, -⟩ := id C
  go_wp2_with fail
  go_ret
  exact ⟨rfl, HB.out⟩

set_option maxRecDepth 100000 in
set_option maxHeartbeats 16000000 in
theorem fld_b3 (n d n2 d2 n3 d3 : Int) (w : World) (htab : Lib.TabIs Tryd.prog w "internal/strconv.uint64pow10" .u64 Lib.pow10Tab) (k1 : rok n d = true) (k2 : rok n2 d2 = true) (k3 : rok n3 d3 = false) :
    Calls Tryd.prog 8 #[.agg #[.int .i64 n, .int .i64 d], .agg #[.int .i64 n2, .int .i64 d2], .agg #[.int .i64 n3, .int .i64 d3]] w fun e w' => e = .returned (.bool true) ∧ Below w.heap.size w w' := by
  have CA := Lib.hid (fun wx (hb : Below w.heap.size w wx) => awake_any wx (Lib.tabBelow_of_tabIs htab wx hb))
  have C1 := Lib.hid (fun wx => rvalid_is n d true k1 wx)
  have C2 := Lib.hid (fun wx => rvalid_is n2 d2 true k2 wx)
  have C3 := Lib.hid (fun wx => rvalid_is n3 d3 false k3 wx)
  clear htab k1 k2 k3
  go_enter Tryd.func8, Tryd.ntmps8
  have A := At2.new w (.int .i64 n) (.int .i64 d) 24
  have A := A.alloc (.cells #[.int .i64 n2, .int .i64 d2] 24)
  have B := At2.new (w.alloc (.cells #[.int .i64 n, .int .i64 d] 24)) (.int .i64 n2) (.int .i64 d2) 24
  simp at B
  have A := A.alloc (.cells #[.int .i64 n3, .int .i64 d3] 24)
  have B := B.alloc (.cells #[.int .i64 n3, .int .i64 d3] 24)
  have C := At2.new ((w.alloc (.cells #[.int .i64 n, .int .i64 d] 24)).alloc (.cells #[.int .i64 n2, .int .i64 d2] 24)) (.int .i64 n3) (.int .i64 d3) 24
  simp at C
  have HB := Lib.hid (bstep (bstep (bstep (Below.refl w.heap.size w) (below1 w (.cells #[.int .i64 n, .int .i64 d] 24))) (below1 (w.alloc (.cells #[.int .i64 n, .int .i64 d] 24)) (.cells #[.int .i64 n2, .int .i64 d2] 24))) (below1 ((w.alloc (.cells #[.int .i64 n, .int .i64 d] 24)).alloc (.cells #[.int .i64 n2, .int .i64 d2] 24)) (.cells #[.int .i64 n3, .int .i64 d3] 24)))
  obtain ⟨f00, f01, -, -, -⟩ := id A
  obtain ⟨f10, f11, -, -, -⟩ := id B
  obtain ⟨f20, f21, -, -, -⟩ := id C
  go_wp2_with fail
  refine (CA.out _ HB.out).mono ?_
  rintro e w1 ⟨rfl, hb⟩
  have A := A.keep hb
  have B := B.keep hb
  have C := C.keep hb
  have HB := Lib.hid (bstep HB.out hb)
  clear hb f00 f01 f10 f11 f20 f21
  obtain ⟨f00, f01, -, -, -⟩ := id A
  obtain ⟨f10, f11, -, -, -⟩ := id B
  obtain ⟨f20, f21, -, -, -⟩ := id C
  go_wp2_with fail
  refine (C1.out _).mono ?_
  rintro e w2 ⟨rfl, hb⟩
  have A := A.keep hb
  have B := B.keep hb
  have C := C.keep hb
  have HB := Lib.hid (bstep HB.out hb)
  clear hb f00 f01 f10 f11 f20 f21
  obtain ⟨f00, f01, -, -, -⟩ := id A
  obtain ⟨f10, f11, -, -, -⟩ := id B
  obtain ⟨f20, f21, -, -, -⟩ := id C
  go_wp2_with fail
  refine (C2.out _).mono ?_
  rintro e w3 ⟨rfl, hb⟩
  have A := A.keep hb
  have B := B.keep hb
  have C := C.keep hb
  have HB := Lib.hid (bstep HB.out hb)
  clear hb f00 f01 f10 f11 f20 f21
  obtain ⟨f00, f01, -, -, -⟩ := id A
  obtain ⟨f10, f11, -, -, -⟩ := id B
  obtain ⟨f20, f21, -, -, -⟩ := id C
  go_wp2_with fail
  refine (C3.out _).mono ?_
  rintro e w4 ⟨rfl, hb⟩
  have A := A.keep hb
  have B := B.keep hb
  have C := C.keep hb
  have HB := Lib.hid (bstep HB.out hb)
  clear hb f00 f01 f10 f11 f20 f21
  obtain ⟨f00, f01, -, -, -⟩ := id A
  obtain ⟨f10, f11, -, -, -⟩ := id B
  obtain ⟨f20, f21, -, -, -⟩ := id C
  go_wp2_with fail
  go_ret
  exact ⟨rfl, HB.out⟩

set_option maxRecDepth 100000 in
set_option maxHeartbeats 16000000 in
theorem fld_ok (a b c : Rat) (w : World) (htab : Lib.TabIs Tryd.prog w "internal/strconv.uint64pow10" .u64 Lib.pow10Tab) (ha : rfit a = true) (hb : rfit b = true) (hc : rfit c = true) :
    Calls Tryd.prog 8 #[.agg #[.int .i64 a.num, .int .i64 (a.den : Int)], .agg #[.int .i64 b.num, .int .i64 (b.den : Int)], .agg #[.int .i64 c.num, .int .i64 (c.den : Int)]] w fun e w' => e = .returned (.bool true) ∧ Below w.heap.size w w' := by
  have CA := Lib.hid (fun wx (hb : Below w.heap.size w wx) => awake_any wx (Lib.tabBelow_of_tabIs htab wx hb))
  have V1 := Lib.hid (fun wx => rvalid_is a.num (a.den : Int) true (rok_of ha) wx)
  have V2 := Lib.hid (fun wx => rvalid_is b.num (b.den : Int) true (rok_of hb) wx)
  have V3 := Lib.hid (fun wx => rvalid_is c.num (c.den : Int) true (rok_of hc) wx)
  obtain ⟨x, y, z, lx, ly, lz, mx, my, mz, rx, ry, rz, hL⟩ := loopF addOf addEx (fun p q => Rat.add_comm p q) (fun p q r => Rat.add_assoc p q r) a b c ha hb hc
  obtain ⟨x', y', z', lx', ly', lz', mx', my', mz', rx', ry', rz', hM⟩ := loopF mulOf mulEx (fun p q => Rat.mul_comm p q) (fun p q r => Rat.mul_assoc p q r) a b c ha hb hc
  obtain ⟨sx, sy, sz, dlx, dly, dlz, xx, xy, xz, yx, yy, yz, drx, dry, drz, hD⟩ := distF a b c ha hb hc
  obtain ⟨dx, dy, dz, kx, ky, kz, hS⟩ := subF a b ha hb
  obtain ⟨qx, qy, qz, nx, ny, nz, hQ⟩ := divF a b ha hb
  have L1 := Lib.hid hL.ab
  have L2 := Lib.hid hL.ba
  have L3 := Lib.hid hL.l
  have L4 := Lib.hid hL.m
  have L5 := Lib.hid hL.r
  have L6 := Lib.hid hL.eq
  have M1 := Lib.hid hM.ab
  have M2 := Lib.hid hM.ba
  have M3 := Lib.hid hM.l
  have M4 := Lib.hid hM.m
  have M5 := Lib.hid hM.r
  have M6 := Lib.hid hM.eq
  have D1 := Lib.hid hD.s
  have D2 := Lib.hid hD.l
  have D3 := Lib.hid hD.x
  have D4 := Lib.hid hD.y
  have D5 := Lib.hid hD.r
  have D6 := Lib.hid hD.eq
  have S1 := Lib.hid hS.d
  have S2 := Lib.hid hS.k
  have S3 := Lib.hid hS.eq
  have Q1 := Lib.hid hQ.q
  have Q2 := Lib.hid hQ.n
  have Q3 := Lib.hid hQ.eq
  obtain ⟨an, han⟩ : ∃ t, t = a.num := ⟨_, rfl⟩
  obtain ⟨ad, had⟩ : ∃ t, t = (a.den : Int) := ⟨_, rfl⟩
  obtain ⟨bn, hbn⟩ : ∃ t, t = b.num := ⟨_, rfl⟩
  obtain ⟨bd, hbd⟩ : ∃ t, t = (b.den : Int) := ⟨_, rfl⟩
  obtain ⟨cn, hcn⟩ : ∃ t, t = c.num := ⟨_, rfl⟩
  obtain ⟨cd, hcd⟩ : ∃ t, t = (c.den : Int) := ⟨_, rfl⟩
  rw [← han, ← had] at V1
  rw [← hbn, ← hbd] at V2
  rw [← hcn, ← hcd] at V3
  rw [← han, ← had, ← hbn, ← hbd] at L1 L2 M1 M2 D3 S1 Q1
  rw [← hcn, ← hcd] at L3 M3
  rw [← hbn, ← hbd, ← hcn, ← hcd] at L4 M4 D1
  rw [← han, ← had] at L5 M5 D2 S3
  rw [← han, ← had, ← hcn, ← hcd] at D4
  rw [← hbn, ← hbd] at S2 Q2
  rw [← han, ← had, ← hbn] at Q3
  rw [← han, ← had, ← hbn, ← hbd, ← hcn, ← hcd]
  clear htab ha hb hc hL hM hD hS hQ han had hbn hbd hcn hcd
  go_enter Tryd.func8, Tryd.ntmps8
  have A := At2.new w (.int .i64 an) (.int .i64 ad) 24
  have A := A.alloc (.cells #[.int .i64 bn, .int .i64 bd] 24)
  have B := At2.new (w.alloc (.cells #[.int .i64 an, .int .i64 ad] 24)) (.int .i64 bn) (.int .i64 bd) 24
  simp at B
  have A := A.alloc (.cells #[.int .i64 cn, .int .i64 cd] 24)
  have B := B.alloc (.cells #[.int .i64 cn, .int .i64 cd] 24)
  have C := At2.new ((w.alloc (.cells #[.int .i64 an, .int .i64 ad] 24)).alloc (.cells #[.int .i64 bn, .int .i64 bd] 24)) (.int .i64 cn) (.int .i64 cd) 24
  simp at C
  have HB := Lib.hid (bstep (bstep (bstep (Below.refl w.heap.size w) (below1 w (.cells #[.int .i64 an, .int .i64 ad] 24))) (below1 (w.alloc (.cells #[.int .i64 an, .int .i64 ad] 24)) (.cells #[.int .i64 bn, .int .i64 bd] 24))) (below1 ((w.alloc (.cells #[.int .i64 an, .int .i64 ad] 24)).alloc (.cells #[.int .i64 bn, .int .i64 bd] 24)) (.cells #[.int .i64 cn, .int .i64 cd] 24)))
  obtain ⟨f00, f01, -, -, -⟩ := id A
  obtain ⟨f10, f11, -, -, -⟩ := id B
  obtain ⟨f20, f21, -, -, -⟩ := id C
  go_wp2_with fail
  refine (CA.out _ HB.out).mono ?_
  rintro e w1 ⟨rfl, hb⟩
  have A := A.keep hb
  have B := B.keep hb
  have C := C.keep hb
  have HB := Lib.hid (bstep HB.out hb)
  clear hb f00 f01 f10 f11 f20 f21
  obtain ⟨f00, f01, -, -, -⟩ := id A
  obtain ⟨f10, f11, -, -, -⟩ := id B
  obtain ⟨f20, f21, -, -, -⟩ := id C
  go_wp2_with fail
  refine (V1.out _).mono ?_
  rintro e w2 ⟨rfl, hb⟩
  have A := A.keep hb
  have B := B.keep hb
  have C := C.keep hb
  have HB := Lib.hid (bstep HB.out hb)
  clear hb f00 f01 f10 f11 f20 f21
  obtain ⟨f00, f01, -, -, -⟩ := id A
  obtain ⟨f10, f11, -, -, -⟩ := id B
  obtain ⟨f20, f21, -, -, -⟩ := id C
  go_wp2_with fail
  refine (V2.out _).mono ?_
  rintro e w3 ⟨rfl, hb⟩
  have A := A.keep hb
  have B := B.keep hb
  have C := C.keep hb
  have HB := Lib.hid (bstep HB.out hb)
  clear hb f00 f01 f10 f11 f20 f21
  obtain ⟨f00, f01, -, -, -⟩ := id A
  obtain ⟨f10, f11, -, -, -⟩ := id B
  obtain ⟨f20, f21, -, -, -⟩ := id C
  go_wp2_with fail
  refine (V3.out _).mono ?_
  rintro e w4 ⟨rfl, hb⟩
  have A := A.keep hb
  have B := B.keep hb
  have C := C.keep hb
  have HB := Lib.hid (bstep HB.out hb)
  clear hb f00 f01 f10 f11 f20 f21
  obtain ⟨f00, f01, -, -, -⟩ := id A
  obtain ⟨f10, f11, -, -, -⟩ := id B
  obtain ⟨f20, f21, -, -, -⟩ := id C
  go_wp2_with fail
  have T := Lib.hid (Fst.mk (A.alloc (.cells #[.func (.func 17) #[] #[], .func (.func 19) #[] #[]] 32)) (B.alloc (.cells #[.func (.func 17) #[] #[], .func (.func 19) #[] #[]] 32)) (C.alloc (.cells #[.func (.func 17) #[] #[], .func (.func 19) #[] #[]] 32)) (At2.new w4 (.func (.func 17) #[] #[]) (.func (.func 19) #[] #[]) 32) (bstep HB.out (below1 w4 (.cells #[.func (.func 17) #[] #[], .func (.func 19) #[] #[]] 32))))
  clear f00 f01 f10 f11 f20 f21 A B C HB CA V1 V2 V3
  go_loopg [53] 2 (fun m v wr => ∃ i : Nat, m = 2 - i ∧ i ≤ 2 ∧ v = .int .i64 (i : Int) ∧ Hid (Fst w wr w.heap.size (w.heap.size + 1) (w.heap.size + 1 + 1) w4.heap.size an ad bn bd cn cd))
  case atStart => exact ⟨0, rfl, by omega, rfl, T⟩
  case round =>
    obtain ⟨i, hgk, hi, rfl, T⟩ := hrel
    have HGK := Lib.hid hgk
    clear hgk
    rcases (show i = 0 ∨ i = 1 ∨ i = 2 by omega) with rfl | rfl | rfl
    · clear M1 M2 M3 M4 M5 M6 D1 D2 D3 D4 D5 D6 S1 S2 S3 Q1 Q2 Q3
      obtain ⟨⟨a0, a1, -, -, -⟩, ⟨b0, b1, -, -, -⟩, ⟨c0, c1, -, -, -⟩, ⟨g0, g1, -, -, -⟩, -⟩ := id T.out
      go_wp2_with fail
      refine (L1.out _).mono ?_
      rintro e v1 ⟨rfl, hb⟩
      have T := Lib.hid (T.out.keep hb)
      clear hb a0 a1 b0 b1 c0 c1 g0 g1
      have T := Lib.hid (T.out.keep (below1 v1 (.cells #[.int .i64 x, .int .i64 y] 24)))
      have X := At2.new v1 (.int .i64 x) (.int .i64 y) 24
      obtain ⟨⟨a0, a1, -, -, -⟩, ⟨b0, b1, -, -, -⟩, ⟨c0, c1, -, -, -⟩, ⟨g0, g1, -, -, -⟩, -⟩ := id T.out
      obtain ⟨h00, h01, -, -, -⟩ := id X
      go_wp2_with fail
      refine (L2.out _).mono ?_
      rintro e v2 ⟨rfl, hb⟩
      have X := X.keep hb
      have T := Lib.hid (T.out.keep hb)
      clear hb a0 a1 b0 b1 c0 c1 g0 g1 h00 h01
      have X := X.alloc (.cells #[.int .i64 x, .int .i64 y] 24)
      have T := Lib.hid (T.out.keep (below1 v2 (.cells #[.int .i64 x, .int .i64 y] 24)))
      have Y := At2.new v2 (.int .i64 x) (.int .i64 y) 24
      obtain ⟨⟨a0, a1, -, -, -⟩, ⟨b0, b1, -, -, -⟩, ⟨c0, c1, -, -, -⟩, ⟨g0, g1, -, -, -⟩, -⟩ := id T.out
      obtain ⟨h00, h01, -, -, -⟩ := id X
      obtain ⟨h10, h11, -, -, -⟩ := id Y
      go_wp2_with fail
      refine (L3.out _).mono ?_
      rintro e v3 ⟨rfl, hb⟩
      have X := X.keep hb
      have Y := Y.keep hb
      have T := Lib.hid (T.out.keep hb)
      clear hb a0 a1 b0 b1 c0 c1 g0 g1 h00 h01 h10 h11
      have X := X.alloc (.cells #[.int .i64 lx, .int .i64 ly] 24)
      have Y := Y.alloc (.cells #[.int .i64 lx, .int .i64 ly] 24)
      have T := Lib.hid (T.out.keep (below1 v3 (.cells #[.int .i64 lx, .int .i64 ly] 24)))
      have L := At2.new v3 (.int .i64 lx) (.int .i64 ly) 24
      obtain ⟨⟨a0, a1, -, -, -⟩, ⟨b0, b1, -, -, -⟩, ⟨c0, c1, -, -, -⟩, ⟨g0, g1, -, -, -⟩, -⟩ := id T.out
      obtain ⟨h00, h01, -, -, -⟩ := id X
      obtain ⟨h10, h11, -, -, -⟩ := id Y
      obtain ⟨h20, h21, -, -, -⟩ := id L
      go_wp2_with fail
      refine (L4.out _).mono ?_
      rintro e v4 ⟨rfl, hb⟩
      have X := X.keep hb
      have Y := Y.keep hb
      have L := L.keep hb
      have T := Lib.hid (T.out.keep hb)
      clear hb a0 a1 b0 b1 c0 c1 g0 g1 h00 h01 h10 h11 h20 h21
      have X := X.alloc (.cells #[.int .i64 mx, .int .i64 my] 24)
      have Y := Y.alloc (.cells #[.int .i64 mx, .int .i64 my] 24)
      have L := L.alloc (.cells #[.int .i64 mx, .int .i64 my] 24)
      have T := Lib.hid (T.out.keep (below1 v4 (.cells #[.int .i64 mx, .int .i64 my] 24)))
      have M := At2.new v4 (.int .i64 mx) (.int .i64 my) 24
      obtain ⟨⟨a0, a1, -, -, -⟩, ⟨b0, b1, -, -, -⟩, ⟨c0, c1, -, -, -⟩, ⟨g0, g1, -, -, -⟩, -⟩ := id T.out
      obtain ⟨h00, h01, -, -, -⟩ := id X
      obtain ⟨h10, h11, -, -, -⟩ := id Y
      obtain ⟨h20, h21, -, -, -⟩ := id L
      obtain ⟨h30, h31, -, -, -⟩ := id M
      go_wp2_with fail
      refine (L5.out _).mono ?_
      rintro e v5 ⟨rfl, hb⟩
      have X := X.keep hb
      have Y := Y.keep hb
      have L := L.keep hb
      have M := M.keep hb
      have T := Lib.hid (T.out.keep hb)
      clear hb a0 a1 b0 b1 c0 c1 g0 g1 h00 h01 h10 h11 h20 h21 h30 h31
      have X := X.alloc (.cells #[.int .i64 rx, .int .i64 ry] 24)
      have Y := Y.alloc (.cells #[.int .i64 rx, .int .i64 ry] 24)
      have L := L.alloc (.cells #[.int .i64 rx, .int .i64 ry] 24)
      have M := M.alloc (.cells #[.int .i64 rx, .int .i64 ry] 24)
      have T := Lib.hid (T.out.keep (below1 v5 (.cells #[.int .i64 rx, .int .i64 ry] 24)))
      have R := At2.new v5 (.int .i64 rx) (.int .i64 ry) 24
      obtain ⟨⟨a0, a1, -, -, -⟩, ⟨b0, b1, -, -, -⟩, ⟨c0, c1, -, -, -⟩, ⟨g0, g1, -, -, -⟩, -⟩ := id T.out
      obtain ⟨h00, h01, -, -, -⟩ := id X
      obtain ⟨h10, h11, -, -, -⟩ := id Y
      obtain ⟨h20, h21, -, -, -⟩ := id L
      obtain ⟨h30, h31, -, -, -⟩ := id M
      obtain ⟨h40, h41, -, -, -⟩ := id R
      by_cases e0 : z = 0
      · subst e0
        by_cases e1 : lz = 0
        · subst e1
          by_cases e2 : mz = 0
          · subst e2
            by_cases e3 : rz = 0
            · subst e3
              rcases L6.out with ⟨-, -, -, -, g5, g6⟩ | hno
              · subst g5 g6
                go_wp2_with fail
                go_roundg 1
                case measure => have := HGK.out; omega
                case rel => exact ⟨1, rfl, by omega, by go_num, T⟩
              · exact absurd hno (by decide)
            · have tno : (rz == 0) = false := beq_eq_false_iff_ne.2 e3
              clear e3
              go_wp2_with fail
              go_roundg 1
              case measure => have := HGK.out; omega
              case rel => exact ⟨1, rfl, by omega, by go_num, T⟩
          · have tno : (mz == 0) = false := beq_eq_false_iff_ne.2 e2
            clear e2
            go_wp2_with fail
            go_roundg 1
            case measure => have := HGK.out; omega
            case rel => exact ⟨1, rfl, by omega, by go_num, T⟩
        · have tno : (lz == 0) = false := beq_eq_false_iff_ne.2 e1
          clear e1
          go_wp2_with fail
          go_roundg 1
          case measure => have := HGK.out; omega
          case rel => exact ⟨1, rfl, by omega, by go_num, T⟩
      · have tno : (z == 0) = false := beq_eq_false_iff_ne.2 e0
        clear e0
        go_wp2_with fail
        go_roundg 1
        case measure => have := HGK.out; omega
        case rel => exact ⟨1, rfl, by omega, by go_num, T⟩
    · clear L1 L2 L3 L4 L5 L6 D1 D2 D3 D4 D5 D6 S1 S2 S3 Q1 Q2 Q3
      obtain ⟨⟨a0, a1, -, -, -⟩, ⟨b0, b1, -, -, -⟩, ⟨c0, c1, -, -, -⟩, ⟨g0, g1, -, -, -⟩, -⟩ := id T.out
      go_wp2_with fail
      refine (M1.out _).mono ?_
      rintro e v1 ⟨rfl, hb⟩
      have T := Lib.hid (T.out.keep hb)
      clear hb a0 a1 b0 b1 c0 c1 g0 g1
      have T := Lib.hid (T.out.keep (below1 v1 (.cells #[.int .i64 x', .int .i64 y'] 24)))
      have X := At2.new v1 (.int .i64 x') (.int .i64 y') 24
      obtain ⟨⟨a0, a1, -, -, -⟩, ⟨b0, b1, -, -, -⟩, ⟨c0, c1, -, -, -⟩, ⟨g0, g1, -, -, -⟩, -⟩ := id T.out
      obtain ⟨h00, h01, -, -, -⟩ := id X
      go_wp2_with fail
      refine (M2.out _).mono ?_
      rintro e v2 ⟨rfl, hb⟩
      have X := X.keep hb
      have T := Lib.hid (T.out.keep hb)
      clear hb a0 a1 b0 b1 c0 c1 g0 g1 h00 h01
      have X := X.alloc (.cells #[.int .i64 x', .int .i64 y'] 24)
      have T := Lib.hid (T.out.keep (below1 v2 (.cells #[.int .i64 x', .int .i64 y'] 24)))
      have Y := At2.new v2 (.int .i64 x') (.int .i64 y') 24
      obtain ⟨⟨a0, a1, -, -, -⟩, ⟨b0, b1, -, -, -⟩, ⟨c0, c1, -, -, -⟩, ⟨g0, g1, -, -, -⟩, -⟩ := id T.out
      obtain ⟨h00, h01, -, -, -⟩ := id X
      obtain ⟨h10, h11, -, -, -⟩ := id Y
      go_wp2_with fail
      refine (M3.out _).mono ?_
      rintro e v3 ⟨rfl, hb⟩
      have X := X.keep hb
      have Y := Y.keep hb
      have T := Lib.hid (T.out.keep hb)
      clear hb a0 a1 b0 b1 c0 c1 g0 g1 h00 h01 h10 h11
      have X := X.alloc (.cells #[.int .i64 lx', .int .i64 ly'] 24)
      have Y := Y.alloc (.cells #[.int .i64 lx', .int .i64 ly'] 24)
      have T := Lib.hid (T.out.keep (below1 v3 (.cells #[.int .i64 lx', .int .i64 ly'] 24)))
      have L := At2.new v3 (.int .i64 lx') (.int .i64 ly') 24
      obtain ⟨⟨a0, a1, -, -, -⟩, ⟨b0, b1, -, -, -⟩, ⟨c0, c1, -, -, -⟩, ⟨g0, g1, -, -, -⟩, -⟩ := id T.out
      obtain ⟨h00, h01, -, -, -⟩ := id X
      obtain ⟨h10, h11, -, -, -⟩ := id Y
      obtain ⟨h20, h21, -, -, -⟩ := id L
      go_wp2_with fail
      refine (M4.out _).mono ?_
      rintro e v4 ⟨rfl, hb⟩
      have X := X.keep hb
      have Y := Y.keep hb
      have L := L.keep hb
      have T := Lib.hid (T.out.keep hb)
      clear hb a0 a1 b0 b1 c0 c1 g0 g1 h00 h01 h10 h11 h20 h21
      have X := X.alloc (.cells #[.int .i64 mx', .int .i64 my'] 24)
      have Y := Y.alloc (.cells #[.int .i64 mx', .int .i64 my'] 24)
      have L := L.alloc (.cells #[.int .i64 mx', .int .i64 my'] 24)
      have T := Lib.hid (T.out.keep (below1 v4 (.cells #[.int .i64 mx', .int .i64 my'] 24)))
      have M := At2.new v4 (.int .i64 mx') (.int .i64 my') 24
      obtain ⟨⟨a0, a1, -, -, -⟩, ⟨b0, b1, -, -, -⟩, ⟨c0, c1, -, -, -⟩, ⟨g0, g1, -, -, -⟩, -⟩ := id T.out
      obtain ⟨h00, h01, -, -, -⟩ := id X
      obtain ⟨h10, h11, -, -, -⟩ := id Y
      obtain ⟨h20, h21, -, -, -⟩ := id L
      obtain ⟨h30, h31, -, -, -⟩ := id M
      go_wp2_with fail
      refine (M5.out _).mono ?_
      rintro e v5 ⟨rfl, hb⟩
      have X := X.keep hb
      have Y := Y.keep hb
      have L := L.keep hb
      have M := M.keep hb
      have T := Lib.hid (T.out.keep hb)
      clear hb a0 a1 b0 b1 c0 c1 g0 g1 h00 h01 h10 h11 h20 h21 h30 h31
      have X := X.alloc (.cells #[.int .i64 rx', .int .i64 ry'] 24)
      have Y := Y.alloc (.cells #[.int .i64 rx', .int .i64 ry'] 24)
      have L := L.alloc (.cells #[.int .i64 rx', .int .i64 ry'] 24)
      have M := M.alloc (.cells #[.int .i64 rx', .int .i64 ry'] 24)
      have T := Lib.hid (T.out.keep (below1 v5 (.cells #[.int .i64 rx', .int .i64 ry'] 24)))
      have R := At2.new v5 (.int .i64 rx') (.int .i64 ry') 24
      obtain ⟨⟨a0, a1, -, -, -⟩, ⟨b0, b1, -, -, -⟩, ⟨c0, c1, -, -, -⟩, ⟨g0, g1, -, -, -⟩, -⟩ := id T.out
      obtain ⟨h00, h01, -, -, -⟩ := id X
      obtain ⟨h10, h11, -, -, -⟩ := id Y
      obtain ⟨h20, h21, -, -, -⟩ := id L
      obtain ⟨h30, h31, -, -, -⟩ := id M
      obtain ⟨h40, h41, -, -, -⟩ := id R
      by_cases e0 : z' = 0
      · subst e0
        by_cases e1 : lz' = 0
        · subst e1
          by_cases e2 : mz' = 0
          · subst e2
            by_cases e3 : rz' = 0
            · subst e3
              rcases M6.out with ⟨-, -, -, -, g5, g6⟩ | hno
              · subst g5 g6
                go_wp2_with fail
                go_roundg 0
                case measure => have := HGK.out; omega
                case rel => exact ⟨2, rfl, by omega, by go_num, T⟩
              · exact absurd hno (by decide)
            · have tno : (rz' == 0) = false := beq_eq_false_iff_ne.2 e3
              clear e3
              go_wp2_with fail
              go_roundg 0
              case measure => have := HGK.out; omega
              case rel => exact ⟨2, rfl, by omega, by go_num, T⟩
          · have tno : (mz' == 0) = false := beq_eq_false_iff_ne.2 e2
            clear e2
            go_wp2_with fail
            go_roundg 0
            case measure => have := HGK.out; omega
            case rel => exact ⟨2, rfl, by omega, by go_num, T⟩
        · have tno : (lz' == 0) = false := beq_eq_false_iff_ne.2 e1
          clear e1
          go_wp2_with fail
          go_roundg 0
          case measure => have := HGK.out; omega
          case rel => exact ⟨2, rfl, by omega, by go_num, T⟩
      · have tno : (z' == 0) = false := beq_eq_false_iff_ne.2 e0
        clear e0
        go_wp2_with fail
        go_roundg 0
        case measure => have := HGK.out; omega
        case rel => exact ⟨2, rfl, by omega, by go_num, T⟩
    · clear HGK hi L1 L2 L3 L4 L5 L6 M1 M2 M3 M4 M5 M6
      obtain ⟨⟨a0, a1, -, -, -⟩, ⟨b0, b1, -, -, -⟩, ⟨c0, c1, -, -, -⟩, ⟨g0, g1, -, -, -⟩, -⟩ := id T.out
      go_wp2_with fail
      refine (D1.out _).mono ?_
      rintro e v1 ⟨rfl, hb⟩
      have T := Lib.hid (T.out.keep hb)
      clear hb a0 a1 b0 b1 c0 c1 g0 g1
      have T := Lib.hid (T.out.keep (below1 v1 (.cells #[.int .i64 sx, .int .i64 sy] 24)))
      have S := At2.new v1 (.int .i64 sx) (.int .i64 sy) 24
      obtain ⟨⟨a0, a1, -, -, -⟩, ⟨b0, b1, -, -, -⟩, ⟨c0, c1, -, -, -⟩, ⟨g0, g1, -, -, -⟩, -⟩ := id T.out
      obtain ⟨h00, h01, -, -, -⟩ := id S
      go_wp2_with fail
      refine (D2.out _).mono ?_
      rintro e v2 ⟨rfl, hb⟩
      have S := S.keep hb
      have T := Lib.hid (T.out.keep hb)
      clear hb a0 a1 b0 b1 c0 c1 g0 g1 h00 h01
      have S := S.alloc (.cells #[.int .i64 dlx, .int .i64 dly] 24)
      have T := Lib.hid (T.out.keep (below1 v2 (.cells #[.int .i64 dlx, .int .i64 dly] 24)))
      have L := At2.new v2 (.int .i64 dlx) (.int .i64 dly) 24
      obtain ⟨⟨a0, a1, -, -, -⟩, ⟨b0, b1, -, -, -⟩, ⟨c0, c1, -, -, -⟩, ⟨g0, g1, -, -, -⟩, -⟩ := id T.out
      obtain ⟨h00, h01, -, -, -⟩ := id S
      obtain ⟨h10, h11, -, -, -⟩ := id L
      go_wp2_with fail
      refine (D3.out _).mono ?_
      rintro e v3 ⟨rfl, hb⟩
      have S := S.keep hb
      have L := L.keep hb
      have T := Lib.hid (T.out.keep hb)
      clear hb a0 a1 b0 b1 c0 c1 g0 g1 h00 h01 h10 h11
      have S := S.alloc (.cells #[.int .i64 xx, .int .i64 xy] 24)
      have L := L.alloc (.cells #[.int .i64 xx, .int .i64 xy] 24)
      have T := Lib.hid (T.out.keep (below1 v3 (.cells #[.int .i64 xx, .int .i64 xy] 24)))
      have X := At2.new v3 (.int .i64 xx) (.int .i64 xy) 24
      obtain ⟨⟨a0, a1, -, -, -⟩, ⟨b0, b1, -, -, -⟩, ⟨c0, c1, -, -, -⟩, ⟨g0, g1, -, -, -⟩, -⟩ := id T.out
      obtain ⟨h00, h01, -, -, -⟩ := id S
      obtain ⟨h10, h11, -, -, -⟩ := id L
      obtain ⟨h20, h21, -, -, -⟩ := id X
      go_wp2_with fail
      refine (D4.out _).mono ?_
      rintro e v4 ⟨rfl, hb⟩
      have S := S.keep hb
      have L := L.keep hb
      have X := X.keep hb
      have T := Lib.hid (T.out.keep hb)
      clear hb a0 a1 b0 b1 c0 c1 g0 g1 h00 h01 h10 h11 h20 h21
      have S := S.alloc (.cells #[.int .i64 yx, .int .i64 yy] 24)
      have L := L.alloc (.cells #[.int .i64 yx, .int .i64 yy] 24)
      have X := X.alloc (.cells #[.int .i64 yx, .int .i64 yy] 24)
      have T := Lib.hid (T.out.keep (below1 v4 (.cells #[.int .i64 yx, .int .i64 yy] 24)))
      have Y := At2.new v4 (.int .i64 yx) (.int .i64 yy) 24
      obtain ⟨⟨a0, a1, -, -, -⟩, ⟨b0, b1, -, -, -⟩, ⟨c0, c1, -, -, -⟩, ⟨g0, g1, -, -, -⟩, -⟩ := id T.out
      obtain ⟨h00, h01, -, -, -⟩ := id S
      obtain ⟨h10, h11, -, -, -⟩ := id L
      obtain ⟨h20, h21, -, -, -⟩ := id X
      obtain ⟨h30, h31, -, -, -⟩ := id Y
      go_wp2_with fail
      refine (D5.out _).mono ?_
      rintro e v5 ⟨rfl, hb⟩
      have S := S.keep hb
      have L := L.keep hb
      have X := X.keep hb
      have Y := Y.keep hb
      have T := Lib.hid (T.out.keep hb)
      clear hb a0 a1 b0 b1 c0 c1 g0 g1 h00 h01 h10 h11 h20 h21 h30 h31
      have S := S.alloc (.cells #[.int .i64 drx, .int .i64 dry] 24)
      have L := L.alloc (.cells #[.int .i64 drx, .int .i64 dry] 24)
      have X := X.alloc (.cells #[.int .i64 drx, .int .i64 dry] 24)
      have Y := Y.alloc (.cells #[.int .i64 drx, .int .i64 dry] 24)
      have T := Lib.hid (T.out.keep (below1 v5 (.cells #[.int .i64 drx, .int .i64 dry] 24)))
      have R := At2.new v5 (.int .i64 drx) (.int .i64 dry) 24
      obtain ⟨⟨a0, a1, -, -, -⟩, ⟨b0, b1, -, -, -⟩, ⟨c0, c1, -, -, -⟩, ⟨g0, g1, -, -, -⟩, -⟩ := id T.out
      obtain ⟨h00, h01, -, -, -⟩ := id S
      obtain ⟨h10, h11, -, -, -⟩ := id L
      obtain ⟨h20, h21, -, -, -⟩ := id X
      obtain ⟨h30, h31, -, -, -⟩ := id Y
      obtain ⟨h40, h41, -, -, -⟩ := id R
      go_upto_region 23 with fail
      go_cut [172] from 150 to 172 (fun tv wx => tv = .bool false ∧ wx = (v5.alloc (.cells #[.int .i64 drx, .int .i64 dry] 24)))
      case first =>
        by_cases e0 : sz = 0
        · subst e0
          by_cases e1 : dlz = 0
          · subst e1
            by_cases e2 : xz = 0
            · subst e2
              by_cases e3 : yz = 0
              · subst e3
                by_cases e4 : drz = 0
                · subst e4
                  rcases D6.out with ⟨-, -, -, -, -, g5, g6⟩ | hno
                  · subst g5 g6
                    go_wp2_with fail
                    go_meet
                    case rel => exact ⟨rfl, rfl⟩
                  · exact absurd hno (by decide)
                · have tno : (drz == 0) = false := beq_eq_false_iff_ne.2 e4
                  clear e4
                  go_wp2_with fail
                  go_meet
                  case rel => exact ⟨rfl, rfl⟩
              · have tno : (yz == 0) = false := beq_eq_false_iff_ne.2 e3
                clear e3
                go_wp2_with fail
                go_meet
                case rel => exact ⟨rfl, rfl⟩
            · have tno : (xz == 0) = false := beq_eq_false_iff_ne.2 e2
              clear e2
              go_wp2_with fail
              go_meet
              case rel => exact ⟨rfl, rfl⟩
          · have tno : (dlz == 0) = false := beq_eq_false_iff_ne.2 e1
            clear e1
            go_wp2_with fail
            go_meet
            case rel => exact ⟨rfl, rfl⟩
        · have tno : (sz == 0) = false := beq_eq_false_iff_ne.2 e0
          clear e0
          go_wp2_with fail
          go_meet
          case rel => exact ⟨rfl, rfl⟩
      case rest =>
        obtain ⟨rfl, rfl⟩ := hcut
        clear S L X Y R D6 D1 D2 D3 D4 D5 a0 a1 b0 b1 c0 c1 g0 g1 h00 h01 h10 h11 h20 h21 h30 h31 h40 h41
        obtain ⟨⟨a0, a1, -, -, -⟩, ⟨b0, b1, -, -, -⟩, ⟨c0, c1, -, -, -⟩, ⟨g0, g1, -, -, -⟩, -⟩ := id T.out
        go_wp2_with fail
        refine (S1.out _).mono ?_
        rintro e v6 ⟨rfl, hb⟩
        have T := Lib.hid (T.out.keep hb)
        clear hb a0 a1 b0 b1 c0 c1 g0 g1
        have T := Lib.hid (T.out.keep (below1 v6 (.cells #[.int .i64 dx, .int .i64 dy] 24)))
        have D := At2.new v6 (.int .i64 dx) (.int .i64 dy) 24
        obtain ⟨⟨a0, a1, -, -, -⟩, ⟨b0, b1, -, -, -⟩, ⟨c0, c1, -, -, -⟩, ⟨g0, g1, -, -, -⟩, -⟩ := id T.out
        obtain ⟨h00, h01, -, -, -⟩ := id D
        go_wp2_with fail
        refine (S2.out _).mono ?_
        rintro e v7 ⟨rfl, hb⟩
        have D := D.keep hb
        have T := Lib.hid (T.out.keep hb)
        clear hb a0 a1 b0 b1 c0 c1 g0 g1 h00 h01
        have ltA := T.out.A.lt
        have ltB := T.out.B.lt
        have leW := T.out.bel.size
        have D := D.alloc (.cells #[.int .i64 kx, .int .i64 ky] 24)
        have T := Lib.hid (T.out.keep (below1 v7 (.cells #[.int .i64 kx, .int .i64 ky] 24)))
        have K := At2.new v7 (.int .i64 kx) (.int .i64 ky) 24
        obtain ⟨⟨a0, a1, -, -, -⟩, ⟨b0, b1, -, -, -⟩, ⟨c0, c1, -, -, -⟩, ⟨g0, g1, -, -, -⟩, -⟩ := id T.out
        obtain ⟨h00, h01, -, -, -⟩ := id D
        obtain ⟨h10, h11, -, -, -⟩ := id K
        go_upto_region 27 with fail
        go_cut [195] from 185 to 195 (fun tv wx => tv = .bool false ∧ wx = (v7.alloc (.cells #[.int .i64 kx, .int .i64 ky] 24)))
        case first =>
          rcases S3.out with ⟨e1, e2, e3, e4⟩ | e1
          · subst e1 e2 e3 e4
            go_wp2_with fail
            go_meet
            case rel => exact ⟨rfl, rfl⟩
          · go_wp2_with fail
            go_meet
            case rel => exact ⟨rfl, rfl⟩
        case rest =>
          obtain ⟨rfl, rfl⟩ := hcut
          clear D S3 S1 S2 a0 a1 b0 b1 c0 c1 g0 g1 h00 h01 h10 h11
          obtain ⟨⟨a0, a1, -, -, -⟩, ⟨b0, b1, -, -, -⟩, ⟨c0, c1, -, -, -⟩, ⟨g0, g1, -, -, -⟩, -⟩ := id T.out
          obtain ⟨h00, h01, -, -, -⟩ := id K
          go_wp2_with fail
          refine (Q1.out _).mono ?_
          rintro e v8 ⟨rfl, hb⟩
          have K := K.keep hb
          have T := Lib.hid (T.out.keep hb)
          clear hb a0 a1 b0 b1 c0 c1 g0 g1 h00 h01
          have K := K.alloc (.cells #[.int .i64 qx, .int .i64 qy] 24)
          have T := Lib.hid (T.out.keep (below1 v8 (.cells #[.int .i64 qx, .int .i64 qy] 24)))
          have Q := At2.new v8 (.int .i64 qx) (.int .i64 qy) 24
          obtain ⟨⟨a0, a1, -, -, -⟩, ⟨b0, b1, -, -, -⟩, ⟨c0, c1, -, -, -⟩, ⟨g0, g1, -, -, -⟩, -⟩ := id T.out
          obtain ⟨h00, h01, -, -, -⟩ := id K
          obtain ⟨h10, h11, -, -, -⟩ := id Q
          go_wp2_with fail
          refine (Q2.out _).mono ?_
          rintro e v9 ⟨rfl, hb⟩
          have K := K.keep hb
          have Q := Q.keep hb
          have T := Lib.hid (T.out.keep hb)
          clear hb a0 a1 b0 b1 c0 c1 g0 g1 h00 h01 h10 h11
          have nA1 : ¬ w.heap.size = v7.heap.size := by omega
          have nA2 : ¬ v7.heap.size = w.heap.size := by omega
          have nB1 : ¬ w.heap.size + 1 = v7.heap.size := by omega
          have nB2 : ¬ v7.heap.size = w.heap.size + 1 := by omega
          have AF := T.out.A.far nA1 (.int .i64 nx) (.int .i64 ny)
          have BF := T.out.B.far nB1 (.int .i64 nx) (.int .i64 ny)
          have KF := K.put (.int .i64 nx) (.int .i64 ny)
          have HBF := Lib.hid (below_set2 T.out.bel leW (.int .i64 nx) (.int .i64 ny))
          obtain ⟨k0, k1, kf0, kf1, klt⟩ := K
          obtain ⟨a0, a1, -, -, -⟩ := AF
          obtain ⟨b0, b1, -, -, -⟩ := BF
          obtain ⟨s0, s1, -, -, -⟩ := KF
          clear Q T
          rcases Q3.out with ⟨e1, e2⟩ | ⟨e1, e2⟩ | ⟨e1, e2, e3, e4, e5⟩
          · subst e1 e2
            go_wp2_with fail
            go_ret
            exact ⟨rfl, HBF.out⟩
          · have tb : (bn == 0) = false := beq_eq_false_iff_ne.2 e1
            clear e1
            go_wp2_with fail
            go_ret
            exact ⟨rfl, HBF.out⟩
          · have tb : (bn == 0) = false := beq_eq_false_iff_ne.2 e1
            clear e1
            subst e2 e3 e4 e5
            go_wp2_with fail
            go_ret
            exact ⟨rfl, HBF.out⟩
theorem fld_any (n d n2 d2 n3 d3 : Int) (w : World) (htab : Lib.TabIs Tryd.prog w "internal/strconv.uint64pow10" .u64 Lib.pow10Tab) :
    Calls Tryd.prog 8 #[.agg #[.int .i64 n, .int .i64 d], .agg #[.int .i64 n2, .int .i64 d2], .agg #[.int .i64 n3, .int .i64 d3]] w fun e w' => e = .returned (.bool true) ∧ Below w.heap.size w w' := by
  cases k1 : rok n d
  · exact fld_b1 n d n2 d2 n3 d3 w htab k1
  · cases k2 : rok n2 d2
    · exact fld_b2 n d n2 d2 n3 d3 w htab k1 k2
    · cases k3 : rok n3 d3
      · exact fld_b3 n d n2 d2 n3 d3 w htab k1 k2 k3
      · obtain ⟨a, ha, rfl, rfl⟩ := rok_rat k1
        obtain ⟨b, hb, rfl, rfl⟩ := rok_rat k2
        obtain ⟨c, hc, rfl, rfl⟩ := rok_rat k3
        exact fld_ok a b c w htab ha hb hc
end Go.Proofs.YtlcmnfhkicjclaaDoor
