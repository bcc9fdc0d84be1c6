/- ArctrigGrows: the walk of the law. -/
import Derived.Test.YtebhflmmdfbjkaaDoorArGp
import Derived.Test.YtebhflmmdfbjkaaDoorArI
namespace Go.Proofs.YtebhflmmdfbjkaaDoor
open Go.RowKit
set_option linter.unusedVariables false
set_option maxRecDepth 100000

theorem At2.new1 (w : World) (o : Obj) (x y : Value) (T : Nat) : At2 ((w.alloc o).alloc (.cells #[x, y] T)) (w.heap.size + 1) x y := by
  have q := At2.new (w.alloc o) x y T
  simpa using q
set_option maxHeartbeats 4000000 in
theorem grows_main (wi : Bool) (a b c d lo hi x y u v s1 s2 t1 t2 c1 c2 d1 d2 l h p q lT pT qT : Int) (w : World) (hv : fok a b = true) (kv : fok c d = true)
    (C0 : Hid (∀ wx, Below w.heap.size w wx → Calls Tryd.prog 11 #[] wx fun e w' => e = .returned (.bool true) ∧ Below wx.heap.size wx w'))
    (KA : Hid (∀ (gl gh : Nat) (wx : World), At1 wx gl (.int .u32 lo) → At1 wx gh (.int .u32 hi) → Calls Tryd.prog 25 #[.agg #[.int .i64 a, .int .i64 b], .pointer (some ⟨gl, 0, none⟩), .pointer (some ⟨gh, 0, none⟩)] wx fun e w' => e = .returned (.agg #[.int .i64 x, .int .i64 y]) ∧ Below wx.heap.size wx w'))
    (KB : Hid (∀ (gl gh : Nat) (wx : World), At1 wx gl (.int .u32 lo) → At1 wx gh (.int .u32 hi) → Calls Tryd.prog 25 #[.agg #[.int .i64 c, .int .i64 d], .pointer (some ⟨gl, 0, none⟩), .pointer (some ⟨gh, 0, none⟩)] wx fun e w' => e = .returned (.agg #[.int .i64 u, .int .i64 v]) ∧ Below wx.heap.size wx w'))
    (CW : Hid (∀ wx, Calls Tryd.prog 20 #[.agg #[.int .i64 a, .int .i64 b]] wx fun e w' => e = .returned (.bool wi) ∧ Below wx.heap.size wx w'))
    (KS1 : Hid (wi = true → ∀ wx, Below w.heap.size w wx → Calls Tryd.prog 12 #[.agg #[.int .i64 a, .int .i64 b]] wx fun e w' => e = .returned (.tuple #[.agg #[.int .i64 s1, .int .i64 s2], .int .i64 0]) ∧ Below wx.heap.size wx w'))
    (KS2 : Hid (wi = true → ∀ wx, Below w.heap.size w wx → Calls Tryd.prog 12 #[.agg #[.int .i64 x, .int .i64 y]] wx fun e w' => e = .returned (.tuple #[.agg #[.int .i64 t1, .int .i64 t2], .int .i64 0]) ∧ Below wx.heap.size wx w'))
    (KS3 : Hid (wi = true → ∀ wx, Below w.heap.size w wx → Calls Tryd.prog 13 #[.agg #[.int .i64 a, .int .i64 b]] wx fun e w' => e = .returned (.tuple #[.agg #[.int .i64 c1, .int .i64 c2], .int .i64 0]) ∧ Below wx.heap.size wx w'))
    (KS4 : Hid (wi = true → ∀ wx, Below w.heap.size w wx → Calls Tryd.prog 13 #[.agg #[.int .i64 x, .int .i64 y]] wx fun e w' => e = .returned (.tuple #[.agg #[.int .i64 d1, .int .i64 d2], .int .i64 0]) ∧ Below wx.heap.size wx w'))
    (KG1 : Hid (∀ wx, Below w.heap.size w wx → Calls Tryd.prog 18 #[.agg #[.int .i64 a, .int .i64 b], .agg #[.int .i64 c, .int .i64 d]] wx fun e w' => e = .returned (.tuple #[.agg #[.int .i64 l, .int .i64 h], .int .i64 0]) ∧ Below wx.heap.size wx w'))
    (KG2 : Hid (∀ wx, Below w.heap.size w wx → Calls Tryd.prog 18 #[.agg #[.int .i64 x, .int .i64 y], .agg #[.int .i64 u, .int .i64 v]] wx fun e w' => e = .returned (.tuple #[.agg #[.int .i64 p, .int .i64 q], .int .i64 0]) ∧ Below wx.heap.size wx w'))
    (D1 : ¬ t1 < s1) (D2 : ¬ t2 > s2) (D3 : ¬ d1 < c1) (D4 : ¬ d2 > c2) (E1 : ¬ l < 0) (E2 : ¬ l ≥ 21600000) (E3 : ¬ p < 0) (E4 : ¬ p ≥ 21600000) (E5 : ¬ h < l) (E6 : ¬ h > lT) (E7 : ¬ q < p) (E8 : ¬ q > pT) (hlT : l + 21600000 = lT) (hpT : p + 21600000 = pT) (hqT : q + 21600000 = qT)
    (E : Hid ((l = 0 ∧ h = 21600000) ∨ (¬ (l = 0 ∧ h = 21600000) ∧ ((p < l ∧ (∀ wx, Calls Tryd.prog 27 #[.agg #[.int .i64 pT, .int .i64 qT], .agg #[.int .i64 l, .int .i64 h]] wx fun e w' => e = .returned (.bool true) ∧ Below wx.heap.size wx w')) ∨ (¬ p < l ∧ (∀ wx, Calls Tryd.prog 27 #[.agg #[.int .i64 p, .int .i64 q], .agg #[.int .i64 l, .int .i64 h]] wx fun e w' => e = .returned (.bool true) ∧ Below wx.heap.size wx w'))))))
    : Calls Tryd.prog 8 #[.agg #[.int .i64 a, .int .i64 b], .agg #[.int .i64 c, .int .i64 d], .int .u32 lo, .int .u32 hi] w fun e w' => e = .returned (.bool true) ∧ Below w.heap.size w w' := by
  have V1 := Lib.hid (fun wx => rValid7_is a b true hv wx)
  have V2 := Lib.hid (fun wx => rValid7_is c d true kv wx)
  clear hv kv
  obtain ⟨cA, hcA⟩ : ∃ o : Obj, (.cells #[.int .i64 a, .int .i64 b] 23 : Obj) = o := ⟨_, rfl⟩
  obtain ⟨cB, hcB⟩ : ∃ o : Obj, (.cells #[.int .i64 c, .int .i64 d] 23 : Obj) = o := ⟨_, rfl⟩
  obtain ⟨cL, hcL⟩ : ∃ o : Obj, (.cells #[.int .u32 lo] 39 : Obj) = o := ⟨_, rfl⟩
  obtain ⟨cH, hcH⟩ : ∃ o : Obj, (.cells #[.int .u32 hi] 39 : Obj) = o := ⟨_, rfl⟩
  have A := (((At2.new w (.int .i64 a) (.int .i64 b) 23).alloc cB).alloc cL).alloc cH
  have B := ((At2.new (w.alloc cA) (.int .i64 c) (.int .i64 d) 23).alloc cL).alloc cH
  have L := (At1.new ((w.alloc cA).alloc cB) (.int .u32 lo) 39).alloc cH
  have H := At1.new (((w.alloc cA).alloc cB).alloc cL) (.int .u32 hi) 39
  have HB := Lib.hid (bstep (bstep (bstep (below1 w cA) (below1 (w.alloc cA) cB)) (below1 ((w.alloc cA).alloc cB) cL)) (below1 (((w.alloc cA).alloc cB).alloc cL) cH))
  subst cA cB cL cH
  simp at B L H
  obtain ⟨A0, A1, -, -, -⟩ := id A
  obtain ⟨B0, B1, -, -, -⟩ := id B
  have L0 := L.c0
  have H0 := H.c0
  have hmf : ∀ (fn : Fn) (first cap : Array Value) (w : World), (Instr.makeFunc fn first cap).run Tryd.prog w = .ok (.func fn first cap) w := fun _ _ _ _ => rfl
  go_enter Tryd.func8, Tryd.ntmps8
  go_wp2_with fail
  refine (C0.out _ HB.out).mono ?_
  rintro e1 wz1 ⟨rfl, hb⟩
  clear A0 A1 B0 B1 L0 H0
  have A := A.keep hb
  have B := B.keep hb
  have L := L.keep hb
  have H := H.keep hb
  have HB := Lib.hid (bstep HB.out hb)
  clear hb
  obtain ⟨A0, A1, -, -, -⟩ := id A
  obtain ⟨B0, B1, -, -, -⟩ := id B
  have L0 := L.c0
  have H0 := H.c0
  go_wp2_with fail
  refine (V1.out _).mono ?_
  rintro e2 wz2 ⟨rfl, hb⟩
  clear A0 A1 B0 B1 L0 H0
  have A := A.keep hb
  have B := B.keep hb
  have L := L.keep hb
  have H := H.keep hb
  have HB := Lib.hid (bstep HB.out hb)
  clear hb
  obtain ⟨A0, A1, -, -, -⟩ := id A
  obtain ⟨B0, B1, -, -, -⟩ := id B
  have L0 := L.c0
  have H0 := H.c0
  go_wp2_with fail
  refine (V2.out _).mono ?_
  rintro e3 wz3 ⟨rfl, hb⟩
  clear A0 A1 B0 B1 L0 H0
  have A := A.keep hb
  have B := B.keep hb
  have L := L.keep hb
  have H := H.keep hb
  have HB := Lib.hid (bstep HB.out hb)
  clear hb
  obtain ⟨A0, A1, -, -, -⟩ := id A
  obtain ⟨B0, B1, -, -, -⟩ := id B
  have L0 := L.c0
  have H0 := H.c0
  go_upto_region 6 with fail
  go_cut [10, 11] from 35 to 40 (fun v10 v11 wx => ∃ g1 g2 : Nat, v10 = .pointer (some ⟨g1, 0, none⟩) ∧ v11 = .pointer (some ⟨g2, 0, none⟩) ∧ Hid (At2 wx g1 (.int .i64 x) (.int .i64 y)) ∧ Hid (At2 wx g2 (.int .i64 u) (.int .i64 v)) ∧ Hid (At2 wx w.heap.size (.int .i64 a) (.int .i64 b)) ∧ Hid (At2 wx (w.heap.size + 1) (.int .i64 c) (.int .i64 d)) ∧ Hid (Below w.heap.size w wx))
  case first =>
    have iAw : ¬ w.heap.size = wz3.heap.size := (by have := A.lt; omega)
    have oAw : ¬ wz3.heap.size = w.heap.size := (by have := A.lt; omega)
    have jAw : ¬ w.heap.size = wz3.heap.size + 1 := (by have := A.lt; omega)
    have pAw : ¬ wz3.heap.size + 1 = w.heap.size := (by have := A.lt; omega)
    have iBw : ¬ (w.heap.size + 1) = wz3.heap.size := (by have := B.lt; omega)
    have oBw : ¬ wz3.heap.size = (w.heap.size + 1) := (by have := B.lt; omega)
    have jBw : ¬ (w.heap.size + 1) = wz3.heap.size + 1 := (by have := B.lt; omega)
    have pBw : ¬ wz3.heap.size + 1 = (w.heap.size + 1) := (by have := B.lt; omega)
    have lw : w.heap.size ≤ wz3.heap.size := HB.out.size
    go_region_held3 (fun w' => w'.cell? ⟨w.heap.size, 0, none⟩ = some (.int .i64 a) ∧ w'.cell? ⟨w.heap.size, 1, none⟩ = some (.int .i64 b) ∧ w'.cell? ⟨(w.heap.size + 1), 0, none⟩ = some (.int .i64 c) ∧ w'.cell? ⟨(w.heap.size + 1), 1, none⟩ = some (.int .i64 d)) (go_keep)
      (first
      | (go_at_call 25; (with_reducible refine (KA.out _ _ (World.drew wz3) L.drq H.drq).mono ?_); rintro e vw1 ⟨rfl, hb⟩; clear A0 A1 B0 B1; have A := A.drq.keep hb; have B := B.drq.keep hb; have L := L.drq.keep hb; have H := H.drq.keep hb; have HB := Lib.hid (bstep HB.out (bdrew hb)); obtain ⟨A0, A1, -, -, -⟩ := id A; obtain ⟨B0, B1, -, -, -⟩ := id B; have iA1 : ¬ w.heap.size = vw1.heap.size := (by have := A.lt; omega); have oA1 : ¬ vw1.heap.size = w.heap.size := (by have := A.lt; omega); have jA1 : ¬ w.heap.size = vw1.heap.size + 1 := (by have := A.lt; omega); have pA1 : ¬ vw1.heap.size + 1 = w.heap.size := (by have := A.lt; omega); have iB1 : ¬ (w.heap.size + 1) = vw1.heap.size := (by have := B.lt; omega); have oB1 : ¬ vw1.heap.size = (w.heap.size + 1) := (by have := B.lt; omega); have jB1 : ¬ (w.heap.size + 1) = vw1.heap.size + 1 := (by have := B.lt; omega); have pB1 : ¬ vw1.heap.size + 1 = (w.heap.size + 1) := (by have := B.lt; omega); have l1 : w.heap.size ≤ vw1.heap.size := HB.out.size; clear hb)
      | (go_at_call 25; (with_reducible refine (KA.out _ _ (World.drew (World.alloc wz3 _)) (L.alloc _).drq (H.alloc _).drq).mono ?_); rintro e vw1 ⟨rfl, hb⟩; clear A0 A1 B0 B1; have A := (A.alloc _).drq.keep hb; have B := (B.alloc _).drq.keep hb; have L := (L.alloc _).drq.keep hb; have H := (H.alloc _).drq.keep hb; have HB := Lib.hid (bstep HB.out (alloc_below (bdrew hb))); have N := (At2.new wz3 (.int .i64 0) (.int .i64 0) 23).drq.keep hb; obtain ⟨N0, N1, Nf, Ng, -⟩ := id N; have iNM1 : ¬ wz3.heap.size = vw1.heap.size := (by have := N.lt; omega); have oNM1 : ¬ vw1.heap.size = wz3.heap.size := (by have := N.lt; omega); obtain ⟨A0, A1, -, -, -⟩ := id A; obtain ⟨B0, B1, -, -, -⟩ := id B; have iA1 : ¬ w.heap.size = vw1.heap.size := (by have := A.lt; omega); have oA1 : ¬ vw1.heap.size = w.heap.size := (by have := A.lt; omega); have jA1 : ¬ w.heap.size = vw1.heap.size + 1 := (by have := A.lt; omega); have pA1 : ¬ vw1.heap.size + 1 = w.heap.size := (by have := A.lt; omega); have iB1 : ¬ (w.heap.size + 1) = vw1.heap.size := (by have := B.lt; omega); have oB1 : ¬ vw1.heap.size = (w.heap.size + 1) := (by have := B.lt; omega); have jB1 : ¬ (w.heap.size + 1) = vw1.heap.size + 1 := (by have := B.lt; omega); have pB1 : ¬ vw1.heap.size + 1 = (w.heap.size + 1) := (by have := B.lt; omega); have l1 : w.heap.size ≤ vw1.heap.size := HB.out.size; clear hb)
      | (go_at_call 25; (with_reducible refine (KA.out _ _ (World.drew (World.alloc (World.alloc wz3 _) _)) ((L.alloc _).alloc _).drq ((H.alloc _).alloc _).drq).mono ?_); rintro e vw1 ⟨rfl, hb⟩; clear A0 A1 B0 B1; have A := ((A.alloc _).alloc _).drq.keep hb; have B := ((B.alloc _).alloc _).drq.keep hb; have L := ((L.alloc _).alloc _).drq.keep hb; have H := ((H.alloc _).alloc _).drq.keep hb; have HB := Lib.hid (bstep HB.out (alloc_below (alloc_below (bdrew hb)))); have N := ((At2.new wz3 (.int .i64 0) (.int .i64 0) 23).alloc (.cells #[.int .i64 0, .int .i64 0] 23)).drq.keep hb; have M : At2 vw1 (wz3.heap.size + 1) (.int .i64 0) (.int .i64 0) := (by have q := (At2.new (World.alloc wz3 (.cells #[.int .i64 0, .int .i64 0] 23)) (.int .i64 0) (.int .i64 0) 23).drq.keep hb; simpa using q); obtain ⟨N0, N1, Nf, Ng, -⟩ := id N; obtain ⟨M0, M1, Mf, Mg, -⟩ := id M; obtain ⟨A0, A1, -, -, -⟩ := id A; obtain ⟨B0, B1, -, -, -⟩ := id B; have iA1 : ¬ w.heap.size = vw1.heap.size := (by have := A.lt; omega); have oA1 : ¬ vw1.heap.size = w.heap.size := (by have := A.lt; omega); have jA1 : ¬ w.heap.size = vw1.heap.size + 1 := (by have := A.lt; omega); have pA1 : ¬ vw1.heap.size + 1 = w.heap.size := (by have := A.lt; omega); have iB1 : ¬ (w.heap.size + 1) = vw1.heap.size := (by have := B.lt; omega); have oB1 : ¬ vw1.heap.size = (w.heap.size + 1) := (by have := B.lt; omega); have jB1 : ¬ (w.heap.size + 1) = vw1.heap.size + 1 := (by have := B.lt; omega); have pB1 : ¬ vw1.heap.size + 1 = (w.heap.size + 1) := (by have := B.lt; omega); have l1 : w.heap.size ≤ vw1.heap.size := HB.out.size; clear hb)
      | (go_at_call 25; (with_reducible refine (KB.out _ _ vw1 L H).mono ?_); rintro e vw2 ⟨rfl, hb⟩; clear A0 A1 B0 B1; have A := A.keep hb; have B := B.keep hb; have L := L.keep hb; have H := H.keep hb; have HB := Lib.hid (bstep HB.out hb); (first | (have M := M.keep hb; obtain ⟨M0, M1, Mf, Mg, -⟩ := id M; have N := N.keep hb; obtain ⟨N0, N1, Nf, Ng, -⟩ := id N; skip) | (have N := N.keep hb; obtain ⟨N0, N1, Nf, Ng, -⟩ := id N; first | (have iNM2 : ¬ wz3.heap.size = vw2.heap.size := (by have := N.lt; omega); have oNM2 : ¬ vw2.heap.size = wz3.heap.size := (by have := N.lt; omega); have Na0 := fun o => (N.alloc o).c0; have Na1 := fun o => (N.alloc o).c1; have Naf := fun o => (N.alloc o).f0; have Nag := fun o => (N.alloc o).f1) | (have iNM2 : ¬ vw1.heap.size = vw2.heap.size := (by have := N.lt; omega); have oNM2 : ¬ vw2.heap.size = vw1.heap.size := (by have := N.lt; omega); have Na0 := fun o => (N.alloc o).c0; have Na1 := fun o => (N.alloc o).c1; have Naf := fun o => (N.alloc o).f0; have Nag := fun o => (N.alloc o).f1)) | (have Na0 := fun o => ((At2.new vw2 (.int .i64 0) (.int .i64 0) 23).alloc o).c0; have Na1 := fun o => ((At2.new vw2 (.int .i64 0) (.int .i64 0) 23).alloc o).c1; have Naf := fun o => ((At2.new vw2 (.int .i64 0) (.int .i64 0) 23).alloc o).f0; have Nag := fun o => ((At2.new vw2 (.int .i64 0) (.int .i64 0) 23).alloc o).f1; have q : At2 (World.alloc (World.alloc vw2 (.cells #[.int .i64 0, .int .i64 0] 23)) (.cells #[.int .i64 0, .int .i64 0] 23)) (vw2.heap.size + 1) (.int .i64 0) (.int .i64 0) := (by have q := (At2.new (World.alloc vw2 (.cells #[.int .i64 0, .int .i64 0] 23)) (.int .i64 0) (.int .i64 0) 23); simpa using q); obtain ⟨Ma0, Ma1, Maf, Mag, -⟩ := id q)); obtain ⟨A0, A1, -, -, -⟩ := id A; obtain ⟨B0, B1, -, -, -⟩ := id B; have iA2 : ¬ w.heap.size = vw2.heap.size := (by have := A.lt; omega); have oA2 : ¬ vw2.heap.size = w.heap.size := (by have := A.lt; omega); have jA2 : ¬ w.heap.size = vw2.heap.size + 1 := (by have := A.lt; omega); have pA2 : ¬ vw2.heap.size + 1 = w.heap.size := (by have := A.lt; omega); have iB2 : ¬ (w.heap.size + 1) = vw2.heap.size := (by have := B.lt; omega); have oB2 : ¬ vw2.heap.size = (w.heap.size + 1) := (by have := B.lt; omega); have jB2 : ¬ (w.heap.size + 1) = vw2.heap.size + 1 := (by have := B.lt; omega); have pB2 : ¬ vw2.heap.size + 1 = (w.heap.size + 1) := (by have := B.lt; omega); have l2 : w.heap.size ≤ vw2.heap.size := HB.out.size; clear hb)
      | (go_at_call 25; (with_reducible refine (KB.out _ _ (World.alloc vw1 _) (L.alloc _) (H.alloc _)).mono ?_); rintro e vw2 ⟨rfl, hb⟩; clear A0 A1 B0 B1; have A := (A.alloc _).keep hb; have B := (B.alloc _).keep hb; have L := (L.alloc _).keep hb; have H := (H.alloc _).keep hb; have HB := Lib.hid (bstep HB.out (alloc_below hb)); (first | (have N := (N.alloc (.cells #[.int .i64 0, .int .i64 0] 23)).keep hb; have M := (At2.new vw1 (.int .i64 0) (.int .i64 0) 23).keep hb; obtain ⟨N0, N1, Nf, Ng, -⟩ := id N; obtain ⟨M0, M1, Mf, Mg, -⟩ := id M; skip) | (have N := (At2.new vw1 (.int .i64 0) (.int .i64 0) 23).keep hb; obtain ⟨N0, N1, Nf, Ng, -⟩ := id N; have iNM2 : ¬ vw1.heap.size = vw2.heap.size := (by have := N.lt; omega); have oNM2 : ¬ vw2.heap.size = vw1.heap.size := (by have := N.lt; omega); have Na0 := fun o => (N.alloc o).c0; have Na1 := fun o => (N.alloc o).c1; have Naf := fun o => (N.alloc o).f0; have Nag := fun o => (N.alloc o).f1)); obtain ⟨A0, A1, -, -, -⟩ := id A; obtain ⟨B0, B1, -, -, -⟩ := id B; have iA2 : ¬ w.heap.size = vw2.heap.size := (by have := A.lt; omega); have oA2 : ¬ vw2.heap.size = w.heap.size := (by have := A.lt; omega); have jA2 : ¬ w.heap.size = vw2.heap.size + 1 := (by have := A.lt; omega); have pA2 : ¬ vw2.heap.size + 1 = w.heap.size := (by have := A.lt; omega); have iB2 : ¬ (w.heap.size + 1) = vw2.heap.size := (by have := B.lt; omega); have oB2 : ¬ vw2.heap.size = (w.heap.size + 1) := (by have := B.lt; omega); have jB2 : ¬ (w.heap.size + 1) = vw2.heap.size + 1 := (by have := B.lt; omega); have pB2 : ¬ vw2.heap.size + 1 = (w.heap.size + 1) := (by have := B.lt; omega); have l2 : w.heap.size ≤ vw2.heap.size := HB.out.size; clear hb)
      | (go_at_call 25; (with_reducible refine (KB.out _ _ (World.alloc (World.alloc vw1 _) _) ((L.alloc _).alloc _) ((H.alloc _).alloc _)).mono ?_); rintro e vw2 ⟨rfl, hb⟩; clear A0 A1 B0 B1; have A := ((A.alloc _).alloc _).keep hb; have B := ((B.alloc _).alloc _).keep hb; have L := ((L.alloc _).alloc _).keep hb; have H := ((H.alloc _).alloc _).keep hb; have HB := Lib.hid (bstep HB.out (alloc_below (alloc_below hb))); have N := ((At2.new vw1 (.int .i64 0) (.int .i64 0) 23).alloc (.cells #[.int .i64 0, .int .i64 0] 23)).keep hb; have M : At2 vw2 (vw1.heap.size + 1) (.int .i64 0) (.int .i64 0) := (by have q := (At2.new (World.alloc vw1 (.cells #[.int .i64 0, .int .i64 0] 23)) (.int .i64 0) (.int .i64 0) 23).keep hb; simpa using q); obtain ⟨N0, N1, Nf, Ng, -⟩ := id N; obtain ⟨M0, M1, Mf, Mg, -⟩ := id M; obtain ⟨A0, A1, -, -, -⟩ := id A; obtain ⟨B0, B1, -, -, -⟩ := id B; have iA2 : ¬ w.heap.size = vw2.heap.size := (by have := A.lt; omega); have oA2 : ¬ vw2.heap.size = w.heap.size := (by have := A.lt; omega); have jA2 : ¬ w.heap.size = vw2.heap.size + 1 := (by have := A.lt; omega); have pA2 : ¬ vw2.heap.size + 1 = w.heap.size := (by have := A.lt; omega); have iB2 : ¬ (w.heap.size + 1) = vw2.heap.size := (by have := B.lt; omega); have oB2 : ¬ vw2.heap.size = (w.heap.size + 1) := (by have := B.lt; omega); have jB2 : ¬ (w.heap.size + 1) = vw2.heap.size + 1 := (by have := B.lt; omega); have pB2 : ¬ vw2.heap.size + 1 = (w.heap.size + 1) := (by have := B.lt; omega); have l2 : w.heap.size ≤ vw2.heap.size := HB.out.size; clear hb))
    all_goals
      go_wp2_with fail
      go_meet
    all_goals (with_reducible refine ⟨_, _, rfl, rfl, ?_⟩)
    all_goals (clear KA KB C0 V1 V2 hmf)
    all_goals (refine ⟨Lib.hid ?_, Lib.hid ?_, Lib.hid ?_, Lib.hid ?_, Lib.hid ?_⟩)
    all_goals (repeat' (first
      | (with_reducible exact N)
      | (with_reducible exact M)
      | (with_reducible exact A)
      | (with_reducible exact B)
      | (with_reducible exact HB.out)
      | (with_reducible exact At2.new _ _ _ _)
      | (with_reducible exact At2.new1 _ _ _ _ _)
      | (with_reducible refine At2.put (x := .int .i64 0) (y := .int .i64 0) ?_ _ _)
      | (with_reducible refine At2.far ?_ (by first | assumption | omega) _ _)
      | (with_reducible refine At2.alloc ?_ _)
      | (with_reducible refine Below.setCell ?_ (by first | assumption | (dsimp only; omega)) _)
      | (with_reducible refine Below.alloc ?_ (by first | assumption | omega | (simp; omega)) _)))
  case rest =>
    obtain ⟨g1, g2, rfl, rfl, N', M', A', B', HB'⟩ := hcut
    clear A0 A1 B0 B1 L0 H0 A B L H HB KA KB
    have A := A'.out
    have B := B'.out
    have N := N'.out
    have M := M'.out
    have HB := Lib.hid HB'.out
    clear A' B' N' M' HB' hmf
    cases wi with
    | true =>
      obtain ⟨A0, A1, -, -, -⟩ := id A
      obtain ⟨B0, B1, -, -, -⟩ := id B
      obtain ⟨N0, N1, -, -, -⟩ := id N
      obtain ⟨M0, M1, -, -, -⟩ := id M
      go_wp2_with fail
      refine (CW.out _).mono ?_
      rintro e11 wz11 ⟨rfl, hb⟩
      clear A0 A1 B0 B1 N0 N1 M0 M1
      have A := A.keep hb
      have B := B.keep hb
      have N := N.keep hb
      have M := M.keep hb
      have HB := Lib.hid (bstep HB.out hb)
      clear hb
      obtain ⟨A0, A1, -, -, -⟩ := id A
      obtain ⟨B0, B1, -, -, -⟩ := id B
      obtain ⟨N0, N1, -, -, -⟩ := id N
      obtain ⟨M0, M1, -, -, -⟩ := id M
      go_wp2_with fail
      refine (KS1.out (by trivial) _ HB.out).mono ?_
      rintro e12 wz12 ⟨rfl, hb⟩
      clear A0 A1 B0 B1 N0 N1 M0 M1
      have A := A.keep hb
      have B := B.keep hb
      have N := N.keep hb
      have M := M.keep hb
      have HB := Lib.hid (bstep HB.out hb)
      clear hb
      have A := A.alloc (.cells #[.int .i64 s1, .int .i64 s2] 25)
      have B := B.alloc (.cells #[.int .i64 s1, .int .i64 s2] 25)
      have N := N.alloc (.cells #[.int .i64 s1, .int .i64 s2] 25)
      have M := M.alloc (.cells #[.int .i64 s1, .int .i64 s2] 25)
      have P := At2.new wz12 (.int .i64 s1) (.int .i64 s2) 25
      have HB := Lib.hid (bstep HB.out (below1 wz12 (.cells #[.int .i64 s1, .int .i64 s2] 25)))
      obtain ⟨A0, A1, -, -, -⟩ := id A
      obtain ⟨B0, B1, -, -, -⟩ := id B
      obtain ⟨N0, N1, -, -, -⟩ := id N
      obtain ⟨M0, M1, -, -, -⟩ := id M
      obtain ⟨P0, P1, -, -, -⟩ := id P
      go_wp2_with fail
      refine (KS2.out (by trivial) _ HB.out).mono ?_
      rintro e13 wz13 ⟨rfl, hb⟩
      clear A0 A1 B0 B1 N0 N1 M0 M1 P0 P1
      have A := A.keep hb
      have B := B.keep hb
      have N := N.keep hb
      have M := M.keep hb
      have P := P.keep hb
      have HB := Lib.hid (bstep HB.out hb)
      clear hb
      have A := A.alloc (.cells #[.int .i64 t1, .int .i64 t2] 25)
      have B := B.alloc (.cells #[.int .i64 t1, .int .i64 t2] 25)
      have N := N.alloc (.cells #[.int .i64 t1, .int .i64 t2] 25)
      have M := M.alloc (.cells #[.int .i64 t1, .int .i64 t2] 25)
      have P := P.alloc (.cells #[.int .i64 t1, .int .i64 t2] 25)
      have Q := At2.new wz13 (.int .i64 t1) (.int .i64 t2) 25
      have HB := Lib.hid (bstep HB.out (below1 wz13 (.cells #[.int .i64 t1, .int .i64 t2] 25)))
      obtain ⟨A0, A1, -, -, -⟩ := id A
      obtain ⟨B0, B1, -, -, -⟩ := id B
      obtain ⟨N0, N1, -, -, -⟩ := id N
      obtain ⟨M0, M1, -, -, -⟩ := id M
      obtain ⟨P0, P1, -, -, -⟩ := id P
      obtain ⟨Q0, Q1, -, -, -⟩ := id Q
      go_wp2_with fail
      refine (KS3.out (by trivial) _ HB.out).mono ?_
      rintro e14 wz14 ⟨rfl, hb⟩
      clear A0 A1 B0 B1 N0 N1 M0 M1 P0 P1 Q0 Q1
      have A := A.keep hb
      have B := B.keep hb
      have N := N.keep hb
      have M := M.keep hb
      have P := P.keep hb
      have Q := Q.keep hb
      have HB := Lib.hid (bstep HB.out hb)
      clear hb
      have A := A.alloc (.cells #[.int .i64 c1, .int .i64 c2] 25)
      have B := B.alloc (.cells #[.int .i64 c1, .int .i64 c2] 25)
      have N := N.alloc (.cells #[.int .i64 c1, .int .i64 c2] 25)
      have M := M.alloc (.cells #[.int .i64 c1, .int .i64 c2] 25)
      have P := P.alloc (.cells #[.int .i64 c1, .int .i64 c2] 25)
      have Q := Q.alloc (.cells #[.int .i64 c1, .int .i64 c2] 25)
      have R := At2.new wz14 (.int .i64 c1) (.int .i64 c2) 25
      have HB := Lib.hid (bstep HB.out (below1 wz14 (.cells #[.int .i64 c1, .int .i64 c2] 25)))
      obtain ⟨A0, A1, -, -, -⟩ := id A
      obtain ⟨B0, B1, -, -, -⟩ := id B
      obtain ⟨N0, N1, -, -, -⟩ := id N
      obtain ⟨M0, M1, -, -, -⟩ := id M
      obtain ⟨P0, P1, -, -, -⟩ := id P
      obtain ⟨Q0, Q1, -, -, -⟩ := id Q
      obtain ⟨R0, R1, -, -, -⟩ := id R
      go_wp2_with fail
      refine (KS4.out (by trivial) _ HB.out).mono ?_
      rintro e15 wz15 ⟨rfl, hb⟩
      clear A0 A1 B0 B1 N0 N1 M0 M1 P0 P1 Q0 Q1 R0 R1
      have A := A.keep hb
      have B := B.keep hb
      have N := N.keep hb
      have M := M.keep hb
      have P := P.keep hb
      have Q := Q.keep hb
      have R := R.keep hb
      have HB := Lib.hid (bstep HB.out hb)
      clear hb
      have A := A.alloc (.cells #[.int .i64 d1, .int .i64 d2] 25)
      have B := B.alloc (.cells #[.int .i64 d1, .int .i64 d2] 25)
      have N := N.alloc (.cells #[.int .i64 d1, .int .i64 d2] 25)
      have M := M.alloc (.cells #[.int .i64 d1, .int .i64 d2] 25)
      have P := P.alloc (.cells #[.int .i64 d1, .int .i64 d2] 25)
      have Q := Q.alloc (.cells #[.int .i64 d1, .int .i64 d2] 25)
      have R := R.alloc (.cells #[.int .i64 d1, .int .i64 d2] 25)
      have S := At2.new wz15 (.int .i64 d1) (.int .i64 d2) 25
      have HB := Lib.hid (bstep HB.out (below1 wz15 (.cells #[.int .i64 d1, .int .i64 d2] 25)))
      obtain ⟨A0, A1, -, -, -⟩ := id A
      obtain ⟨B0, B1, -, -, -⟩ := id B
      obtain ⟨N0, N1, -, -, -⟩ := id N
      obtain ⟨M0, M1, -, -, -⟩ := id M
      obtain ⟨P0, P1, -, -, -⟩ := id P
      obtain ⟨Q0, Q1, -, -, -⟩ := id Q
      obtain ⟨R0, R1, -, -, -⟩ := id R
      obtain ⟨S0, S1, -, -, -⟩ := id S
      go_upto_region 14 with fail
      clear P0 P1 Q0 Q1 R0 R1 S0 S1 P Q R S KS1 KS2 KS3 KS4 D1 D2 D3 D4
      clear C0 CW V1 V2
      go_wp2_with fail
      refine (KG1.out _ HB.out).mono ?_
      rintro e16 wz16 ⟨rfl, hb⟩
      clear A0 A1 B0 B1 N0 N1 M0 M1
      have A := A.keep hb
      have B := B.keep hb
      have N := N.keep hb
      have M := M.keep hb
      have HB := Lib.hid (bstep HB.out hb)
      clear hb
      clear KG1
      have A := A.alloc (.cells #[.int .i64 l, .int .i64 h] 25)
      have B := B.alloc (.cells #[.int .i64 l, .int .i64 h] 25)
      have N := N.alloc (.cells #[.int .i64 l, .int .i64 h] 25)
      have M := M.alloc (.cells #[.int .i64 l, .int .i64 h] 25)
      have X := At2.new wz16 (.int .i64 l) (.int .i64 h) 25
      have HB := Lib.hid (bstep HB.out (below1 wz16 (.cells #[.int .i64 l, .int .i64 h] 25)))
      obtain ⟨A0, A1, -, -, -⟩ := id A
      obtain ⟨B0, B1, -, -, -⟩ := id B
      obtain ⟨N0, N1, -, -, -⟩ := id N
      obtain ⟨M0, M1, -, -, -⟩ := id M
      obtain ⟨X0, X1, -, -, -⟩ := id X
      go_wp2_with fail
      refine (KG2.out _ HB.out).mono ?_
      rintro e17 wz17 ⟨rfl, hb⟩
      clear A0 A1 B0 B1 N0 N1 M0 M1 X0 X1
      have A := A.keep hb
      have B := B.keep hb
      have N := N.keep hb
      have M := M.keep hb
      have X := X.keep hb
      have HB := Lib.hid (bstep HB.out hb)
      clear hb
      clear KG2 A B N M
      have iXY : ¬ wz16.heap.size = wz17.heap.size := by have := X.lt; omega
      have oXY : ¬ wz17.heap.size = wz16.heap.size := by have := X.lt; omega
      have HY := HB
      have Xa := fun o => (X.alloc o).c0
      have Xb := fun o => (X.alloc o).c1
      have lY : w.heap.size ≤ wz17.heap.size := HB.out.size
      have X := X.alloc (.cells #[.int .i64 p, .int .i64 q] 25)
      have Y := At2.new wz17 (.int .i64 p) (.int .i64 q) 25
      have HB := Lib.hid (bstep HB.out (below1 wz17 (.cells #[.int .i64 p, .int .i64 q] 25)))
      obtain ⟨X0, X1, -, -, -⟩ := id X
      obtain ⟨Y0, Y1, -, -, -⟩ := id Y
      go_upto_region 16 with fail
      go_upto_region 18 with fail
      have HZ := HB
      clear HB
      rcases E.out with ⟨rfl, rfl⟩ | ⟨ne, K⟩
      · go_wp2_with fail
        go_ret
        exact ⟨rfl, HZ.out⟩
      · by_cases z : l = 0
        · have hT : ¬ h = 21600000 := fun e => ne ⟨z, e⟩
          subst z
          clear ne E
          rcases K with ⟨lt, KI⟩ | ⟨lt, KI⟩
          · exact absurd lt (by omega)
          · skip
            have KI := Lib.hid KI
            go_wp2_with fail
            with_reducible refine (KI.out _).mono ?_
            rintro e30 wz30 ⟨rfl, hb⟩
            have HB := Lib.hid (bstep HZ.out hb)
            clear hb
            go_wp2_with fail
            go_ret
            exact ⟨rfl, HB.out⟩
        · clear ne E
          rcases K with ⟨lt, KI⟩ | ⟨lt, KI⟩
          · skip
            have KI := Lib.hid KI
            go_wp2_with fail
            with_reducible refine (KI.out _).mono ?_
            rintro e30 wz30 ⟨rfl, hb⟩
            have HB := Lib.hid (bstep (bstep HY.out (below1 _ _)) hb)
            clear hb
            go_wp2_with fail
            go_ret
            exact ⟨rfl, HB.out⟩
          · skip
            have KI := Lib.hid KI
            go_wp2_with fail
            with_reducible refine (KI.out _).mono ?_
            rintro e30 wz30 ⟨rfl, hb⟩
            have HB := Lib.hid (bstep HZ.out hb)
            clear hb
            go_wp2_with fail
            go_ret
            exact ⟨rfl, HB.out⟩
    | false =>
      obtain ⟨A0, A1, -, -, -⟩ := id A
      obtain ⟨B0, B1, -, -, -⟩ := id B
      obtain ⟨N0, N1, -, -, -⟩ := id N
      obtain ⟨M0, M1, -, -, -⟩ := id M
      go_wp2_with fail
      refine (CW.out _).mono ?_
      rintro e11 wz11 ⟨rfl, hb⟩
      clear A0 A1 B0 B1 N0 N1 M0 M1
      have A := A.keep hb
      have B := B.keep hb
      have N := N.keep hb
      have M := M.keep hb
      have HB := Lib.hid (bstep HB.out hb)
      clear hb
      obtain ⟨A0, A1, -, -, -⟩ := id A
      obtain ⟨B0, B1, -, -, -⟩ := id B
      obtain ⟨N0, N1, -, -, -⟩ := id N
      obtain ⟨M0, M1, -, -, -⟩ := id M
      clear KS1 KS2 KS3 KS4
      clear C0 CW V1 V2
      go_wp2_with fail
      refine (KG1.out _ HB.out).mono ?_
      rintro e12 wz12 ⟨rfl, hb⟩
      clear A0 A1 B0 B1 N0 N1 M0 M1
      have A := A.keep hb
      have B := B.keep hb
      have N := N.keep hb
      have M := M.keep hb
      have HB := Lib.hid (bstep HB.out hb)
      clear hb
      clear KG1
      have A := A.alloc (.cells #[.int .i64 l, .int .i64 h] 25)
      have B := B.alloc (.cells #[.int .i64 l, .int .i64 h] 25)
      have N := N.alloc (.cells #[.int .i64 l, .int .i64 h] 25)
      have M := M.alloc (.cells #[.int .i64 l, .int .i64 h] 25)
      have X := At2.new wz12 (.int .i64 l) (.int .i64 h) 25
      have HB := Lib.hid (bstep HB.out (below1 wz12 (.cells #[.int .i64 l, .int .i64 h] 25)))
      obtain ⟨A0, A1, -, -, -⟩ := id A
      obtain ⟨B0, B1, -, -, -⟩ := id B
      obtain ⟨N0, N1, -, -, -⟩ := id N
      obtain ⟨M0, M1, -, -, -⟩ := id M
      obtain ⟨X0, X1, -, -, -⟩ := id X
      go_wp2_with fail
      refine (KG2.out _ HB.out).mono ?_
      rintro e13 wz13 ⟨rfl, hb⟩
      clear A0 A1 B0 B1 N0 N1 M0 M1 X0 X1
      have A := A.keep hb
      have B := B.keep hb
      have N := N.keep hb
      have M := M.keep hb
      have X := X.keep hb
      have HB := Lib.hid (bstep HB.out hb)
      clear hb
      clear KG2 A B N M
      have iXY : ¬ wz12.heap.size = wz13.heap.size := by have := X.lt; omega
      have oXY : ¬ wz13.heap.size = wz12.heap.size := by have := X.lt; omega
      have HY := HB
      have Xa := fun o => (X.alloc o).c0
      have Xb := fun o => (X.alloc o).c1
      have lY : w.heap.size ≤ wz13.heap.size := HB.out.size
      have X := X.alloc (.cells #[.int .i64 p, .int .i64 q] 25)
      have Y := At2.new wz13 (.int .i64 p) (.int .i64 q) 25
      have HB := Lib.hid (bstep HB.out (below1 wz13 (.cells #[.int .i64 p, .int .i64 q] 25)))
      obtain ⟨X0, X1, -, -, -⟩ := id X
      obtain ⟨Y0, Y1, -, -, -⟩ := id Y
      go_upto_region 16 with fail
      go_upto_region 18 with fail
      have HZ := HB
      clear HB
      rcases E.out with ⟨rfl, rfl⟩ | ⟨ne, K⟩
      · go_wp2_with fail
        go_ret
        exact ⟨rfl, HZ.out⟩
      · by_cases z : l = 0
        · have hT : ¬ h = 21600000 := fun e => ne ⟨z, e⟩
          subst z
          clear ne E
          rcases K with ⟨lt, KI⟩ | ⟨lt, KI⟩
          · exact absurd lt (by omega)
          · skip
            have KI := Lib.hid KI
            go_wp2_with fail
            with_reducible refine (KI.out _).mono ?_
            rintro e30 wz30 ⟨rfl, hb⟩
            have HB := Lib.hid (bstep HZ.out hb)
            clear hb
            go_wp2_with fail
            go_ret
            exact ⟨rfl, HB.out⟩
        · clear ne E
          rcases K with ⟨lt, KI⟩ | ⟨lt, KI⟩
          · skip
            have KI := Lib.hid KI
            go_wp2_with fail
            with_reducible refine (KI.out _).mono ?_
            rintro e30 wz30 ⟨rfl, hb⟩
            have HB := Lib.hid (bstep (bstep HY.out (below1 _ _)) hb)
            clear hb
            go_wp2_with fail
            go_ret
            exact ⟨rfl, HB.out⟩
          · skip
            have KI := Lib.hid KI
            go_wp2_with fail
            with_reducible refine (KI.out _).mono ?_
            rintro e30 wz30 ⟨rfl, hb⟩
            have HB := Lib.hid (bstep HZ.out hb)
            clear hb
            go_wp2_with fail
            go_ret
            exact ⟨rfl, HB.out⟩
theorem grows_n1 (a b c d lo hi : Int) (w : World) (h : fok a b = false)
    (C0 : Hid (∀ wx, Below w.heap.size w wx → Calls Tryd.prog 11 #[] wx fun e w' => e = .returned (.bool true) ∧ Below wx.heap.size wx w'))
    : Calls Tryd.prog 8 #[.agg #[.int .i64 a, .int .i64 b], .agg #[.int .i64 c, .int .i64 d], .int .u32 lo, .int .u32 hi] w fun e w' => e = .returned (.bool true) ∧ Below w.heap.size w w' := by
  have V1 := Lib.hid (fun wx => rValid7_is a b false h wx)
  clear h
  obtain ⟨cA, hcA⟩ : ∃ o : Obj, (.cells #[.int .i64 a, .int .i64 b] 23 : Obj) = o := ⟨_, rfl⟩
  obtain ⟨cB, hcB⟩ : ∃ o : Obj, (.cells #[.int .i64 c, .int .i64 d] 23 : Obj) = o := ⟨_, rfl⟩
  obtain ⟨cL, hcL⟩ : ∃ o : Obj, (.cells #[.int .u32 lo] 39 : Obj) = o := ⟨_, rfl⟩
  obtain ⟨cH, hcH⟩ : ∃ o : Obj, (.cells #[.int .u32 hi] 39 : Obj) = o := ⟨_, rfl⟩
  have A := (((At2.new w (.int .i64 a) (.int .i64 b) 23).alloc cB).alloc cL).alloc cH
  have B := ((At2.new (w.alloc cA) (.int .i64 c) (.int .i64 d) 23).alloc cL).alloc cH
  have L := (At1.new ((w.alloc cA).alloc cB) (.int .u32 lo) 39).alloc cH
  have H := At1.new (((w.alloc cA).alloc cB).alloc cL) (.int .u32 hi) 39
  have HB := Lib.hid (bstep (bstep (bstep (below1 w cA) (below1 (w.alloc cA) cB)) (below1 ((w.alloc cA).alloc cB) cL)) (below1 (((w.alloc cA).alloc cB).alloc cL) cH))
  subst cA cB cL cH
  simp at B L H
  obtain ⟨A0, A1, -, -, -⟩ := id A
  obtain ⟨B0, B1, -, -, -⟩ := id B
  have L0 := L.c0
  have H0 := H.c0
  have hmf : ∀ (fn : Fn) (first cap : Array Value) (w : World), (Instr.makeFunc fn first cap).run Tryd.prog w = .ok (.func fn first cap) w := fun _ _ _ _ => rfl
  go_enter Tryd.func8, Tryd.ntmps8
  go_wp2_with fail
  refine (C0.out _ HB.out).mono ?_
  rintro e1 wz1 ⟨rfl, hb⟩
  clear A0 A1 B0 B1 L0 H0
  have A := A.keep hb
  have B := B.keep hb
  have L := L.keep hb
  have H := H.keep hb
  have HB := Lib.hid (bstep HB.out hb)
  clear hb
  obtain ⟨A0, A1, -, -, -⟩ := id A
  obtain ⟨B0, B1, -, -, -⟩ := id B
  have L0 := L.c0
  have H0 := H.c0
  go_wp2_with fail
  refine (V1.out _).mono ?_
  rintro e2 wz2 ⟨rfl, hb⟩
  clear A0 A1 B0 B1 L0 H0
  have A := A.keep hb
  have B := B.keep hb
  have L := L.keep hb
  have H := H.keep hb
  have HB := Lib.hid (bstep HB.out hb)
  clear hb
  obtain ⟨A0, A1, -, -, -⟩ := id A
  obtain ⟨B0, B1, -, -, -⟩ := id B
  have L0 := L.c0
  have H0 := H.c0
  go_wp2_with fail
  go_ret
  exact ⟨rfl, HB.out⟩
theorem grows_n2 (a b c d lo hi : Int) (w : World) (h : fok a b = true) (k : fok c d = false)
    (C0 : Hid (∀ wx, Below w.heap.size w wx → Calls Tryd.prog 11 #[] wx fun e w' => e = .returned (.bool true) ∧ Below wx.heap.size wx w'))
    : Calls Tryd.prog 8 #[.agg #[.int .i64 a, .int .i64 b], .agg #[.int .i64 c, .int .i64 d], .int .u32 lo, .int .u32 hi] w fun e w' => e = .returned (.bool true) ∧ Below w.heap.size w w' := by
  have V1 := Lib.hid (fun wx => rValid7_is a b true h wx)
  have V2 := Lib.hid (fun wx => rValid7_is c d false k wx)
  clear h k
  obtain ⟨cA, hcA⟩ : ∃ o : Obj, (.cells #[.int .i64 a, .int .i64 b] 23 : Obj) = o := ⟨_, rfl⟩
  obtain ⟨cB, hcB⟩ : ∃ o : Obj, (.cells #[.int .i64 c, .int .i64 d] 23 : Obj) = o := ⟨_, rfl⟩
  obtain ⟨cL, hcL⟩ : ∃ o : Obj, (.cells #[.int .u32 lo] 39 : Obj) = o := ⟨_, rfl⟩
  obtain ⟨cH, hcH⟩ : ∃ o : Obj, (.cells #[.int .u32 hi] 39 : Obj) = o := ⟨_, rfl⟩
  have A := (((At2.new w (.int .i64 a) (.int .i64 b) 23).alloc cB).alloc cL).alloc cH
  have B := ((At2.new (w.alloc cA) (.int .i64 c) (.int .i64 d) 23).alloc cL).alloc cH
  have L := (At1.new ((w.alloc cA).alloc cB) (.int .u32 lo) 39).alloc cH
  have H := At1.new (((w.alloc cA).alloc cB).alloc cL) (.int .u32 hi) 39
  have HB := Lib.hid (bstep (bstep (bstep (below1 w cA) (below1 (w.alloc cA) cB)) (below1 ((w.alloc cA).alloc cB) cL)) (below1 (((w.alloc cA).alloc cB).alloc cL) cH))
  subst cA cB cL cH
  simp at B L H
  obtain ⟨A0, A1, -, -, -⟩ := id A
  obtain ⟨B0, B1, -, -, -⟩ := id B
  have L0 := L.c0
  have H0 := H.c0
  have hmf : ∀ (fn : Fn) (first cap : Array Value) (w : World), (Instr.makeFunc fn first cap).run Tryd.prog w = .ok (.func fn first cap) w := fun _ _ _ _ => rfl
  go_enter Tryd.func8, Tryd.ntmps8
  go_wp2_with fail
  refine (C0.out _ HB.out).mono ?_
  rintro e1 wz1 ⟨rfl, hb⟩
  clear A0 A1 B0 B1 L0 H0
  have A := A.keep hb
  have B := B.keep hb
  have L := L.keep hb
  have H := H.keep hb
  have HB := Lib.hid (bstep HB.out hb)
  clear hb
  obtain ⟨A0, A1, -, -, -⟩ := id A
  obtain ⟨B0, B1, -, -, -⟩ := id B
  have L0 := L.c0
  have H0 := H.c0
  go_wp2_with fail
  refine (V1.out _).mono ?_
  rintro e2 wz2 ⟨rfl, hb⟩
  clear A0 A1 B0 B1 L0 H0
  have A := A.keep hb
  have B := B.keep hb
  have L := L.keep hb
  have H := H.keep hb
  have HB := Lib.hid (bstep HB.out hb)
  clear hb
  obtain ⟨A0, A1, -, -, -⟩ := id A
  obtain ⟨B0, B1, -, -, -⟩ := id B
  have L0 := L.c0
  have H0 := H.c0
  go_wp2_with fail
  refine (V2.out _).mono ?_
  rintro e3 wz3 ⟨rfl, hb⟩
  clear A0 A1 B0 B1 L0 H0
  have A := A.keep hb
  have B := B.keep hb
  have L := L.keep hb
  have H := H.keep hb
  have HB := Lib.hid (bstep HB.out hb)
  clear hb
  obtain ⟨A0, A1, -, -, -⟩ := id A
  obtain ⟨B0, B1, -, -, -⟩ := id B
  have L0 := L.c0
  have H0 := H.c0
  go_wp2_with fail
  go_ret
  exact ⟨rfl, HB.out⟩
theorem grows_walk (w : World) (H : Held w) (a b c d lo hi : Int) (ha : I64 a) (hb : I64 b) (hc : I64 c) (hd : I64 d) (l1 : 0 ≤ lo) (l2 : lo ≤ 4294967295) (k1 : 0 ≤ hi) (k2 : hi ≤ 4294967295) : Calls Tryd.prog 8 #[.agg #[.int .i64 a, .int .i64 b], .agg #[.int .i64 c, .int .i64 d], .int .u32 lo, .int .u32 hi] w fun e w' => e = .returned (.bool true) ∧ Below w.heap.size w w' := by
  have P := arProg w H
  have C0 := Lib.hid (fun wx (hb : Below w.heap.size w wx) => awake7 w P wx hb)
  rcases Bool.eq_false_or_eq_true (fok a b) with h | h
  · rcases Bool.eq_false_or_eq_true (fok c d) with k | k
    · obtain ⟨h1, h2, h3⟩ := (fok_iff _ _).1 h
      obtain ⟨m1, m2, m3⟩ := (fok_iff _ _).1 k
      obtain ⟨x, hx⟩ : ∃ x, a + lo.tmod (b - a + 1) = x := ⟨_, rfl⟩
      obtain ⟨y, hy⟩ : ∃ y, x + hi.tmod (b - x + 1) = y := ⟨_, rfl⟩
      obtain ⟨u, hu⟩ : ∃ u, c + lo.tmod (d - c + 1) = u := ⟨_, rfl⟩
      obtain ⟨v, hv⟩ : ∃ v, u + hi.tmod (d - u + 1) = v := ⟨_, rfl⟩
      have X1 := tmod_lt7 (x := lo) (y := b - a + 1) l1 (by omega)
      have X2 := tmod_lt7 (x := hi) (y := b - x + 1) k1 (by omega)
      have X3 := tmod_lt7 (x := lo) (y := d - c + 1) l1 (by omega)
      have X4 := tmod_lt7 (x := hi) (y := d - u + 1) k1 (by omega)
      have KA := fun (gl gh : Nat) (wx : World) (L : At1 wx gl (.int .u32 lo)) (H : At1 wx gh (.int .u32 hi)) => part7_any a b lo hi x y _ _ _ _ gl gh wx (by omega) (by omega) (by omega) l1 l2 k1 k2 rfl rfl rfl hx rfl hy L H
      have KB := fun (gl gh : Nat) (wx : World) (L : At1 wx gl (.int .u32 lo)) (H : At1 wx gh (.int .u32 hi)) => part7_any c d lo hi u v _ _ _ _ gl gh wx (by omega) (by omega) (by omega) l1 l2 k1 k2 rfl rfl rfl hu rfl hv L H
      have p1 : a ≤ x := by omega
      have p2 : x ≤ y := by omega
      have p3 : y ≤ b := by omega
      have p4 : c ≤ u := by omega
      have p5 : u ≤ v := by omega
      have p6 : v ≤ d := by omega
      clear X1 X2 X3 X4 hx hy hu hv
      obtain ⟨⟨e1, e2, e3, e4, e5⟩, ⟨f1, f2, f3, f4, f5⟩, E⟩ := part_arc h k p1 p2 p3 p4 p5 p6
      have G1 := fun wx (hx : Below w.heap.size w wx) => pBearing a b c d wx (H.keep hx)
      have G2 := fun wx (hx : Below w.heap.size w wx) => pBearing x y u v wx (H.keep hx)
      unfold tAr at G1 G2
      rw [e5] at G1
      rw [f5] at G2
      have I1 := fun wx => pInside (beL x y u v + 21600000) (beH x y u v + 21600000) (beL a b c d) (beH a b c d) wx
      have I2 := fun wx => pInside (beL x y u v) (beH x y u v) (beL a b c d) (beH a b c d) wx
      generalize beL a b c d = l at *
      generalize beH a b c d = hh at *
      generalize beL x y u v = p at *
      generalize beH x y u v = q at *
      have E' : (l = 0 ∧ hh = 21600000) ∨ (¬ (l = 0 ∧ hh = 21600000) ∧ ((p < l ∧ ainR (p + 21600000) (q + 21600000) l hh = true) ∨ (¬ p < l ∧ ainR p q l hh = true))) := by
        rcases E with E | ⟨E, ⟨F1, F2⟩ | ⟨F1, F2⟩⟩
        · exact .inl E
        · have o1 : aok (p + 21600000) (q + 21600000) = true := aok_mk (by omega) (by omega) (by omega)
          have o2 : aok l hh = true := aok_mk (by omega) (by omega) (by omega)
          have o3 : l ≤ p + 21600000 ∧ q + 21600000 ≤ hh := by omega
          refine .inr ⟨E, .inl ⟨F1, ?_⟩⟩
          unfold ainR
          rw [o1, o2, decide_eq_true o3]; rfl
        · have o1 : aok p q = true := aok_mk (by omega) (by omega) (by omega)
          have o2 : aok l hh = true := aok_mk (by omega) (by omega) (by omega)
          have o3 : l ≤ p ∧ q ≤ hh := by omega
          refine .inr ⟨E, .inr ⟨F1, ?_⟩⟩
          unfold ainR
          rw [o1, o2, decide_eq_true o3]; rfl
      have E2 : (l = 0 ∧ hh = 21600000) ∨ (¬ (l = 0 ∧ hh = 21600000) ∧ ((p < l ∧ (∀ wx, Calls Tryd.prog 27 #[.agg #[.int .i64 (p + 21600000), .int .i64 (q + 21600000)], .agg #[.int .i64 l, .int .i64 hh]] wx fun e w' => e = .returned (.bool true) ∧ Below wx.heap.size wx w')) ∨ (¬ p < l ∧ (∀ wx, Calls Tryd.prog 27 #[.agg #[.int .i64 p, .int .i64 q], .agg #[.int .i64 l, .int .i64 hh]] wx fun e w' => e = .returned (.bool true) ∧ Below wx.heap.size wx w')))) := by
        rcases E' with E | ⟨E, ⟨F1, F2⟩ | ⟨F1, F2⟩⟩
        · exact .inl E
        · rw [F2] at I1
          exact .inr ⟨E, .inl ⟨F1, I1⟩⟩
        · rw [F2] at I2
          exact .inr ⟨E, .inr ⟨F1, I2⟩⟩
      clear E E' I1 I2
      have ix : I64 x := ⟨by omega, by omega⟩
      have iy : I64 y := ⟨by omega, by omega⟩
      rcases Bool.eq_false_or_eq_true (wOk a b) with o | o
      · have o' : wOk x y = true := (wOk_iff _ _).2 (by have := (wOk_iff _ _).1 o; omega)
        obtain ⟨z1, z2, z3, i⟩ := aE_of o
        obtain ⟨z4, z5, z6, j⟩ := aE_of o'
        obtain ⟨s1, s2⟩ := L6.asin_part i j (by omega) (by omega)
        have A1 := fun wx (hx : Below w.heap.size w wx) => P.asin a b wx hx ha hb
        have A2 := fun wx (hx : Below w.heap.size w wx) => P.asin x y wx hx ix iy
        have A3 := fun wx (hx : Below w.heap.size w wx) => P.acos a b wx hx ha hb
        have A4 := fun wx (hx : Below w.heap.size w wx) => P.acos x y wx hx ix iy
        have g1 : acL a b = 5400000 - L6.aHi b := by unfold acL; rw [if_pos z1, z3]
        have g2 : acH a b = 5400000 - L6.aLo a := by unfold acH; rw [if_pos z1, z2]
        have g3 : acL x y = 5400000 - L6.aHi y := by unfold acL; rw [if_pos z4, z6]
        have g4 : acH x y = 5400000 - L6.aLo x := by unfold acH; rw [if_pos z4, z5]
        unfold tAr at A1 A2 A3 A4
        rw [z1, z2, z3] at A1
        rw [z4, z5, z6] at A2
        rw [z1, g1, g2] at A3
        rw [z4, g3, g4] at A4
        exact grows_main true a b c d lo hi x y u v _ _ _ _ _ _ _ _ l hh p q _ _ _ w h k C0 (Lib.hid KA) (Lib.hid KB) (Lib.hid fun wx => within_is a b true o wx) (Lib.hid fun _ => A1) (Lib.hid fun _ => A2) (Lib.hid fun _ => A3) (Lib.hid fun _ => A4) (Lib.hid G1) (Lib.hid G2)
          (by omega) (by omega) (by omega) (by omega) (by omega) (by omega) (by omega) (by omega) (by omega) (by omega) (by omega) (by omega) rfl rfl rfl (Lib.hid E2)
      · exact grows_main false a b c d lo hi x y u v 0 0 0 0 0 0 0 0 l hh p q _ _ _ w h k C0 (Lib.hid KA) (Lib.hid KB) (Lib.hid fun wx => within_is a b false o wx) (Lib.hid fun t => by cases t) (Lib.hid fun t => by cases t) (Lib.hid fun t => by cases t) (Lib.hid fun t => by cases t) (Lib.hid G1) (Lib.hid G2)
          (by omega) (by omega) (by omega) (by omega) (by omega) (by omega) (by omega) (by omega) (by omega) (by omega) (by omega) (by omega) rfl rfl rfl (Lib.hid E2)
    · exact grows_n2 a b c d lo hi w h k C0
  · exact grows_n1 a b c d lo hi w h C0
end Go.Proofs.YtebhflmmdfbjkaaDoor
