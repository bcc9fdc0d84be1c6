/- TrigParts: the walk of the law. -/
import Derived.Test.YtglmkpnnbgkndaaDoorTrQ
namespace Go.Proofs.YtglmkpnnbgkndaaDoor
open Go.RowKit
set_option linter.unusedVariables false
set_option maxRecDepth 100000


theorem parts_out (w : World) (P : TrProg w) (a b i k : Int) (h : rok a b = false) :
    Calls Tryd.prog 7 #[.agg #[.int .i64 a, .int .i64 b], .int .u32 i, .int .u32 k] w fun e w' => e = .returned (.bool true) ∧ Below w.heap.size w w' := by
  have C0 := Lib.hid (fun wx (hb : Below w.heap.size w wx) => awake_any w P wx hb)
  have C1 := Lib.hid (fun wx => right_is a b false h wx)
  clear h
  have A := At2.new w (.int .i64 a) (.int .i64 b) 23
  have HB := Lib.hid (bstep (Below.refl w.heap.size w) (below1 w (.cells #[.int .i64 a, .int .i64 b] 23)))
  go_enter Tryd.func7, Tryd.ntmps7
  obtain ⟨A0, A1, -, -, -⟩ := id A
  go_wp2_with fail
  refine (C0.out _ HB.out).mono ?_
  rintro e w1 ⟨rfl, hb⟩
  have A := A.keep hb
  have HB := Lib.hid (bstep HB.out hb)
  clear hb
  clear A0 A1
  obtain ⟨A0, A1, -, -, -⟩ := id A
  go_wp2_with fail
  refine (C1.out _).mono ?_
  rintro e w2 ⟨rfl, hb⟩
  have A := A.keep hb
  have HB := Lib.hid (bstep HB.out hb)
  clear hb
  clear A0 A1
  obtain ⟨A0, A1, -, -, -⟩ := id A
  go_wp2_with fail
  go_ret
  exact ⟨rfl, HB.out⟩

structure Fn3 (w : World) (g : Nat) : Prop where
  c0 : w.cell? ⟨g, 0, none⟩ = some (.func (.func 13) #[] #[])
  c1 : w.cell? ⟨g, 1, none⟩ = some (.func (.func 14) #[] #[])
  c2 : w.cell? ⟨g, 2, none⟩ = some (.func (.func 18) #[] #[])
  lt : g < w.heap.size
theorem Fn3.keep {w w1 : World} {g : Nat} (h : Fn3 w g) (hb : Below w.heap.size w w1) : Fn3 w1 g :=
  ⟨(hb.cell (p := ⟨g, 0, none⟩) h.lt).trans h.c0, (hb.cell (p := ⟨g, 1, none⟩) h.lt).trans h.c1, (hb.cell (p := ⟨g, 2, none⟩) h.lt).trans h.c2, Nat.lt_of_lt_of_le h.lt hb.size⟩
theorem Fn3.new (w : World) : Fn3 (w.alloc (.cells #[.func (.func 13) #[] #[], .func (.func 14) #[] #[], .func (.func 18) #[] #[]] 28)) w.heap.size :=
  ⟨by rw [World.cell?_alloc_new]; rfl, by rw [World.cell?_alloc_new]; rfl, by rw [World.cell?_alloc_new]; rfl, by simp⟩

/-- what a round asks -/
structure Rnd (w : World) (f : Nat) (m a b p q d : Int) : Prop where
  all : ∃ L H l h u v : Int,
    (∀ wx, Below w.heap.size w wx → Calls Tryd.prog f #[.agg #[.int .i64 a, .int .i64 b]] wx fun e w' => e = .returned (.tuple #[.agg #[.int .i64 L, .int .i64 H], .int .i64 0]) ∧ Below wx.heap.size wx w') ∧
    (∀ wx, Below w.heap.size w wx → Calls Tryd.prog f #[.agg #[.int .i64 p, .int .i64 q]] wx fun e w' => e = .returned (.tuple #[.agg #[.int .i64 l, .int .i64 h], .int .i64 0]) ∧ Below wx.heap.size wx w') ∧
    (∀ wx, Below w.heap.size w wx → Calls Tryd.prog f #[.agg #[.int .i64 p, .int .i64 p]] wx fun e w' => e = .returned (.tuple #[.agg #[.int .i64 u, .int .i64 v], .int .i64 0]) ∧ Below wx.heap.size wx w') ∧
    decide (L < m) = false ∧ decide (H > 1073741824) = false ∧ decide (L > H) = false ∧ decide (l < L) = false ∧ decide (h > H) = false ∧ decide (u < l) = false ∧ decide (v > h) = false ∧
    ∃ e, v - u = e ∧ decide (e > 1) = false ∧ decide (u > v) = false ∧ -9223372036854775808 ≤ e ∧ e ≤ 9223372036854775807 ∧
    (decide (d ≥ 21600000) = false ∨ (decide (d ≥ 21600000) = true ∧ m = L ∧ 1073741824 = H))

set_option maxHeartbeats 8000000 in
theorem parts_in (w : World) (a b i k d m r s x y : Int) (hd : b - a = d) (hm : d + 1 = m) (hr : i.tmod m = r) (hs : k.tmod m = s) (hx : a + r = x) (hy : a + s = y)
    (a1 : -274877906944 ≤ a) (b2 : b ≤ 274877906944) (ab : a ≤ b) (i1 : 0 ≤ i) (i2 : i ≤ 4294967295) (k1 : 0 ≤ k) (k2 : k ≤ 4294967295) (x1 : a ≤ x) (x2 : x ≤ b) (y1 : a ≤ y) (y2 : y ≤ b) 
    (C0 : Hid (∀ wx, Below w.heap.size w wx → Calls Tryd.prog 12 #[] wx fun e w' => e = .returned (.bool true) ∧ Below wx.heap.size wx w'))
    (C1 : Hid (∀ wx, Calls Tryd.prog 22 #[.agg #[.int .i64 a, .int .i64 b]] wx fun e w' => e = .returned (.bool true) ∧ Below wx.heap.size wx w'))
    (K0 : Hid (Rnd w 13 (-1073741824) a b (min x y) (max x y) d)) (K1 : Hid (Rnd w 14 (-1073741824) a b (min x y) (max x y) d)) (K2 : Hid (Rnd w 18 0 a b (min x y) (max x y) d)) :
    Calls Tryd.prog 7 #[.agg #[.int .i64 a, .int .i64 b], .int .u32 i, .int .u32 k] w fun e w' => e = .returned (.bool true) ∧ Below w.heap.size w w' := by
  have mz : ¬ m = 0 := by omega
  have d1 : -9223372036854775808 ≤ d := by omega
  have d2 : d ≤ 9223372036854775807 := by omega
  have m1 : -9223372036854775808 ≤ m := by omega
  have m2 : m ≤ 9223372036854775807 := by omega
  have r1 : -9223372036854775808 ≤ r := by omega
  have r2 : r ≤ 9223372036854775807 := by omega
  have s1 : -9223372036854775808 ≤ s := by omega
  have s2 : s ≤ 9223372036854775807 := by omega
  have iw : IntKind.i64.wrap i = i := i64_is (by omega) (by omega)
  have kw : IntKind.i64.wrap k = k := i64_is (by omega) (by omega)
  have CP := Lib.hid (fun wx => at_any (min x y) wx)
  have A := At2.new w (.int .i64 a) (.int .i64 b) 23
  have HB := Lib.hid (bstep (Below.refl w.heap.size w) (below1 w (.cells #[.int .i64 a, .int .i64 b] 23)))
  go_enter Tryd.func7, Tryd.ntmps7
  obtain ⟨A0, A1, -, -, -⟩ := id A
  go_wp2_with fail
  refine (C0.out _ HB.out).mono ?_
  rintro e w1 ⟨rfl, hb⟩
  have A := A.keep hb
  have HB := Lib.hid (bstep HB.out hb)
  clear hb A0 A1
  obtain ⟨A0, A1, -, -, -⟩ := id A
  go_wp2_with fail
  refine (C1.out _ ).mono ?_
  rintro e w2 ⟨rfl, hb⟩
  have A := A.keep hb
  have HB := Lib.hid (bstep HB.out hb)
  clear hb A0 A1
  obtain ⟨A0, A1, -, -, -⟩ := id A
  go_wp2_with fail
  have A' := A.alloc (.cells #[.int .i64 0, .int .i64 0] 23)
  obtain ⟨A0', A1', -, -, -⟩ := id A'
  have ltA := A.lt
  have N := At2.new w2 (.int .i64 0) (.int .i64 0) 23
  obtain ⟨N0, N1, N2, N3, -⟩ := id N
  go_region
  have A := (A.alloc (.cells #[.int .i64 x, .int .i64 y] 23)).keep ((Below.refl _ _).drew)
  have N := (At2.new w2 (.int .i64 x) (.int .i64 y) 23).keep ((Below.refl _ _).drew)
  have szN := HB.out.size
  have HB := Lib.hid ((bstep HB.out (below1 w2 (.cells #[.int .i64 x, .int .i64 y] 23))).drew)
  clear A' A0' A1' N0 N1 N2 N3 A0 A1
  generalize (w2.alloc (.cells #[.int .i64 x, .int .i64 y] 23)).drew = w3 at *
  obtain ⟨N0, N1, N2, N3, -⟩ := id N
  go_upto_region 7 with fail
  go_cut [] from 44 to 55 (fun wx => Hid (At2 wx w2.heap.size (.int .i64 (min x y)) (.int .i64 (max x y))) ∧ Hid (At2 wx w.heap.size (.int .i64 a) (.int .i64 b)) ∧ Hid (Below w.heap.size w wx) ∧ wx.heap.size = w3.heap.size)
  case first =>
    go_wp2_with fail
    all_goals go_meet
    all_goals
      first
      | exact ⟨(by rw [show min x y = x by omega, show max x y = y by omega]; exact Lib.hid (N.put _ _)), Lib.hid (A.far (show w.heap.size ≠ w2.heap.size by omega) _ _), Lib.hid (below_set2 HB.out (show w.heap.size ≤ w2.heap.size by omega) _ _), by simp [World.setCell]⟩
      | exact ⟨(by rw [show min x y = y by omega, show max x y = x by omega]; exact Lib.hid (N.put _ _)), Lib.hid (A.far (show w.heap.size ≠ w2.heap.size by omega) _ _), Lib.hid (below_set2 HB.out (show w.heap.size ≤ w2.heap.size by omega) _ _), by simp [World.setCell]⟩
      | exact ⟨(by rw [show min x y = x by omega, show max x y = x by omega]; exact Lib.hid (N.put _ _)), Lib.hid (A.far (show w.heap.size ≠ w2.heap.size by omega) _ _), Lib.hid (below_set2 HB.out (show w.heap.size ≤ w2.heap.size by omega) _ _), by simp [World.setCell]⟩
      | exact ⟨(by rw [show min x y = y by omega, show max x y = y by omega]; exact Lib.hid (N.put _ _)), Lib.hid (A.far (show w.heap.size ≠ w2.heap.size by omega) _ _), Lib.hid (below_set2 HB.out (show w.heap.size ≤ w2.heap.size by omega) _ _), by simp [World.setCell]⟩
  case rest =>
    obtain ⟨N', A', HB', g3⟩ := hcut
    clear N A HB N0 N1 N2 N3
    have N := N'.out
    have A := A'.out
    have HB := HB'
    clear N' A' HB'
    go_wp2_with fail
    generalize wc = w4 at *
    have HF := Lib.hid (Fn3.new w4)
    have A := A.alloc (.cells #[.func (.func 13) #[] #[], .func (.func 14) #[] #[], .func (.func 18) #[] #[]] 28)
    have N := N.alloc (.cells #[.func (.func 13) #[] #[], .func (.func 14) #[] #[], .func (.func 18) #[] #[]] 28)
    have HB := Lib.hid (bstep HB.out (below1 w4 (.cells #[.func (.func 13) #[] #[], .func (.func 14) #[] #[], .func (.func 18) #[] #[]] 28)))
    rw [g3] at HF
    clear g3
    generalize w3.heap.size = g at *
    go_loopg [9, 10, 11, 12, 13, 14, 15, 16, 17, 58] 3 (fun mu v9 v10 v11 v12 v13 v14 v15 v16 v17 v58 wr => ∃ j : Nat, mu = 3 - j ∧ v58 = .int .i64 (j : Int) ∧ Hid (j ≤ 3) ∧ Hid (At2 wr w.heap.size (.int .i64 a) (.int .i64 b)) ∧ Hid (At2 wr w2.heap.size (.int .i64 (min x y)) (.int .i64 (max x y))) ∧ Hid (Fn3 wr g) ∧ Hid (Below w.heap.size w wr))
    case atStart => exact ⟨0, rfl, by first | rfl | simp, Nat.zero_le _, A, N, HF, HB⟩
    case round =>
      obtain ⟨j, hm, rfl, HJ, HA, HN, HF, HB⟩ := hrel
      have HM := Lib.hid hm
      clear hm
      by_cases hj : j < 3
      · rcases (show j = 0 ∨ j = 1 ∨ j = 2 by omega) with rfl | rfl | rfl
        · obtain ⟨⟨L, H, l, h, u, v, ca, cp, cn, f1, f2, f3, f4, f5, f6, f7, e, he, f8, f9, c1', c2', ways⟩⟩ := K0.out
          have CA := Lib.hid ca
          have CQ := Lib.hid cp
          have CN := Lib.hid cn
          have cj := HF.out.c0
          clear hj ca cp cn
          have ways := Lib.hid ways
          have A := HA.out
          have N := HN.out
          clear HA HN
          obtain ⟨A0, A1, -, -, -⟩ := id A
          obtain ⟨N0, N1, -, -, -⟩ := id N
          go_wp2_with fail
          refine (CA.out _ HB.out).mono ?_
          rintro e' v1 ⟨rfl, hb⟩
          have A := A.keep hb
          have N := N.keep hb
          have HF := Lib.hid (HF.out.keep hb)
          have HB := Lib.hid (bstep HB.out hb)
          clear hb cj A0 A1 N0 N1
          have A := A.alloc (.cells #[.int .i64 (L), .int .i64 (H)] 25)
          have N := N.alloc (.cells #[.int .i64 (L), .int .i64 (H)] 25)
          have X := At2.new v1 (.int .i64 (L)) (.int .i64 (H)) 25
          have HF := Lib.hid (HF.out.keep (below1 v1 (.cells #[.int .i64 (L), .int .i64 (H)] 25)))
          have HB := Lib.hid (bstep HB.out (below1 v1 (.cells #[.int .i64 (L), .int .i64 (H)] 25)))
          have cj := HF.out.c0
          obtain ⟨A0, A1, -, -, -⟩ := id A
          obtain ⟨N0, N1, -, -, -⟩ := id N
          obtain ⟨X0, X1, -, -, -⟩ := id X
          go_wp2_with fail
          refine (CQ.out _ HB.out).mono ?_
          rintro e' v2 ⟨rfl, hb⟩
          have A := A.keep hb
          have N := N.keep hb
          have X := X.keep hb
          have HF := Lib.hid (HF.out.keep hb)
          have HB := Lib.hid (bstep HB.out hb)
          clear hb cj A0 A1 N0 N1 X0 X1
          have A := A.alloc (.cells #[.int .i64 (l), .int .i64 (h)] 25)
          have N := N.alloc (.cells #[.int .i64 (l), .int .i64 (h)] 25)
          have X := X.alloc (.cells #[.int .i64 (l), .int .i64 (h)] 25)
          have Y := At2.new v2 (.int .i64 (l)) (.int .i64 (h)) 25
          have HF := Lib.hid (HF.out.keep (below1 v2 (.cells #[.int .i64 (l), .int .i64 (h)] 25)))
          have HB := Lib.hid (bstep HB.out (below1 v2 (.cells #[.int .i64 (l), .int .i64 (h)] 25)))
          have cj := HF.out.c0
          obtain ⟨A0, A1, -, -, -⟩ := id A
          obtain ⟨N0, N1, -, -, -⟩ := id N
          obtain ⟨X0, X1, -, -, -⟩ := id X
          obtain ⟨Y0, Y1, -, -, -⟩ := id Y
          go_wp2_with fail
          refine (CP.out _).mono ?_
          rintro e' v3 ⟨rfl, hb⟩
          have A := A.keep hb
          have N := N.keep hb
          have X := X.keep hb
          have Y := Y.keep hb
          have HF := Lib.hid (HF.out.keep hb)
          have HB := Lib.hid (bstep HB.out hb)
          clear hb cj A0 A1 N0 N1 X0 X1 Y0 Y1
          have cj := HF.out.c0
          obtain ⟨A0, A1, -, -, -⟩ := id A
          obtain ⟨N0, N1, -, -, -⟩ := id N
          obtain ⟨X0, X1, -, -, -⟩ := id X
          obtain ⟨Y0, Y1, -, -, -⟩ := id Y
          go_wp2_with fail
          refine (CN.out _ HB.out).mono ?_
          rintro e' v4 ⟨rfl, hb⟩
          have A := A.keep hb
          have N := N.keep hb
          have X := X.keep hb
          have Y := Y.keep hb
          have HF := Lib.hid (HF.out.keep hb)
          have HB := Lib.hid (bstep HB.out hb)
          clear hb cj A0 A1 N0 N1 X0 X1 Y0 Y1
          have A := A.alloc (.cells #[.int .i64 (u), .int .i64 (v)] 25)
          have N := N.alloc (.cells #[.int .i64 (u), .int .i64 (v)] 25)
          have X := X.alloc (.cells #[.int .i64 (u), .int .i64 (v)] 25)
          have Y := Y.alloc (.cells #[.int .i64 (u), .int .i64 (v)] 25)
          have Z := At2.new v4 (.int .i64 (u)) (.int .i64 (v)) 25
          have HF := Lib.hid (HF.out.keep (below1 v4 (.cells #[.int .i64 (u), .int .i64 (v)] 25)))
          have HB := Lib.hid (bstep HB.out (below1 v4 (.cells #[.int .i64 (u), .int .i64 (v)] 25)))
          have cj := HF.out.c0
          obtain ⟨A0, A1, -, -, -⟩ := id A
          obtain ⟨N0, N1, -, -, -⟩ := id N
          obtain ⟨X0, X1, -, -, -⟩ := id X
          obtain ⟨Y0, Y1, -, -, -⟩ := id Y
          obtain ⟨Z0, Z1, -, -, -⟩ := id Z
          go_upto_region 17 with fail
          generalize hW : v4.alloc (.cells #[.int .i64 (u), .int .i64 (v)] 25) = W at *
          clear hW cj CA CQ CP CN
          go_cut [155] from 85 to 155 (fun v155 wx => v155 = .bool false ∧ wx = W)
          case first =>
            clear ways HF HB HJ HM A N X Y Z A0 A1 N0 N1 C0 C1 K0 K1 K2
            go_wp2_with fail
            go_meet
            exact ⟨rfl, rfl⟩
          case rest =>
            obtain ⟨rfl, rfl⟩ := hcut
            clear A0 A1 N0 N1 X0 X1 Y0 Y1 Z0 Z1
            rcases ways.out with ⟨e1⟩ | ⟨e1, g1, g2⟩
            · obtain ⟨A0, A1, -, -, -⟩ := id A
              obtain ⟨X0, X1, -, -, -⟩ := id X
              have HMe := Lib.hid HM.out
              go_wp2_with fail
              go_roundg 2
              case measure => have := HM.out; omega
              case rel => exact ⟨1, rfl, by first | rfl | simp, by show _ ≤ _; omega, A, N, HF, HB⟩
            · obtain ⟨A0, A1, -, -, -⟩ := id A
              rw [← g1, ← g2] at X
              clear g1 g2
              obtain ⟨X0, X1, -, -, -⟩ := id X
              have HMe := Lib.hid HM.out
              go_wp2_with fail
              go_roundg 2
              case measure => have := HM.out; omega
              case rel => exact ⟨1, rfl, by first | rfl | simp, by show _ ≤ _; omega, A, N, HF, HB⟩
        · obtain ⟨⟨L, H, l, h, u, v, ca, cp, cn, f1, f2, f3, f4, f5, f6, f7, e, he, f8, f9, c1', c2', ways⟩⟩ := K1.out
          have CA := Lib.hid ca
          have CQ := Lib.hid cp
          have CN := Lib.hid cn
          have cj := HF.out.c1
          clear hj ca cp cn
          have ways := Lib.hid ways
          have A := HA.out
          have N := HN.out
          clear HA HN
          obtain ⟨A0, A1, -, -, -⟩ := id A
          obtain ⟨N0, N1, -, -, -⟩ := id N
          go_wp2_with fail
          refine (CA.out _ HB.out).mono ?_
          rintro e' v1 ⟨rfl, hb⟩
          have A := A.keep hb
          have N := N.keep hb
          have HF := Lib.hid (HF.out.keep hb)
          have HB := Lib.hid (bstep HB.out hb)
          clear hb cj A0 A1 N0 N1
          have A := A.alloc (.cells #[.int .i64 (L), .int .i64 (H)] 25)
          have N := N.alloc (.cells #[.int .i64 (L), .int .i64 (H)] 25)
          have X := At2.new v1 (.int .i64 (L)) (.int .i64 (H)) 25
          have HF := Lib.hid (HF.out.keep (below1 v1 (.cells #[.int .i64 (L), .int .i64 (H)] 25)))
          have HB := Lib.hid (bstep HB.out (below1 v1 (.cells #[.int .i64 (L), .int .i64 (H)] 25)))
          have cj := HF.out.c1
          obtain ⟨A0, A1, -, -, -⟩ := id A
          obtain ⟨N0, N1, -, -, -⟩ := id N
          obtain ⟨X0, X1, -, -, -⟩ := id X
          go_wp2_with fail
          refine (CQ.out _ HB.out).mono ?_
          rintro e' v2 ⟨rfl, hb⟩
          have A := A.keep hb
          have N := N.keep hb
          have X := X.keep hb
          have HF := Lib.hid (HF.out.keep hb)
          have HB := Lib.hid (bstep HB.out hb)
          clear hb cj A0 A1 N0 N1 X0 X1
          have A := A.alloc (.cells #[.int .i64 (l), .int .i64 (h)] 25)
          have N := N.alloc (.cells #[.int .i64 (l), .int .i64 (h)] 25)
          have X := X.alloc (.cells #[.int .i64 (l), .int .i64 (h)] 25)
          have Y := At2.new v2 (.int .i64 (l)) (.int .i64 (h)) 25
          have HF := Lib.hid (HF.out.keep (below1 v2 (.cells #[.int .i64 (l), .int .i64 (h)] 25)))
          have HB := Lib.hid (bstep HB.out (below1 v2 (.cells #[.int .i64 (l), .int .i64 (h)] 25)))
          have cj := HF.out.c1
          obtain ⟨A0, A1, -, -, -⟩ := id A
          obtain ⟨N0, N1, -, -, -⟩ := id N
          obtain ⟨X0, X1, -, -, -⟩ := id X
          obtain ⟨Y0, Y1, -, -, -⟩ := id Y
          go_wp2_with fail
          refine (CP.out _).mono ?_
          rintro e' v3 ⟨rfl, hb⟩
          have A := A.keep hb
          have N := N.keep hb
          have X := X.keep hb
          have Y := Y.keep hb
          have HF := Lib.hid (HF.out.keep hb)
          have HB := Lib.hid (bstep HB.out hb)
          clear hb cj A0 A1 N0 N1 X0 X1 Y0 Y1
          have cj := HF.out.c1
          obtain ⟨A0, A1, -, -, -⟩ := id A
          obtain ⟨N0, N1, -, -, -⟩ := id N
          obtain ⟨X0, X1, -, -, -⟩ := id X
          obtain ⟨Y0, Y1, -, -, -⟩ := id Y
          go_wp2_with fail
          refine (CN.out _ HB.out).mono ?_
          rintro e' v4 ⟨rfl, hb⟩
          have A := A.keep hb
          have N := N.keep hb
          have X := X.keep hb
          have Y := Y.keep hb
          have HF := Lib.hid (HF.out.keep hb)
          have HB := Lib.hid (bstep HB.out hb)
          clear hb cj A0 A1 N0 N1 X0 X1 Y0 Y1
          have A := A.alloc (.cells #[.int .i64 (u), .int .i64 (v)] 25)
          have N := N.alloc (.cells #[.int .i64 (u), .int .i64 (v)] 25)
          have X := X.alloc (.cells #[.int .i64 (u), .int .i64 (v)] 25)
          have Y := Y.alloc (.cells #[.int .i64 (u), .int .i64 (v)] 25)
          have Z := At2.new v4 (.int .i64 (u)) (.int .i64 (v)) 25
          have HF := Lib.hid (HF.out.keep (below1 v4 (.cells #[.int .i64 (u), .int .i64 (v)] 25)))
          have HB := Lib.hid (bstep HB.out (below1 v4 (.cells #[.int .i64 (u), .int .i64 (v)] 25)))
          have cj := HF.out.c1
          obtain ⟨A0, A1, -, -, -⟩ := id A
          obtain ⟨N0, N1, -, -, -⟩ := id N
          obtain ⟨X0, X1, -, -, -⟩ := id X
          obtain ⟨Y0, Y1, -, -, -⟩ := id Y
          obtain ⟨Z0, Z1, -, -, -⟩ := id Z
          go_upto_region 17 with fail
          generalize hW : v4.alloc (.cells #[.int .i64 (u), .int .i64 (v)] 25) = W at *
          clear hW cj CA CQ CP CN
          go_cut [155] from 85 to 155 (fun v155 wx => v155 = .bool false ∧ wx = W)
          case first =>
            clear ways HF HB HJ HM A N X Y Z A0 A1 N0 N1 C0 C1 K0 K1 K2
            go_wp2_with fail
            go_meet
            exact ⟨rfl, rfl⟩
          case rest =>
            obtain ⟨rfl, rfl⟩ := hcut
            clear A0 A1 N0 N1 X0 X1 Y0 Y1 Z0 Z1
            rcases ways.out with ⟨e1⟩ | ⟨e1, g1, g2⟩
            · obtain ⟨A0, A1, -, -, -⟩ := id A
              obtain ⟨X0, X1, -, -, -⟩ := id X
              have HMe := Lib.hid HM.out
              go_wp2_with fail
              go_roundg 1
              case measure => have := HM.out; omega
              case rel => exact ⟨2, rfl, by first | rfl | simp, by show _ ≤ _; omega, A, N, HF, HB⟩
            · obtain ⟨A0, A1, -, -, -⟩ := id A
              rw [← g1, ← g2] at X
              clear g1 g2
              obtain ⟨X0, X1, -, -, -⟩ := id X
              have HMe := Lib.hid HM.out
              go_wp2_with fail
              go_roundg 1
              case measure => have := HM.out; omega
              case rel => exact ⟨2, rfl, by first | rfl | simp, by show _ ≤ _; omega, A, N, HF, HB⟩
        · obtain ⟨⟨L, H, l, h, u, v, ca, cp, cn, f1, f2, f3, f4, f5, f6, f7, e, he, f8, f9, c1', c2', ways⟩⟩ := K2.out
          have CA := Lib.hid ca
          have CQ := Lib.hid cp
          have CN := Lib.hid cn
          have cj := HF.out.c2
          clear hj ca cp cn
          have ways := Lib.hid ways
          have A := HA.out
          have N := HN.out
          clear HA HN
          obtain ⟨A0, A1, -, -, -⟩ := id A
          obtain ⟨N0, N1, -, -, -⟩ := id N
          go_wp2_with fail
          refine (CA.out _ HB.out).mono ?_
          rintro e' v1 ⟨rfl, hb⟩
          have A := A.keep hb
          have N := N.keep hb
          have HF := Lib.hid (HF.out.keep hb)
          have HB := Lib.hid (bstep HB.out hb)
          clear hb cj A0 A1 N0 N1
          have A := A.alloc (.cells #[.int .i64 (L), .int .i64 (H)] 25)
          have N := N.alloc (.cells #[.int .i64 (L), .int .i64 (H)] 25)
          have X := At2.new v1 (.int .i64 (L)) (.int .i64 (H)) 25
          have HF := Lib.hid (HF.out.keep (below1 v1 (.cells #[.int .i64 (L), .int .i64 (H)] 25)))
          have HB := Lib.hid (bstep HB.out (below1 v1 (.cells #[.int .i64 (L), .int .i64 (H)] 25)))
          have cj := HF.out.c2
          obtain ⟨A0, A1, -, -, -⟩ := id A
          obtain ⟨N0, N1, -, -, -⟩ := id N
          obtain ⟨X0, X1, -, -, -⟩ := id X
          go_wp2_with fail
          refine (CQ.out _ HB.out).mono ?_
          rintro e' v2 ⟨rfl, hb⟩
          have A := A.keep hb
          have N := N.keep hb
          have X := X.keep hb
          have HF := Lib.hid (HF.out.keep hb)
          have HB := Lib.hid (bstep HB.out hb)
          clear hb cj A0 A1 N0 N1 X0 X1
          have A := A.alloc (.cells #[.int .i64 (l), .int .i64 (h)] 25)
          have N := N.alloc (.cells #[.int .i64 (l), .int .i64 (h)] 25)
          have X := X.alloc (.cells #[.int .i64 (l), .int .i64 (h)] 25)
          have Y := At2.new v2 (.int .i64 (l)) (.int .i64 (h)) 25
          have HF := Lib.hid (HF.out.keep (below1 v2 (.cells #[.int .i64 (l), .int .i64 (h)] 25)))
          have HB := Lib.hid (bstep HB.out (below1 v2 (.cells #[.int .i64 (l), .int .i64 (h)] 25)))
          have cj := HF.out.c2
          obtain ⟨A0, A1, -, -, -⟩ := id A
          obtain ⟨N0, N1, -, -, -⟩ := id N
          obtain ⟨X0, X1, -, -, -⟩ := id X
          obtain ⟨Y0, Y1, -, -, -⟩ := id Y
          go_wp2_with fail
          refine (CP.out _).mono ?_
          rintro e' v3 ⟨rfl, hb⟩
          have A := A.keep hb
          have N := N.keep hb
          have X := X.keep hb
          have Y := Y.keep hb
          have HF := Lib.hid (HF.out.keep hb)
          have HB := Lib.hid (bstep HB.out hb)
          clear hb cj A0 A1 N0 N1 X0 X1 Y0 Y1
          have cj := HF.out.c2
          obtain ⟨A0, A1, -, -, -⟩ := id A
          obtain ⟨N0, N1, -, -, -⟩ := id N
          obtain ⟨X0, X1, -, -, -⟩ := id X
          obtain ⟨Y0, Y1, -, -, -⟩ := id Y
          go_wp2_with fail
          refine (CN.out _ HB.out).mono ?_
          rintro e' v4 ⟨rfl, hb⟩
          have A := A.keep hb
          have N := N.keep hb
          have X := X.keep hb
          have Y := Y.keep hb
          have HF := Lib.hid (HF.out.keep hb)
          have HB := Lib.hid (bstep HB.out hb)
          clear hb cj A0 A1 N0 N1 X0 X1 Y0 Y1
          have A := A.alloc (.cells #[.int .i64 (u), .int .i64 (v)] 25)
          have N := N.alloc (.cells #[.int .i64 (u), .int .i64 (v)] 25)
          have X := X.alloc (.cells #[.int .i64 (u), .int .i64 (v)] 25)
          have Y := Y.alloc (.cells #[.int .i64 (u), .int .i64 (v)] 25)
          have Z := At2.new v4 (.int .i64 (u)) (.int .i64 (v)) 25
          have HF := Lib.hid (HF.out.keep (below1 v4 (.cells #[.int .i64 (u), .int .i64 (v)] 25)))
          have HB := Lib.hid (bstep HB.out (below1 v4 (.cells #[.int .i64 (u), .int .i64 (v)] 25)))
          have cj := HF.out.c2
          obtain ⟨A0, A1, -, -, -⟩ := id A
          obtain ⟨N0, N1, -, -, -⟩ := id N
          obtain ⟨X0, X1, -, -, -⟩ := id X
          obtain ⟨Y0, Y1, -, -, -⟩ := id Y
          obtain ⟨Z0, Z1, -, -, -⟩ := id Z
          go_upto_region 17 with fail
          generalize hW : v4.alloc (.cells #[.int .i64 (u), .int .i64 (v)] 25) = W at *
          clear hW cj CA CQ CP CN
          go_cut [155] from 85 to 155 (fun v155 wx => v155 = .bool false ∧ wx = W)
          case first =>
            clear ways HF HB HJ HM A N X Y Z A0 A1 N0 N1 C0 C1 K0 K1 K2
            go_wp2_with fail
            go_meet
            exact ⟨rfl, rfl⟩
          case rest =>
            obtain ⟨rfl, rfl⟩ := hcut
            clear A0 A1 N0 N1 X0 X1 Y0 Y1 Z0 Z1
            rcases ways.out with ⟨e1⟩ | ⟨e1, g1, g2⟩
            · obtain ⟨A0, A1, -, -, -⟩ := id A
              obtain ⟨X0, X1, -, -, -⟩ := id X
              have HMe := Lib.hid HM.out
              go_wp2_with fail
              go_roundg 0
              case measure => have := HM.out; omega
              case rel => exact ⟨3, rfl, by first | rfl | simp, by show _ ≤ _; omega, A, N, HF, HB⟩
            · obtain ⟨A0, A1, -, -, -⟩ := id A
              rw [← g1, ← g2] at X
              clear g1 g2
              obtain ⟨X0, X1, -, -, -⟩ := id X
              have HMe := Lib.hid HM.out
              go_wp2_with fail
              go_roundg 0
              case measure => have := HM.out; omega
              case rel => exact ⟨3, rfl, by first | rfl | simp, by show _ ≤ _; omega, A, N, HF, HB⟩
      · obtain rfl : j = 3 := by have := HJ.out; omega
        go_wp2_with fail
        go_ret
        exact ⟨rfl, HB.out⟩
end Go.Proofs.YtglmkpnnbgkndaaDoor
