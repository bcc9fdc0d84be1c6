/- Place: contracts of the reference's parts, Hull and Meet. -/
import Derived.Test.YtgcoddjjkcdfmaaDoorPcU
namespace Go.Proofs.YtgcoddjjkcdfmaaDoor
open Go.RowKit
set_option linter.unusedVariables false
set_option maxRecDepth 100000

set_option maxHeartbeats 4000000 in
theorem rpParts (a b c d : Int) (h : lonOk a b = true) (k : lonOk c d = true) (w : World) :
    Calls Tryd.prog 39 #[.agg #[.int .i64 a, .int .i64 b], .agg #[.int .i64 c, .int .i64 d]] w fun e w' => ∃ A n cap, e = .returned (.slice A n cap) ∧ SlP w' A n (pieces a b c d) ∧ Below w.heap.size w w' := by
  have kh := lon_bd h
  have kk := lon_bd k
  have A := (At2.new w (.int .i64 a) (.int .i64 b) 23).alloc (.cells #[.int .i64 c, .int .i64 d] 23)
  have B := At2.new (w.alloc (.cells #[.int .i64 a, .int .i64 b] 23)) (.int .i64 c) (.int .i64 d) 23
  have HB := Lib.hid (below2 w (.cells #[.int .i64 a, .int .i64 b] 23) (.cells #[.int .i64 c, .int .i64 d] 23))
  simp at B
  clear h k
  obtain ⟨h1, h2, h3, h4, h5⟩ := kh
  obtain ⟨k1, k2, k3, k4, k5⟩ := kk
  go_enter Tryd.func39, Tryd.ntmps39
  go_wp2_with fail
  go_loopg [5, 6] 3 (fun m v5 v6 wr => ∃ (j : Nat), m = 3 - j ∧ j ≤ 3 ∧ v6 = .int .i64 (j : Int) ∧ Hid (wr.ownsRow (w.heap.size + 2) 23 2 v5 (partJ a b c d j).length ((partJ a b c d j).flatMap encP)) ∧ Hid (At2 wr w.heap.size (.int .i64 a) (.int .i64 b)) ∧ Hid (At2 wr (w.heap.size + 1) (.int .i64 c) (.int .i64 d)) ∧ Hid (Below w.heap.size w wr))
  case atStart => exact ⟨0, rfl, Nat.zero_le _, rfl, Lib.hid (World.ownsRow_nil _ _ _ _), Lib.hid A, Lib.hid B, HB⟩
  case round =>
    clear A B HB
    obtain ⟨j, hgk, hj, rfl, HO, HA, HBb, HB⟩ := hrel
    have A := HA.out
    have B := HBb.out
    have HGK := Lib.hid hgk
    clear hgk HA HBb
    by_cases hlt : j < 3
    · have HJ := Lib.hid (show j < 3 from hlt)
      have hln : (partJ a b c d j).length ≤ 3 := by have := partJ_len a b c d j; omega
      obtain ⟨K, hK⟩ : ∃ K, (j : Int) * 21600000 - 21600000 = K := ⟨_, rfl⟩
      have K1 : -21600000 ≤ K := by omega
      have K2 : K ≤ 21600000 := by omega
      obtain ⟨X, hX⟩ : ∃ X, c + ((j : Int) - 1) * 21600000 = X := ⟨_, rfl⟩
      obtain ⟨Y, hY⟩ : ∃ Y, d + ((j : Int) - 1) * 21600000 = Y := ⟨_, rfl⟩
      have eX : c + K = X := by omega
      have eY : d + K = Y := by omega
      have hj2 : (j : Int) < 3 := by omega
      have X1 : -40000000 ≤ X ∧ X ≤ Y ∧ Y ≤ 60000000 := by omega
      obtain ⟨X1, X2, X3⟩ := X1
      have YES : Hid (a ≤ Y ∧ X ≤ b → partJ a b c d (j + 1) = partJ a b c d j ++ [(max a X, min b Y)]) := by
        intro q; rw [← eX, ← eY]; exact partJ_yes hK.symm (by omega)
      have NO : Hid (¬ (a ≤ Y ∧ X ≤ b) → partJ a b c d (j + 1) = partJ a b c d j) := fun q => partJ_no hK.symm (by omega)
      obtain ⟨i0, hi, hz0, hz1, hz2⟩ := info_parts Tryd.infoArc
      have hw1 : w.heap.size + 1 < wr.heap.size := B.lt
      have hjb : (0 : Int) ≤ (j : Int) := by omega
      clear hK eX eY hlt hj
      by_cases q1 : X < a
      · by_cases q2 : Y > b
        · obtain ⟨P00, P01, P02, P03, -⟩ := At2.new wr (.int .i64 X) (.int .i64 Y) 23
          obtain ⟨A00, A01, -, -, -⟩ := A.alloc (.cells #[.int .i64 X, .int .i64 Y] 23)
          obtain ⟨P10, P11, P12, P13, -⟩ := At2.new wr (.int .i64 a) (.int .i64 Y) 23
          obtain ⟨A10, A11, -, -, -⟩ := A.alloc (.cells #[.int .i64 a, .int .i64 Y] 23)
          obtain ⟨P20, P21, P22, P23, -⟩ := At2.new wr (.int .i64 a) (.int .i64 b) 23
          obtain ⟨A20, A21, -, -, -⟩ := A.alloc (.cells #[.int .i64 a, .int .i64 b] 23)
          obtain ⟨A0, A1, -, -, -⟩ := id A
          obtain ⟨B0, B1, -, -, -⟩ := id B
          by_cases hq : a ≤ b
          · have HP := Lib.hid (YES.out (by omega))
            rw [show max a X = a by omega, show min b Y = b by omega] at HP
            have HO := Lib.hid (HO.out.alloc (.cells #[.int .i64 a, .int .i64 b] 23))
            have A := A.alloc (.cells #[.int .i64 a, .int .i64 b] 23)
            have B := B.alloc (.cells #[.int .i64 a, .int .i64 b] 23)
            have HB := Lib.hid (bstep HB.out (below1 wr (.cells #[.int .i64 a, .int .i64 b] 23)))
            have HB3 : Hid (((wr.alloc (.cells #[.int .i64 a, .int .i64 b] 23)).alloc (.cells #[.int .i64 a, .int .i64 b] 23)).heap[wr.heap.size + 1]? = some (.cells #[.int .i64 a, .int .i64 b] 23)) := by
              show _ = _
              have e : (wr.alloc (.cells #[.int .i64 a, .int .i64 b] 23)).heap.size = wr.heap.size + 1 := by simp
              rw [← e]; exact heap_alloc_new _ _
            clear YES NO
            go_wp2_with ((at_builtin; go_loud (refine wpList_append_lies _ rfl _ _ 59 rfl (w.heap.size + 2) 23 i0 _ 2 16 Tryd.underlying59 hi hz0 hz1 hz2 rfl (by omega) _ (partJ a b c d j).length ((partJ a b c d j).flatMap encP) rfl (HO.out.alloc _) ⟨wr.heap.size + 1, 0, none⟩ 1 1 [.int .i64 a, .int .i64 b] rfl rfl (World.news_of_block HB3.out) (by intro u hu; simp at hu; rcases hu with rfl | rfl <;> rfl) (by omega) (by unfold maxLen; omega) (by omega) (by simp; omega) (wr.heap.size + 2) (by simp) ?_; intro g cap w3 hown3 hgrow hat hlt3)))
            have HOa := HO.out.alloc (.cells #[.int .i64 a, .int .i64 b] 23)
            have A3 := Lib.hid ((A.alloc (.cells #[.int .i64 a, .int .i64 b] 23)).grown (by omega) HOa hgrow)
            have B3 := Lib.hid ((B.alloc (.cells #[.int .i64 a, .int .i64 b] 23)).grown (by omega) HOa hgrow)
            have HB4 := Lib.hid ((HB.out.alloc HB.out.size (.cells #[.int .i64 a, .int .i64 b] 23)).grown hgrow (by simp; omega) (fun k hk => by have := (HOa.lt k hk).1; omega))
            have HO3 : Hid (w3.ownsRow (w.heap.size + 2) 23 2 (.slice (some ⟨g, 0, none⟩) ((partJ a b c d j).length + 1) cap) (partJ a b c d (j + 1)).length ((partJ a b c d (j + 1)).flatMap encP)) := by
              show World.ownsRow _ _ _ _ _ _ _
              rw [HP.out, List.length_append, List.flatMap_append]
              exact hown3
            clear hgrow hown3 HOa
            go_roundg (3 - (j + 1))
            case measure => have := HGK.out; have := HJ.out; omega
            case rel => exact ⟨j + 1, rfl, by have := HJ.out; omega, by go_num, HO3, A3, B3, HB4⟩
          · exfalso; omega
        · obtain ⟨P00, P01, P02, P03, -⟩ := At2.new wr (.int .i64 X) (.int .i64 Y) 23
          obtain ⟨A00, A01, -, -, -⟩ := A.alloc (.cells #[.int .i64 X, .int .i64 Y] 23)
          obtain ⟨P10, P11, P12, P13, -⟩ := At2.new wr (.int .i64 a) (.int .i64 Y) 23
          obtain ⟨A10, A11, -, -, -⟩ := A.alloc (.cells #[.int .i64 a, .int .i64 Y] 23)
          obtain ⟨A0, A1, -, -, -⟩ := id A
          obtain ⟨B0, B1, -, -, -⟩ := id B
          by_cases hq : a ≤ Y
          · have HP := Lib.hid (YES.out (by omega))
            rw [show max a X = a by omega, show min b Y = Y by omega] at HP
            have HO := Lib.hid (HO.out.alloc (.cells #[.int .i64 a, .int .i64 Y] 23))
            have A := A.alloc (.cells #[.int .i64 a, .int .i64 Y] 23)
            have B := B.alloc (.cells #[.int .i64 a, .int .i64 Y] 23)
            have HB := Lib.hid (bstep HB.out (below1 wr (.cells #[.int .i64 a, .int .i64 Y] 23)))
            have HB3 : Hid (((wr.alloc (.cells #[.int .i64 a, .int .i64 Y] 23)).alloc (.cells #[.int .i64 a, .int .i64 Y] 23)).heap[wr.heap.size + 1]? = some (.cells #[.int .i64 a, .int .i64 Y] 23)) := by
              show _ = _
              have e : (wr.alloc (.cells #[.int .i64 a, .int .i64 Y] 23)).heap.size = wr.heap.size + 1 := by simp
              rw [← e]; exact heap_alloc_new _ _
            clear YES NO
            go_wp2_with ((at_builtin; go_loud (refine wpList_append_lies _ rfl _ _ 59 rfl (w.heap.size + 2) 23 i0 _ 2 16 Tryd.underlying59 hi hz0 hz1 hz2 rfl (by omega) _ (partJ a b c d j).length ((partJ a b c d j).flatMap encP) rfl (HO.out.alloc _) ⟨wr.heap.size + 1, 0, none⟩ 1 1 [.int .i64 a, .int .i64 Y] rfl rfl (World.news_of_block HB3.out) (by intro u hu; simp at hu; rcases hu with rfl | rfl <;> rfl) (by omega) (by unfold maxLen; omega) (by omega) (by simp; omega) (wr.heap.size + 2) (by simp) ?_; intro g cap w3 hown3 hgrow hat hlt3)))
            have HOa := HO.out.alloc (.cells #[.int .i64 a, .int .i64 Y] 23)
            have A3 := Lib.hid ((A.alloc (.cells #[.int .i64 a, .int .i64 Y] 23)).grown (by omega) HOa hgrow)
            have B3 := Lib.hid ((B.alloc (.cells #[.int .i64 a, .int .i64 Y] 23)).grown (by omega) HOa hgrow)
            have HB4 := Lib.hid ((HB.out.alloc HB.out.size (.cells #[.int .i64 a, .int .i64 Y] 23)).grown hgrow (by simp; omega) (fun k hk => by have := (HOa.lt k hk).1; omega))
            have HO3 : Hid (w3.ownsRow (w.heap.size + 2) 23 2 (.slice (some ⟨g, 0, none⟩) ((partJ a b c d j).length + 1) cap) (partJ a b c d (j + 1)).length ((partJ a b c d (j + 1)).flatMap encP)) := by
              show World.ownsRow _ _ _ _ _ _ _
              rw [HP.out, List.length_append, List.flatMap_append]
              exact hown3
            clear hgrow hown3 HOa
            go_roundg (3 - (j + 1))
            case measure => have := HGK.out; have := HJ.out; omega
            case rel => exact ⟨j + 1, rfl, by have := HJ.out; omega, by go_num, HO3, A3, B3, HB4⟩
          · have HP := Lib.hid (NO.out (by omega))
            have HO := Lib.hid (HO.out.alloc (.cells #[.int .i64 a, .int .i64 Y] 23))
            have A := A.alloc (.cells #[.int .i64 a, .int .i64 Y] 23)
            have B := B.alloc (.cells #[.int .i64 a, .int .i64 Y] 23)
            have HB := Lib.hid (bstep HB.out (below1 wr (.cells #[.int .i64 a, .int .i64 Y] 23)))
            clear YES NO
            go_wp2_with fail
            go_roundg (3 - (j + 1))
            case measure => have := HGK.out; have := HJ.out; omega
            case rel => exact ⟨j + 1, rfl, by have := HJ.out; omega, by go_num, by show World.ownsRow _ _ _ _ _ _ _; rw [HP.out]; exact HO.out, Lib.hid A, Lib.hid B, HB⟩
      · by_cases q2 : Y > b
        · obtain ⟨P00, P01, P02, P03, -⟩ := At2.new wr (.int .i64 X) (.int .i64 Y) 23
          obtain ⟨A00, A01, -, -, -⟩ := A.alloc (.cells #[.int .i64 X, .int .i64 Y] 23)
          obtain ⟨P10, P11, P12, P13, -⟩ := At2.new wr (.int .i64 X) (.int .i64 b) 23
          obtain ⟨A10, A11, -, -, -⟩ := A.alloc (.cells #[.int .i64 X, .int .i64 b] 23)
          obtain ⟨A0, A1, -, -, -⟩ := id A
          obtain ⟨B0, B1, -, -, -⟩ := id B
          by_cases hq : X ≤ b
          · have HP := Lib.hid (YES.out (by omega))
            rw [show max a X = X by omega, show min b Y = b by omega] at HP
            have HO := Lib.hid (HO.out.alloc (.cells #[.int .i64 X, .int .i64 b] 23))
            have A := A.alloc (.cells #[.int .i64 X, .int .i64 b] 23)
            have B := B.alloc (.cells #[.int .i64 X, .int .i64 b] 23)
            have HB := Lib.hid (bstep HB.out (below1 wr (.cells #[.int .i64 X, .int .i64 b] 23)))
            have HB3 : Hid (((wr.alloc (.cells #[.int .i64 X, .int .i64 b] 23)).alloc (.cells #[.int .i64 X, .int .i64 b] 23)).heap[wr.heap.size + 1]? = some (.cells #[.int .i64 X, .int .i64 b] 23)) := by
              show _ = _
              have e : (wr.alloc (.cells #[.int .i64 X, .int .i64 b] 23)).heap.size = wr.heap.size + 1 := by simp
              rw [← e]; exact heap_alloc_new _ _
            clear YES NO
            go_wp2_with ((at_builtin; go_loud (refine wpList_append_lies _ rfl _ _ 59 rfl (w.heap.size + 2) 23 i0 _ 2 16 Tryd.underlying59 hi hz0 hz1 hz2 rfl (by omega) _ (partJ a b c d j).length ((partJ a b c d j).flatMap encP) rfl (HO.out.alloc _) ⟨wr.heap.size + 1, 0, none⟩ 1 1 [.int .i64 X, .int .i64 b] rfl rfl (World.news_of_block HB3.out) (by intro u hu; simp at hu; rcases hu with rfl | rfl <;> rfl) (by omega) (by unfold maxLen; omega) (by omega) (by simp; omega) (wr.heap.size + 2) (by simp) ?_; intro g cap w3 hown3 hgrow hat hlt3)))
            have HOa := HO.out.alloc (.cells #[.int .i64 X, .int .i64 b] 23)
            have A3 := Lib.hid ((A.alloc (.cells #[.int .i64 X, .int .i64 b] 23)).grown (by omega) HOa hgrow)
            have B3 := Lib.hid ((B.alloc (.cells #[.int .i64 X, .int .i64 b] 23)).grown (by omega) HOa hgrow)
            have HB4 := Lib.hid ((HB.out.alloc HB.out.size (.cells #[.int .i64 X, .int .i64 b] 23)).grown hgrow (by simp; omega) (fun k hk => by have := (HOa.lt k hk).1; omega))
            have HO3 : Hid (w3.ownsRow (w.heap.size + 2) 23 2 (.slice (some ⟨g, 0, none⟩) ((partJ a b c d j).length + 1) cap) (partJ a b c d (j + 1)).length ((partJ a b c d (j + 1)).flatMap encP)) := by
              show World.ownsRow _ _ _ _ _ _ _
              rw [HP.out, List.length_append, List.flatMap_append]
              exact hown3
            clear hgrow hown3 HOa
            go_roundg (3 - (j + 1))
            case measure => have := HGK.out; have := HJ.out; omega
            case rel => exact ⟨j + 1, rfl, by have := HJ.out; omega, by go_num, HO3, A3, B3, HB4⟩
          · have HP := Lib.hid (NO.out (by omega))
            have HO := Lib.hid (HO.out.alloc (.cells #[.int .i64 X, .int .i64 b] 23))
            have A := A.alloc (.cells #[.int .i64 X, .int .i64 b] 23)
            have B := B.alloc (.cells #[.int .i64 X, .int .i64 b] 23)
            have HB := Lib.hid (bstep HB.out (below1 wr (.cells #[.int .i64 X, .int .i64 b] 23)))
            clear YES NO
            go_wp2_with fail
            go_roundg (3 - (j + 1))
            case measure => have := HGK.out; have := HJ.out; omega
            case rel => exact ⟨j + 1, rfl, by have := HJ.out; omega, by go_num, by show World.ownsRow _ _ _ _ _ _ _; rw [HP.out]; exact HO.out, Lib.hid A, Lib.hid B, HB⟩
        · obtain ⟨P00, P01, P02, P03, -⟩ := At2.new wr (.int .i64 X) (.int .i64 Y) 23
          obtain ⟨A00, A01, -, -, -⟩ := A.alloc (.cells #[.int .i64 X, .int .i64 Y] 23)
          obtain ⟨A0, A1, -, -, -⟩ := id A
          obtain ⟨B0, B1, -, -, -⟩ := id B
          by_cases hq : X ≤ Y
          · have HP := Lib.hid (YES.out (by omega))
            rw [show max a X = X by omega, show min b Y = Y by omega] at HP
            have HO := Lib.hid (HO.out.alloc (.cells #[.int .i64 X, .int .i64 Y] 23))
            have A := A.alloc (.cells #[.int .i64 X, .int .i64 Y] 23)
            have B := B.alloc (.cells #[.int .i64 X, .int .i64 Y] 23)
            have HB := Lib.hid (bstep HB.out (below1 wr (.cells #[.int .i64 X, .int .i64 Y] 23)))
            have HB3 : Hid (((wr.alloc (.cells #[.int .i64 X, .int .i64 Y] 23)).alloc (.cells #[.int .i64 X, .int .i64 Y] 23)).heap[wr.heap.size + 1]? = some (.cells #[.int .i64 X, .int .i64 Y] 23)) := by
              show _ = _
              have e : (wr.alloc (.cells #[.int .i64 X, .int .i64 Y] 23)).heap.size = wr.heap.size + 1 := by simp
              rw [← e]; exact heap_alloc_new _ _
            clear YES NO
            go_wp2_with ((at_builtin; go_loud (refine wpList_append_lies _ rfl _ _ 59 rfl (w.heap.size + 2) 23 i0 _ 2 16 Tryd.underlying59 hi hz0 hz1 hz2 rfl (by omega) _ (partJ a b c d j).length ((partJ a b c d j).flatMap encP) rfl (HO.out.alloc _) ⟨wr.heap.size + 1, 0, none⟩ 1 1 [.int .i64 X, .int .i64 Y] rfl rfl (World.news_of_block HB3.out) (by intro u hu; simp at hu; rcases hu with rfl | rfl <;> rfl) (by omega) (by unfold maxLen; omega) (by omega) (by simp; omega) (wr.heap.size + 2) (by simp) ?_; intro g cap w3 hown3 hgrow hat hlt3)))
            have HOa := HO.out.alloc (.cells #[.int .i64 X, .int .i64 Y] 23)
            have A3 := Lib.hid ((A.alloc (.cells #[.int .i64 X, .int .i64 Y] 23)).grown (by omega) HOa hgrow)
            have B3 := Lib.hid ((B.alloc (.cells #[.int .i64 X, .int .i64 Y] 23)).grown (by omega) HOa hgrow)
            have HB4 := Lib.hid ((HB.out.alloc HB.out.size (.cells #[.int .i64 X, .int .i64 Y] 23)).grown hgrow (by simp; omega) (fun k hk => by have := (HOa.lt k hk).1; omega))
            have HO3 : Hid (w3.ownsRow (w.heap.size + 2) 23 2 (.slice (some ⟨g, 0, none⟩) ((partJ a b c d j).length + 1) cap) (partJ a b c d (j + 1)).length ((partJ a b c d (j + 1)).flatMap encP)) := by
              show World.ownsRow _ _ _ _ _ _ _
              rw [HP.out, List.length_append, List.flatMap_append]
              exact hown3
            clear hgrow hown3 HOa
            go_roundg (3 - (j + 1))
            case measure => have := HGK.out; have := HJ.out; omega
            case rel => exact ⟨j + 1, rfl, by have := HJ.out; omega, by go_num, HO3, A3, B3, HB4⟩
          · exfalso; omega
    · have e3 : j = 3 := by omega
      subst e3
      have HO3 := HO.out
      rw [partJ_all] at HO3
      obtain ⟨A', c', rfl, hS⟩ := slP_of_own HO3
      have HS := Lib.hid hS
      clear HO3 hS HO
      go_wp2_with fail
      go_ret
      exact ⟨_, _, _, rfl, HS.out, HB.out⟩
theorem rpAround2 (a b c d : Int) (h : lonOk a b = true) (k : lonOk c d = true) (g : Nat) (w : World) (N : At4 w g (.int .i64 a) (.int .i64 b) (.int .i64 c) (.int .i64 d)) :
    Calls Tryd.prog 42 #[.slice (some ⟨g, 0, none⟩) 2 2] w fun e w' => e = .returned (.agg #[.int .i64 (arnd [(a, b), (c, d)]).1, .int .i64 (arnd [(a, b), (c, d)]).2]) ∧ Below w.heap.size w w' :=
  rpAround g 0 2 2 [(a, b), (c, d)] w rfl (by omega) (good2 h k) N.lt (row2 N)
theorem rpAroundS (A : Option Addr) (n cap : Nat) (zs : List Ar) (w : World) (hz : zs ≠ []) (hl : zs.length ≤ 3) (hg : GoodL zs) (hS : SlP w A n zs) :
    Calls Tryd.prog 42 #[.slice A n cap] w fun e w' => e = .returned (.agg #[.int .i64 (arnd zs).1, .int .i64 (arnd zs).2]) ∧ Below w.heap.size w w' := by
  have hn := hS.len
  have hp : 0 < n := by
    rcases Nat.eq_zero_or_pos n with h | h
    · exact absurd (List.length_eq_zero_iff.1 (by omega)) hz
    · exact h
  obtain ⟨b, off, rfl, hb, hr⟩ := hS.row hp
  exact rpAround b off n cap zs w hn (by omega) hg hb hr
theorem toldV {f : Nat} {args : Array Value} {w : World} {v v' : Value} (h : v = v') (C : Calls Tryd.prog f args w fun e w' => e = .returned v ∧ Below w.heap.size w w') : Calls Tryd.prog f args w fun e w' => e = .returned v' ∧ Below w.heap.size w w' := h ▸ C
set_option maxHeartbeats 2000000 in
theorem rhull_walk (a b c d e f g h l u r1 r2 : Int) (w : World)
    (CH : Hid (∀ wx, Calls Tryd.prog 43 #[.agg #[.int .i64 a, .int .i64 b], .agg #[.int .i64 e, .int .i64 f]] wx fun e w' => e = .returned (.agg #[.int .i64 l, .int .i64 u]) ∧ Below wx.heap.size wx w'))
    (CA : Hid (∀ (q : Nat) (wx : World), At4 wx q (.int .i64 c) (.int .i64 d) (.int .i64 g) (.int .i64 h) → Calls Tryd.prog 42 #[.slice (some ⟨q, 0, none⟩) 2 2] wx fun e w' => e = .returned (.agg #[.int .i64 r1, .int .i64 r2]) ∧ Below wx.heap.size wx w')) :
    Calls Tryd.prog 21 #[.agg #[.int .i64 a, .int .i64 b, .int .i64 c, .int .i64 d], .agg #[.int .i64 e, .int .i64 f, .int .i64 g, .int .i64 h]] w fun e w' => e = .returned (.agg #[.int .i64 l, .int .i64 u, .int .i64 r1, .int .i64 r2]) ∧ Below w.heap.size w w' := by
  have A := ((At4.new w (.int .i64 a) (.int .i64 b) (.int .i64 c) (.int .i64 d) 25).alloc (.cells #[.int .i64 e, .int .i64 f, .int .i64 g, .int .i64 h] 25)).alloc (.cells #[.int .i64 0, .int .i64 0, .int .i64 0, .int .i64 0] 25)
  have B := (At4.new (w.alloc (.cells #[.int .i64 a, .int .i64 b, .int .i64 c, .int .i64 d] 25)) (.int .i64 e) (.int .i64 f) (.int .i64 g) (.int .i64 h) 25).alloc (.cells #[.int .i64 0, .int .i64 0, .int .i64 0, .int .i64 0] 25)
  have R := At4.new ((w.alloc (.cells #[.int .i64 a, .int .i64 b, .int .i64 c, .int .i64 d] 25)).alloc (.cells #[.int .i64 e, .int .i64 f, .int .i64 g, .int .i64 h] 25)) (.int .i64 0) (.int .i64 0) (.int .i64 0) (.int .i64 0) 25
  have HB := Lib.hid (below3 w (.cells #[.int .i64 a, .int .i64 b, .int .i64 c, .int .i64 d] 25) (.cells #[.int .i64 e, .int .i64 f, .int .i64 g, .int .i64 h] 25) (.cells #[.int .i64 0, .int .i64 0, .int .i64 0, .int .i64 0] 25))
  simp at B R
  obtain ⟨A0, A1, A2, A3, -, -, -, -, -⟩ := id A
  obtain ⟨B0, B1, B2, B3, -, -, -, -, -⟩ := id B
  obtain ⟨R0, R1, R2, R3, Rf0, Rf1, Rf2, Rf3, -⟩ := id R
  go_enter Tryd.func21, Tryd.ntmps21
  go_upto_region 1 with fail
  generalize (((w.alloc (.cells #[.int .i64 a, .int .i64 b, .int .i64 c, .int .i64 d] 25)).alloc (.cells #[.int .i64 e, .int .i64 f, .int .i64 g, .int .i64 h] 25)).alloc (.cells #[.int .i64 0, .int .i64 0, .int .i64 0, .int .i64 0] 25)) = W at *
  have n3 : ¬ w.heap.size = w.heap.size + 1 + 1 := by omega
  have n4 : ¬ w.heap.size + 1 + 1 = w.heap.size := by omega
  go_region_held3 (fun w' => w'.cell? ⟨w.heap.size, 0, none⟩ = some (.int .i64 a) ∧ w'.cell? ⟨w.heap.size, 1, none⟩ = some (.int .i64 b) ∧ w'.cell? ⟨w.heap.size, 2, none⟩ = some (.int .i64 c) ∧ w'.cell? ⟨w.heap.size, 3, none⟩ = some (.int .i64 d) ∧ w'.cell? ⟨w.heap.size + 1, 0, none⟩ = some (.int .i64 e) ∧ w'.cell? ⟨w.heap.size + 1, 1, none⟩ = some (.int .i64 f) ∧ w'.cell? ⟨w.heap.size + 1, 2, none⟩ = some (.int .i64 g) ∧ w'.cell? ⟨w.heap.size + 1, 3, none⟩ = some (.int .i64 h)) (go_keep)
    (first
    | (go_at_call 43; (with_reducible refine (CH.out (World.drew W)).mono ?_); rintro e v ⟨rfl, hb⟩; clear A0 A1 A2 A3 B0 B1 B2 B3 R0 R1 R2 R3 Rf0 Rf1 Rf2 Rf3; have A := A.drp.keep hb; have B := B.drp.keep hb; have R := R.drp.keep hb; have HB := Lib.hid (bstep HB.out (bdrew hb)); obtain ⟨A0, A1, A2, A3, -, -, -, -, -⟩ := id A; obtain ⟨B0, B1, B2, B3, -, -, -, -, -⟩ := id B; obtain ⟨R0, R1, R2, R3, Rf0, Rf1, Rf2, Rf3, -⟩ := id R; clear hb; have N := At4.new v (.int .i64 c) (.int .i64 d) (.int .i64 g) (.int .i64 h) 23)
    | (go_at_call 43; (with_reducible refine (CH.out (World.drew (World.alloc W (.cells #[.int .i64 c, .int .i64 d, .int .i64 g, .int .i64 h] 23)))).mono ?_); rintro e v ⟨rfl, hb⟩; clear A0 A1 A2 A3 B0 B1 B2 B3 R0 R1 R2 R3 Rf0 Rf1 Rf2 Rf3; have A := (A.alloc (.cells #[.int .i64 c, .int .i64 d, .int .i64 g, .int .i64 h] 23)).drp.keep hb; have B := (B.alloc (.cells #[.int .i64 c, .int .i64 d, .int .i64 g, .int .i64 h] 23)).drp.keep hb; have R := (R.alloc (.cells #[.int .i64 c, .int .i64 d, .int .i64 g, .int .i64 h] 23)).drp.keep hb; have N := (At4.new W (.int .i64 c) (.int .i64 d) (.int .i64 g) (.int .i64 h) 23).drp.keep hb; have HB := Lib.hid (bstep HB.out (alloc_below (bdrew hb))); obtain ⟨A0, A1, A2, A3, -, -, -, -, -⟩ := id A; obtain ⟨B0, B1, B2, B3, -, -, -, -, -⟩ := id B; obtain ⟨R0, R1, R2, R3, Rf0, Rf1, Rf2, Rf3, -⟩ := id R; clear hb)
    | (go_at_call 42; (with_reducible refine (CA.out _ (World.alloc v (.cells #[.int .i64 c, .int .i64 d, .int .i64 g, .int .i64 h] 23)) N).mono ?_); rintro e v ⟨rfl, hb⟩; clear A0 A1 A2 A3 B0 B1 B2 B3 R0 R1 R2 R3 Rf0 Rf1 Rf2 Rf3; have A := (A.alloc (.cells #[.int .i64 c, .int .i64 d, .int .i64 g, .int .i64 h] 23)).keep hb; have B := (B.alloc (.cells #[.int .i64 c, .int .i64 d, .int .i64 g, .int .i64 h] 23)).keep hb; have R := (R.alloc (.cells #[.int .i64 c, .int .i64 d, .int .i64 g, .int .i64 h] 23)).keep hb; have HB := Lib.hid (bstep HB.out (alloc_below hb)); obtain ⟨A0, A1, A2, A3, -, -, -, -, -⟩ := id A; obtain ⟨B0, B1, B2, B3, -, -, -, -, -⟩ := id B; obtain ⟨R0, R1, R2, R3, Rf0, Rf1, Rf2, Rf3, -⟩ := id R; clear hb N)
    | (go_at_call 42; (with_reducible refine (CA.out _ v N).mono ?_); rintro e v ⟨rfl, hb⟩; clear A0 A1 A2 A3 B0 B1 B2 B3 R0 R1 R2 R3 Rf0 Rf1 Rf2 Rf3; have A := A.keep hb; have B := B.keep hb; have R := R.keep hb; have HB := Lib.hid (bstep HB.out hb); obtain ⟨A0, A1, A2, A3, -, -, -, -, -⟩ := id A; obtain ⟨B0, B1, B2, B3, -, -, -, -, -⟩ := id B; obtain ⟨R0, R1, R2, R3, Rf0, Rf1, Rf2, Rf3, -⟩ := id R; clear hb N))
  all_goals
    have RP := Lib.hid (R.put (.int .i64 (l)) (.int .i64 (u)) (.int .i64 (r1)) (.int .i64 (r2)))
    clear A0 A1 A2 A3 B0 B1 B2 B3
    go_wp2_with fail
    obtain ⟨z0, z1, z2, z3, -, -, -, -, -⟩ := RP.out
    refine bodyPost_ret (v := .agg #[.int .i64 (l), .int .i64 (u), .int .i64 (r1), .int .i64 (r2)]) (by simp [results, Tryd.results21, go_sem, z0, z1, z2, z3]) rfl ⟨rfl, ?_⟩
    exact below_set4 HB.out (by omega) _ _ _ _
theorem rpHull (a b c d e f g h : Int) (w : World) (n1 : lonOk c d = true) (n2 : lonOk g h = true) :
    Calls Tryd.prog 21 #[.agg #[.int .i64 a, .int .i64 b, .int .i64 c, .int .i64 d], .agg #[.int .i64 e, .int .i64 f, .int .i64 g, .int .i64 h]] w fun r w' => r = .returned (.agg #[.int .i64 (min a e), .int .i64 (max b f), .int .i64 (arnd [(c, d), (g, h)]).1, .int .i64 (arnd [(c, d), (g, h)]).2]) ∧ Below w.heap.size w w' :=
  rhull_walk a b c d e f g h _ _ _ _ w (Lib.hid fun wx => toldV rfl (rHull a b e f wx)) (Lib.hid fun q wx N => rpAround2 c d g h n1 n2 q wx N)
set_option maxHeartbeats 4000000 in
theorem rmeet_walk (a b c d e f g h l u : Int) (m : Bool) (zs : List Ar) (w : World)
    (CP : Hid (∀ wx, Calls Tryd.prog 39 #[.agg #[.int .i64 c, .int .i64 d], .agg #[.int .i64 g, .int .i64 h]] wx fun e w' => ∃ A n cap, e = .returned (.slice A n cap) ∧ SlP w' A n zs ∧ Below wx.heap.size wx w'))
    (CM : Hid (∀ wx, Calls Tryd.prog 40 #[.agg #[.int .i64 a, .int .i64 b], .agg #[.int .i64 e, .int .i64 f]] wx fun e w' => e = .returned (.bool m) ∧ Below wx.heap.size wx w'))
    (CH : Hid (∀ wx, Calls Tryd.prog 41 #[.agg #[.int .i64 a, .int .i64 b], .agg #[.int .i64 e, .int .i64 f]] wx fun e w' => e = .returned (.agg #[.int .i64 l, .int .i64 u]) ∧ Below wx.heap.size wx w'))
    (CA : Hid (∀ A n cap wx, zs ≠ [] → SlP wx A n zs → Calls Tryd.prog 42 #[.slice A n cap] wx fun e w' => e = .returned (.agg #[.int .i64 (arnd zs).1, .int .i64 (arnd zs).2]) ∧ Below wx.heap.size wx w')) :
    Calls Tryd.prog 20 #[.agg #[.int .i64 a, .int .i64 b, .int .i64 c, .int .i64 d], .agg #[.int .i64 e, .int .i64 f, .int .i64 g, .int .i64 h]] w fun e w' => e = .returned (if (m && !(decide (zs = []))) = true then vPE l u (arnd zs).1 (arnd zs).2 0 else vPE 0 0 0 0 23) ∧ Below w.heap.size w w' := by
  obtain ⟨R', hR⟩ : ∃ R, arnd zs = R := ⟨_, rfl⟩
  rw [hR] at CA ⊢
  obtain ⟨r1, r2⟩ := R'
  clear hR
  have A := ((At4.new w (.int .i64 a) (.int .i64 b) (.int .i64 c) (.int .i64 d) 25).alloc (.cells #[.int .i64 e, .int .i64 f, .int .i64 g, .int .i64 h] 25)).alloc (.cells #[.int .i64 0, .int .i64 0, .int .i64 0, .int .i64 0] 25)
  have B := (At4.new (w.alloc (.cells #[.int .i64 a, .int .i64 b, .int .i64 c, .int .i64 d] 25)) (.int .i64 e) (.int .i64 f) (.int .i64 g) (.int .i64 h) 25).alloc (.cells #[.int .i64 0, .int .i64 0, .int .i64 0, .int .i64 0] 25)
  have R := At4.new ((w.alloc (.cells #[.int .i64 a, .int .i64 b, .int .i64 c, .int .i64 d] 25)).alloc (.cells #[.int .i64 e, .int .i64 f, .int .i64 g, .int .i64 h] 25)) (.int .i64 0) (.int .i64 0) (.int .i64 0) (.int .i64 0) 25
  have HB := Lib.hid (below3 w (.cells #[.int .i64 a, .int .i64 b, .int .i64 c, .int .i64 d] 25) (.cells #[.int .i64 e, .int .i64 f, .int .i64 g, .int .i64 h] 25) (.cells #[.int .i64 0, .int .i64 0, .int .i64 0, .int .i64 0] 25))
  simp at B R
  obtain ⟨A0, A1, A2, A3, -, -, -, -, -⟩ := id A
  obtain ⟨B0, B1, B2, B3, -, -, -, -, -⟩ := id B
  obtain ⟨R0, R1, R2, R3, Rf0, Rf1, Rf2, Rf3, -⟩ := id R
  by_cases hz : zs = []
  · rw [if_neg (by rw [hz]; simp)]
    subst hz
    go_enter Tryd.func20, Tryd.ntmps20
    go_wp2_with fail
    refine (CP.out _).mono ?_
    rintro e w1 ⟨A', n, cap, rfl, hS, hb⟩
    clear A0 A1 A2 A3 B0 B1 B2 B3 R0 R1 R2 R3 Rf0 Rf1 Rf2 Rf3
    have A := A.keep hb
    have B := B.keep hb
    have R := R.keep hb
    have HB := Lib.hid (bstep HB.out hb)
    clear hb
    have hlen := hS.len
    have HS := Lib.hid hS
    clear hS
    obtain ⟨A0, A1, A2, A3, -, -, -, -, -⟩ := id A
    obtain ⟨B0, B1, B2, B3, -, -, -, -, -⟩ := id B
    obtain ⟨R0, R1, R2, R3, Rf0, Rf1, Rf2, Rf3, -⟩ := id R
    have h0 : n = 0 := hlen
    subst h0
    clear hlen
    have RP := Lib.hid (R.put (.int .i64 (0)) (.int .i64 (0)) (.int .i64 (0)) (.int .i64 (0)))
    clear A0 A1 A2 A3 B0 B1 B2 B3
    go_wp2_with fail
    obtain ⟨z0, z1, z2, z3, -, -, -, -, -⟩ := RP.out
    refine bodyPost_ret (v := .tuple #[.agg #[.int .i64 (0), .int .i64 (0), .int .i64 (0), .int .i64 (0)], .int .i64 23]) (by simp [results, Tryd.results20, go_sem, z0, z1, z2, z3]) rfl ⟨rfl, ?_⟩
    exact below_set4 HB.out (by omega) _ _ _ _
  · have hzl : ¬ zs.length = 0 := fun q => hz (List.length_eq_zero_iff.1 q)
    have CA2 := Lib.hid (fun A n cap wx => CA.out A n cap wx hz)
    have ez : decide (zs = []) = false := decide_eq_false hz
    rw [ez]
    clear CA hz ez
    cases m
    · go_enter Tryd.func20, Tryd.ntmps20
      go_wp2_with fail
      refine (CP.out _).mono ?_
      rintro e w1 ⟨A', n, cap, rfl, hS, hb⟩
      clear A0 A1 A2 A3 B0 B1 B2 B3 R0 R1 R2 R3 Rf0 Rf1 Rf2 Rf3
      have A := A.keep hb
      have B := B.keep hb
      have R := R.keep hb
      have HB := Lib.hid (bstep HB.out hb)
      clear hb
      have hlen := hS.len
      have HS := Lib.hid hS
      clear hS
      obtain ⟨A0, A1, A2, A3, -, -, -, -, -⟩ := id A
      obtain ⟨B0, B1, B2, B3, -, -, -, -, -⟩ := id B
      obtain ⟨R0, R1, R2, R3, Rf0, Rf1, Rf2, Rf3, -⟩ := id R
      have hn : ¬ (n : Int) = 0 := by omega
      have hnb : ((n : Int) == 0) = false := beq_eq_false_iff_ne.2 hn
      clear hlen hzl
      go_wp2_with fail
      refine ((CM).out _).mono ?_
      rintro e w2 ⟨rfl, hb⟩
      clear A0 A1 A2 A3 B0 B1 B2 B3 R0 R1 R2 R3 Rf0 Rf1 Rf2 Rf3
      have A := A.keep hb
      have B := B.keep hb
      have R := R.keep hb
      have HB := Lib.hid (bstep HB.out hb)
      clear hb
      obtain ⟨A0, A1, A2, A3, -, -, -, -, -⟩ := id A
      obtain ⟨B0, B1, B2, B3, -, -, -, -, -⟩ := id B
      obtain ⟨R0, R1, R2, R3, Rf0, Rf1, Rf2, Rf3, -⟩ := id R
      have RP := Lib.hid (R.put (.int .i64 (0)) (.int .i64 (0)) (.int .i64 (0)) (.int .i64 (0)))
      clear A0 A1 A2 A3 B0 B1 B2 B3
      go_wp2_with fail
      obtain ⟨z0, z1, z2, z3, -, -, -, -, -⟩ := RP.out
      refine bodyPost_ret (v := .tuple #[.agg #[.int .i64 (0), .int .i64 (0), .int .i64 (0), .int .i64 (0)], .int .i64 23]) (by simp [results, Tryd.results20, go_sem, z0, z1, z2, z3]) rfl ⟨rfl, ?_⟩
      exact below_set4 HB.out (by omega) _ _ _ _
    · go_enter Tryd.func20, Tryd.ntmps20
      go_wp2_with fail
      refine (CP.out _).mono ?_
      rintro e w1 ⟨A', n, cap, rfl, hS, hb⟩
      clear A0 A1 A2 A3 B0 B1 B2 B3 R0 R1 R2 R3 Rf0 Rf1 Rf2 Rf3
      have A := A.keep hb
      have B := B.keep hb
      have R := R.keep hb
      have HB := Lib.hid (bstep HB.out hb)
      clear hb
      have hlen := hS.len
      have HS := Lib.hid hS
      clear hS
      obtain ⟨A0, A1, A2, A3, -, -, -, -, -⟩ := id A
      obtain ⟨B0, B1, B2, B3, -, -, -, -, -⟩ := id B
      obtain ⟨R0, R1, R2, R3, Rf0, Rf1, Rf2, Rf3, -⟩ := id R
      have hn : ¬ (n : Int) = 0 := by omega
      have hnb : ((n : Int) == 0) = false := beq_eq_false_iff_ne.2 hn
      clear hlen hzl
      go_wp2_with fail
      refine ((CM).out _).mono ?_
      rintro e w2 ⟨rfl, hb⟩
      have HS := Lib.hid (HS.out.keep hb)
      clear A0 A1 A2 A3 B0 B1 B2 B3 R0 R1 R2 R3 Rf0 Rf1 Rf2 Rf3
      have A := A.keep hb
      have B := B.keep hb
      have R := R.keep hb
      have HB := Lib.hid (bstep HB.out hb)
      clear hb
      obtain ⟨A0, A1, A2, A3, -, -, -, -, -⟩ := id A
      obtain ⟨B0, B1, B2, B3, -, -, -, -, -⟩ := id B
      obtain ⟨R0, R1, R2, R3, Rf0, Rf1, Rf2, Rf3, -⟩ := id R
      go_wp2_with fail
      refine ((CH).out _).mono ?_
      rintro e w3 ⟨rfl, hb⟩
      have HS := Lib.hid (HS.out.keep hb)
      clear A0 A1 A2 A3 B0 B1 B2 B3 R0 R1 R2 R3 Rf0 Rf1 Rf2 Rf3
      have A := A.keep hb
      have B := B.keep hb
      have R := R.keep hb
      have HB := Lib.hid (bstep HB.out hb)
      clear hb
      obtain ⟨A0, A1, A2, A3, -, -, -, -, -⟩ := id A
      obtain ⟨B0, B1, B2, B3, -, -, -, -, -⟩ := id B
      obtain ⟨R0, R1, R2, R3, Rf0, Rf1, Rf2, Rf3, -⟩ := id R
      go_wp2_with fail
      refine ((CA2).out _ _ _ _ HS.out).mono ?_
      rintro e w4 ⟨rfl, hb⟩
      clear A0 A1 A2 A3 B0 B1 B2 B3 R0 R1 R2 R3 Rf0 Rf1 Rf2 Rf3
      have A := A.keep hb
      have B := B.keep hb
      have R := R.keep hb
      have HB := Lib.hid (bstep HB.out hb)
      clear hb
      obtain ⟨A0, A1, A2, A3, -, -, -, -, -⟩ := id A
      obtain ⟨B0, B1, B2, B3, -, -, -, -, -⟩ := id B
      obtain ⟨R0, R1, R2, R3, Rf0, Rf1, Rf2, Rf3, -⟩ := id R
      have RP := Lib.hid (R.put (.int .i64 (l)) (.int .i64 (u)) (.int .i64 (r1)) (.int .i64 (r2)))
      clear A0 A1 A2 A3 B0 B1 B2 B3
      go_wp2_with fail
      obtain ⟨z0, z1, z2, z3, -, -, -, -, -⟩ := RP.out
      refine bodyPost_ret (v := .tuple #[.agg #[.int .i64 (l), .int .i64 (u), .int .i64 (r1), .int .i64 (r2)], .int .i64 0]) (by simp [results, Tryd.results20, go_sem, z0, z1, z2, z3]) rfl ⟨rfl, ?_⟩
      exact below_set4 HB.out (by omega) _ _ _ _
theorem rpMeet (a b c d e f g h : Int) (w : World) (h1 : plOk a b c d = true) (h2 : plOk e f g h = true) :
    Calls Tryd.prog 20 #[.agg #[.int .i64 a, .int .i64 b, .int .i64 c, .int .i64 d], .agg #[.int .i64 e, .int .i64 f, .int .i64 g, .int .i64 h]] w fun r w' => r = .returned (mtV a b c d e f g h) ∧ Below w.heap.size w w' := by
  obtain ⟨l1, n1⟩ := (plOk_iff _ _ _ _).1 h1
  obtain ⟨l2, n2⟩ := (plOk_iff _ _ _ _).1 h2
  refine toldV ?_ (rmeet_walk a b c d e f g h (max a e) (min b f) (ameets a b e f) (pieces c d g h) w (Lib.hid fun wx => rpParts c d g h n1 n2 wx) (Lib.hid fun wx => rMeets a b e f wx) (Lib.hid fun wx => toldV rfl (rMeet a b e f wx)) (Lib.hid fun A n cap wx hz hS => rpAroundS A n cap _ wx hz (pieces_len c d g h) (good_pieces n1 n2) hS))
  unfold mtV mtE
  rw [h1, h2]
  cases ameets a b e f <;> by_cases hz : pieces c d g h = [] <;> simp [hz]
end Go.Proofs.YtgcoddjjkcdfmaaDoor
