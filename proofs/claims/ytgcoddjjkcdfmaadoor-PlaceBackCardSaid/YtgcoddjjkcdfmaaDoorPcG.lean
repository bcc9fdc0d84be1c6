/- Place: contracts of the program's Hull, commonLongitudes, Meet. -/
import Derived.Test.YtgcoddjjkcdfmaaDoorPcF
namespace Go.Proofs.YtgcoddjjkcdfmaaDoor
open Go.RowKit
set_option linter.unusedVariables false
set_option maxRecDepth 100000

/-- the hull's arcs, if both places are valid -/
def hulP (a b c d e f g h : Int) : Bool := plOk a b c d && plOk e f g h
theorem At4.far {w : World} {b c : Nat} {x y z t : Value} (h : At4 w b x y z t) (hne : b ≠ c) (x' y' z' t' : Value) : At4 ((((w.setCell ⟨c, 0, none⟩ x').setCell ⟨c, 1, none⟩ y').setCell ⟨c, 2, none⟩ z').setCell ⟨c, 3, none⟩ t') b x y z t := by
  have o : ∀ (i j : Nat) (wx : World) (s : Value), (wx.setCell ⟨c, j, none⟩ s).cell? ⟨b, i, none⟩ = wx.cell? ⟨b, i, none⟩ := fun i j wx s => World.cell?_setCell_other _ _ _ s (by simp; try omega)
  have f : ∀ (p q : Addr) (wx : World) (s : Value), (wx.setCell p s).frozen? q = wx.frozen? q := fun p q wx s => World.frozen?_setCell _ _ _ _
  exact ⟨by rw [o, o, o, o]; exact h.c0, by rw [o, o, o, o]; exact h.c1, by rw [o, o, o, o]; exact h.c2, by rw [o, o, o, o]; exact h.c3, by rw [f, f, f, f]; exact h.f0, by rw [f, f, f, f]; exact h.f1, by rw [f, f, f, f]; exact h.f2, by rw [f, f, f, f]; exact h.f3, by simpa [World.setCell] using h.lt⟩
theorem lat_aok {a b : Int} (h : latOk a b = true) : aok a b = true := by rw [latOk_iff] at h; exact aok_mk (by omega) (by omega) h.2.1
theorem hull_walk (a b c d e f g h l u r1 r2 : Int) (v1 v2 : Bool) (w : World) (H : HasAll w)
    (CV : Hid (∀ wx, HasAll wx → Calls Tryd.prog 11 #[.agg #[.int .i64 a, .int .i64 b, .int .i64 c, .int .i64 d]] wx fun e w' => e = .returned (.bool v1) ∧ Below wx.heap.size wx w'))
    (CU : Hid (∀ wx, HasAll wx → Calls Tryd.prog 11 #[.agg #[.int .i64 e, .int .i64 f, .int .i64 g, .int .i64 h]] wx fun e w' => e = .returned (.bool v2) ∧ Below wx.heap.size wx w'))
    (CH : Hid (v1 = true → v2 = true → ∀ wx, Calls Tryd.prog 35 #[.agg #[.int .i64 a, .int .i64 b], .agg #[.int .i64 e, .int .i64 f]] wx fun e w' => e = .returned (.tuple #[.agg #[.int .i64 l, .int .i64 u], .int .i64 0]) ∧ Below wx.heap.size wx w'))
    (CA : Hid (v1 = true → v2 = true → ∀ (q : Nat) (wx : World), HasAll wx → At4 wx q (.int .i64 c) (.int .i64 d) (.int .i64 g) (.int .i64 h) → Calls Tryd.prog 36 #[.slice (some ⟨q, 0, none⟩) 2 2] wx fun e w' => e = .returned (.agg #[.int .i64 r1, .int .i64 r2]) ∧ Below wx.heap.size wx w')) :
    Calls Tryd.prog 18 #[.agg #[.int .i64 a, .int .i64 b, .int .i64 c, .int .i64 d], .agg #[.int .i64 e, .int .i64 f, .int .i64 g, .int .i64 h]] w fun e w' => e = .returned (if (v1 && v2) = true then vPE l u r1 r2 0 else vPE 0 0 0 0 1) ∧ Below w.heap.size w w' := by
  have A := ((At4.new w (.int .i64 a) (.int .i64 b) (.int .i64 c) (.int .i64 d) 25).alloc (.cells #[.int .i64 e, .int .i64 f, .int .i64 g, .int .i64 h] 25)).alloc (.cells #[.int .i64 0, .int .i64 0, .int .i64 0, .int .i64 0] 25)
  have B := (At4.new (w.alloc (.cells #[.int .i64 a, .int .i64 b, .int .i64 c, .int .i64 d] 25)) (.int .i64 e) (.int .i64 f) (.int .i64 g) (.int .i64 h) 25).alloc (.cells #[.int .i64 0, .int .i64 0, .int .i64 0, .int .i64 0] 25)
  have R := At4.new ((w.alloc (.cells #[.int .i64 a, .int .i64 b, .int .i64 c, .int .i64 d] 25)).alloc (.cells #[.int .i64 e, .int .i64 f, .int .i64 g, .int .i64 h] 25)) (.int .i64 0) (.int .i64 0) (.int .i64 0) (.int .i64 0) 25
  have HB := Lib.hid (below3 w (.cells #[.int .i64 a, .int .i64 b, .int .i64 c, .int .i64 d] 25) (.cells #[.int .i64 e, .int .i64 f, .int .i64 g, .int .i64 h] 25) (.cells #[.int .i64 0, .int .i64 0, .int .i64 0, .int .i64 0] 25))
  simp at B R
  have G := H.below HB.out
  obtain ⟨A0, A1, A2, A3, -, -, -, -, -⟩ := id A
  obtain ⟨B0, B1, B2, B3, -, -, -, -, -⟩ := id B
  obtain ⟨R0, R1, R2, R3, Rf0, Rf1, Rf2, Rf3, -⟩ := id R
  cases v1
  · go_enter Tryd.func18, Tryd.ntmps18
    go_wp2_with fail
    refine ((CV).out _ G).mono ?_
    rintro e w1 ⟨rfl, hb⟩
    clear A0 A1 A2 A3 B0 B1 B2 B3 R0 R1 R2 R3 Rf0 Rf1 Rf2 Rf3
    have A := A.keep hb
    have B := B.keep hb
    have R := R.keep hb
    have G := G.below hb
    have HB := Lib.hid (bstep HB.out hb)
    clear hb
    obtain ⟨A0, A1, A2, A3, -, -, -, -, -⟩ := id A
    obtain ⟨B0, B1, B2, B3, -, -, -, -, -⟩ := id B
    obtain ⟨R0, R1, R2, R3, Rf0, Rf1, Rf2, Rf3, -⟩ := id R
    have RP := Lib.hid (R.put (.int .i64 (0)) (.int .i64 (0)) (.int .i64 (0)) (.int .i64 (0)))
    clear A0 A1 A2 A3 B0 B1 B2 B3
    go_wp2_with fail
    obtain ⟨z0, z1, z2, z3, -, -, -, -, -⟩ := RP.out
    refine bodyPost_ret (v := .tuple #[.agg #[.int .i64 (0), .int .i64 (0), .int .i64 (0), .int .i64 (0)], .int .i64 1]) (by simp [results, Tryd.results18, go_sem, z0, z1, z2, z3]) rfl ⟨rfl, ?_⟩
    exact below_set4 HB.out (by omega) _ _ _ _
  · cases v2
    · go_enter Tryd.func18, Tryd.ntmps18
      go_wp2_with fail
      refine ((CV).out _ G).mono ?_
      rintro e w1 ⟨rfl, hb⟩
      clear A0 A1 A2 A3 B0 B1 B2 B3 R0 R1 R2 R3 Rf0 Rf1 Rf2 Rf3
      have A := A.keep hb
      have B := B.keep hb
      have R := R.keep hb
      have G := G.below hb
      have HB := Lib.hid (bstep HB.out hb)
      clear hb
      obtain ⟨A0, A1, A2, A3, -, -, -, -, -⟩ := id A
      obtain ⟨B0, B1, B2, B3, -, -, -, -, -⟩ := id B
      obtain ⟨R0, R1, R2, R3, Rf0, Rf1, Rf2, Rf3, -⟩ := id R
      go_wp2_with fail
      refine ((CU).out _ G).mono ?_
      rintro e w2 ⟨rfl, hb⟩
      clear A0 A1 A2 A3 B0 B1 B2 B3 R0 R1 R2 R3 Rf0 Rf1 Rf2 Rf3
      have A := A.keep hb
      have B := B.keep hb
      have R := R.keep hb
      have G := G.below hb
      have HB := Lib.hid (bstep HB.out hb)
      clear hb
      obtain ⟨A0, A1, A2, A3, -, -, -, -, -⟩ := id A
      obtain ⟨B0, B1, B2, B3, -, -, -, -, -⟩ := id B
      obtain ⟨R0, R1, R2, R3, Rf0, Rf1, Rf2, Rf3, -⟩ := id R
      have RP := Lib.hid (R.put (.int .i64 (0)) (.int .i64 (0)) (.int .i64 (0)) (.int .i64 (0)))
      clear A0 A1 A2 A3 B0 B1 B2 B3
      go_wp2_with fail
      obtain ⟨z0, z1, z2, z3, -, -, -, -, -⟩ := RP.out
      refine bodyPost_ret (v := .tuple #[.agg #[.int .i64 (0), .int .i64 (0), .int .i64 (0), .int .i64 (0)], .int .i64 1]) (by simp [results, Tryd.results18, go_sem, z0, z1, z2, z3]) rfl ⟨rfl, ?_⟩
      exact below_set4 HB.out (by omega) _ _ _ _
    · have CH2 := Lib.hid (CH.out rfl rfl)
      have CA2 := Lib.hid (CA.out rfl rfl)
      clear CH CA
      go_enter Tryd.func18, Tryd.ntmps18
      go_wp2_with fail
      refine ((CV).out _ G).mono ?_
      rintro e w1 ⟨rfl, hb⟩
      clear A0 A1 A2 A3 B0 B1 B2 B3 R0 R1 R2 R3 Rf0 Rf1 Rf2 Rf3
      have A := A.keep hb
      have B := B.keep hb
      have R := R.keep hb
      have G := G.below hb
      have HB := Lib.hid (bstep HB.out hb)
      clear hb
      obtain ⟨A0, A1, A2, A3, -, -, -, -, -⟩ := id A
      obtain ⟨B0, B1, B2, B3, -, -, -, -, -⟩ := id B
      obtain ⟨R0, R1, R2, R3, Rf0, Rf1, Rf2, Rf3, -⟩ := id R
      go_wp2_with fail
      refine ((CU).out _ G).mono ?_
      rintro e w2 ⟨rfl, hb⟩
      clear A0 A1 A2 A3 B0 B1 B2 B3 R0 R1 R2 R3 Rf0 Rf1 Rf2 Rf3
      have A := A.keep hb
      have B := B.keep hb
      have R := R.keep hb
      have G := G.below hb
      have HB := Lib.hid (bstep HB.out hb)
      clear hb
      obtain ⟨A0, A1, A2, A3, -, -, -, -, -⟩ := id A
      obtain ⟨B0, B1, B2, B3, -, -, -, -, -⟩ := id B
      obtain ⟨R0, R1, R2, R3, Rf0, Rf1, Rf2, Rf3, -⟩ := id R
      go_wp2_with fail
      refine ((CH2).out _).mono ?_
      rintro e w3 ⟨rfl, hb⟩
      clear A0 A1 A2 A3 B0 B1 B2 B3 R0 R1 R2 R3 Rf0 Rf1 Rf2 Rf3
      have A := A.keep hb
      have B := B.keep hb
      have R := R.keep hb
      have G := G.below hb
      have HB := Lib.hid (bstep HB.out hb)
      clear hb
      obtain ⟨A0, A1, A2, A3, -, -, -, -, -⟩ := id A
      obtain ⟨B0, B1, B2, B3, -, -, -, -, -⟩ := id B
      obtain ⟨R0, R1, R2, R3, Rf0, Rf1, Rf2, Rf3, -⟩ := id R
      have rlt := Lib.hid R.lt
      clear A0 A1 A2 A3 B0 B1 B2 B3 R0 R1 R2 R3 Rf0 Rf1 Rf2 Rf3
      have A := A.alloc (.cells #[.int .i64 l, .int .i64 u] 23)
      have B := B.alloc (.cells #[.int .i64 l, .int .i64 u] 23)
      have R := R.alloc (.cells #[.int .i64 l, .int .i64 u] 23)
      have G := G.below (below1 w3 (.cells #[.int .i64 l, .int .i64 u] 23))
      have L := At2.new w3 (.int .i64 l) (.int .i64 u) 23
      have HB := Lib.hid (bstep HB.out (below1 w3 (.cells #[.int .i64 l, .int .i64 u] 23)))
      obtain ⟨A0, A1, A2, A3, -, -, -, -, -⟩ := id A
      obtain ⟨B0, B1, B2, B3, -, -, -, -, -⟩ := id B
      obtain ⟨R0, R1, R2, R3, Rf0, Rf1, Rf2, Rf3, -⟩ := id R
      obtain ⟨L0, L1, -, -, -⟩ := id L
      go_upto_region 4 with fail
      generalize (w3.alloc (.cells #[.int .i64 l, .int .i64 u] 23)) = W at *
      have N := (At4.new W (.int .i64 c) (.int .i64 d) (.int .i64 g) (.int .i64 h) 23).drp
      have GN := (G.below (below1 W (.cells #[.int .i64 c, .int .i64 d, .int .i64 g, .int .i64 h] 23))).drp
      have HBN := Lib.hid (bstep HB.out (below1 W (.cells #[.int .i64 c, .int .i64 d, .int .i64 g, .int .i64 h] 23)))
      clear A0 A1 A2 A3 B0 B1 B2 B3 R0 R1 R2 R3 Rf0 Rf1 Rf2 Rf3 L0 L1
      obtain ⟨A0, A1, A2, A3, -, -, -, -, -⟩ := id A
      obtain ⟨B0, B1, B2, B3, -, -, -, -, -⟩ := id B
      obtain ⟨R0, R1, R2, R3, Rf0, Rf1, Rf2, Rf3, -⟩ := id R
      obtain ⟨L0, L1, -, -, -⟩ := id L
      obtain ⟨bL, hL⟩ : ∃ bL, bL = w3.heap.size := ⟨_, rfl⟩
      rw [← hL] at L L0 L1 ⊢
      have n1 : ¬ bL = w.heap.size + 1 + 1 := by have := rlt.out; omega
      have n2 : ¬ w.heap.size + 1 + 1 = bL := by have := rlt.out; omega
      have n3 : ¬ w.heap.size = w.heap.size + 1 + 1 := by omega
      have n4 : ¬ w.heap.size + 1 + 1 = w.heap.size := by omega
      clear hL
      go_region_held3 (fun w' => w'.cell? ⟨w.heap.size, 0, none⟩ = some (.int .i64 a) ∧ w'.cell? ⟨w.heap.size, 1, none⟩ = some (.int .i64 b) ∧ w'.cell? ⟨w.heap.size, 2, none⟩ = some (.int .i64 c) ∧ w'.cell? ⟨w.heap.size, 3, none⟩ = some (.int .i64 d) ∧ w'.cell? ⟨w.heap.size + 1, 0, none⟩ = some (.int .i64 e) ∧ w'.cell? ⟨w.heap.size + 1, 1, none⟩ = some (.int .i64 f) ∧ w'.cell? ⟨w.heap.size + 1, 2, none⟩ = some (.int .i64 g) ∧ w'.cell? ⟨w.heap.size + 1, 3, none⟩ = some (.int .i64 h) ∧ w'.cell? ⟨bL, 0, none⟩ = some (.int .i64 l) ∧ w'.cell? ⟨bL, 1, none⟩ = some (.int .i64 u)) (go_keep)
        (first
        | (go_at_call 36; (with_reducible refine (CA2.out _ _ GN N).mono ?_); rintro e v ⟨rfl, hb⟩; clear A0 A1 A2 A3 B0 B1 B2 B3 R0 R1 R2 R3 Rf0 Rf1 Rf2 Rf3 L0 L1; have A := (A.alloc _).drp.keep hb; have B := (B.alloc _).drp.keep hb; have R := (R.alloc _).drp.keep hb; have L := (L.alloc _).dr8.keep hb; have HB := Lib.hid (HBN.out.trans ((bdrew hb).mono (by have := HBN.out.size; omega))); obtain ⟨A0, A1, A2, A3, -, -, -, -, -⟩ := id A; obtain ⟨B0, B1, B2, B3, -, -, -, -, -⟩ := id B; obtain ⟨R0, R1, R2, R3, Rf0, Rf1, Rf2, Rf3, -⟩ := id R; obtain ⟨L0, L1, -, -, -⟩ := id L; clear hb))
      all_goals
        have RP := Lib.hid (R.put (.int .i64 (l)) (.int .i64 (u)) (.int .i64 (r1)) (.int .i64 (r2)))
        clear A0 A1 A2 A3 B0 B1 B2 B3
        go_wp2_with fail
        obtain ⟨z0, z1, z2, z3, -, -, -, -, -⟩ := RP.out
        refine bodyPost_ret (v := .tuple #[.agg #[.int .i64 (l), .int .i64 (u), .int .i64 (r1), .int .i64 (r2)], .int .i64 0]) (by simp [results, Tryd.results18, go_sem, z0, z1, z2, z3]) rfl ⟨rfl, ?_⟩
        exact below_set4 HB.out (by omega) _ _ _ _
theorem Tryd.infoArc : (Tryd.prog.info? 23).map (fun i => (i.zero, i.size, i.bytes)) = some (some (.agg #[.int .i64 0, .int .i64 0]), 2, 16) := by kernel_rfl
theorem own_keep {w w1 : World} {base n : Nat} {e : TypeId} {v : Value} {xs : List Value} (h : w.ownsRow base e 2 v n xs) (hb : Below w.heap.size w w1) : w1.ownsRow base e 2 v n xs := by
  obtain ⟨h1, h2⟩ := h
  refine ⟨h1, ?_⟩
  rcases h2 with h2 | ⟨g, cap, cur, a1, a2, a3, a4, a5, a6, a7⟩
  · exact .inl h2
  · refine .inr ⟨g, cap, cur, a1, a2, ?_, a4, a5, a6, a7⟩
    rw [hb.block g (Array.getElem?_eq_some_iff.1 a3).1]; exact a3
theorem slP_of_own {w : World} {base e n : Nat} {v : Value} {zs : List Ar} (h : w.ownsRow base e 2 v n (zs.flatMap encP)) : ∃ A c, v = .slice A n c ∧ SlP w A n zs := by
  obtain ⟨h1, h2⟩ := id h
  rw [flat_len] at h1
  rcases h2 with ⟨rfl, rfl⟩ | ⟨g, cap, cur, rfl, a2, a3, a4, a5, a6, a7⟩
  · obtain rfl : zs = [] := List.length_eq_zero_iff.1 (by omega)
    exact ⟨none, 0, rfl, slP_nil w⟩
  · obtain ⟨r1, r2⟩ := rowP_of_own h
    exact ⟨_, cap, rfl, r2, Nat.le_trans a4 a5, fun _ => ⟨g, 0, rfl, (Array.getElem?_eq_some_iff.1 a3).1, r1⟩⟩
theorem At2.grown {w w' : World} {b base n : Nat} {e : TypeId} {x y v : Value} {xs : List Value} (h : At2 w b x y) (hb : b < base) (hv : w.ownsRow base e 2 v n xs) (hg : w.grownBy w' v.ownBlock) : At2 w' b x y := by
  have hne : some b ≠ v.ownBlock := fun q => by have := (hv.lt b q.symm).1; omega
  have hk := hg.block b h.lt hne
  exact ⟨(World.cell?_of_block (w := w) (a := ⟨b, 0, none⟩) hk).trans h.c0, (World.cell?_of_block (w := w) (a := ⟨b, 1, none⟩) hk).trans h.c1, (World.frozen?_of_block (w := w) (a := ⟨b, 0, none⟩) hk).trans h.f0, (World.frozen?_of_block (w := w) (a := ⟨b, 1, none⟩) hk).trans h.f1, Nat.lt_of_lt_of_le h.lt hg.size⟩
/-- the pieces that are found in the first rounds -/
def partJ (a b c d : Int) : Nat → List Ar
  | 0 => []
  | j + 1 => partJ a b c d j ++ pcs a b c d ((j : Int) * 21600000 - 21600000)
theorem partJ_all (a b c d : Int) : partJ a b c d 3 = pieces a b c d := by
  unfold partJ partJ partJ partJ pieces
  simp
theorem partJ_len (a b c d : Int) : ∀ j, (partJ a b c d j).length ≤ j
  | 0 => Nat.le_refl _
  | j + 1 => by
    have := partJ_len a b c d j
    have e : (pcs a b c d ((j : Int) * 21600000 - 21600000)).length ≤ 1 := by unfold pcs; split <;> simp
    show (partJ a b c d j ++ _).length ≤ _
    rw [List.length_append]; omega
theorem partJ_yes {a b c d K : Int} {j : Nat} (hK : K = (j : Int) * 21600000 - 21600000) (h : a ≤ d + K ∧ c + K ≤ b) : partJ a b c d (j + 1) = partJ a b c d j ++ [(max a (c + K), min b (d + K))] := by
  show _ ++ pcs a b c d _ = _
  rw [← hK]; unfold pcs; rw [if_pos h]
theorem partJ_no {a b c d K : Int} {j : Nat} (hK : K = (j : Int) * 21600000 - 21600000) (h : ¬ (a ≤ d + K ∧ c + K ≤ b)) : partJ a b c d (j + 1) = partJ a b c d j := by
  show _ ++ pcs a b c d _ = _
  rw [← hK]; unfold pcs; rw [if_neg h, List.append_nil]
theorem meet_yes {a b c d : Int} (h : aok a b = true) (k : aok c d = true) (q : a ≤ d ∧ c ≤ b) : vA (aok a b && aok c d) (ameetR a b c d) = ⟨max a c, min b d, 0⟩ := by
  unfold vA ameetR ameets
  rw [h, k, Bool.and_self, if_pos rfl, if_pos (decide_eq_true q)]
theorem meet_no {a b c d : Int} (h : aok a b = true) (k : aok c d = true) (q : ¬ (a ≤ d ∧ c ≤ b)) : vA (aok a b && aok c d) (ameetR a b c d) = ⟨0, 0, 23⟩ := by
  unfold vA ameetR ameets
  rw [h, k, Bool.and_self, if_pos rfl, if_neg (by rw [decide_eq_true_iff]; exact q)]
set_option maxHeartbeats 4000000 in
theorem pCommon (a b c d : Int) (h : lonOk a b = true) (k : lonOk c d = true) (w : World) :
    Calls Tryd.prog 38 #[.agg #[.int .i64 a, .int .i64 b], .agg #[.int .i64 c, .int .i64 d]] w fun e w' => ∃ A n cap, e = .returned (.slice A n cap) ∧ SlP w' A n (pieces a b c d) ∧ Below w.heap.size w w' := by
  have kh := lon_bd h
  have kk := lon_bd k
  have A := (At2.new w (.int .i64 a) (.int .i64 b) 23).alloc (.cells #[.int .i64 c, .int .i64 d] 23)
  have B := At2.new (w.alloc (.cells #[.int .i64 a, .int .i64 b] 23)) (.int .i64 c) (.int .i64 d) 23
  have HB := Lib.hid (below2 w (.cells #[.int .i64 a, .int .i64 b] 23) (.cells #[.int .i64 c, .int .i64 d] 23))
  simp at B
  clear h k
  obtain ⟨h1, h2, h3, h4, h5⟩ := kh
  obtain ⟨k1, k2, k3, k4, k5⟩ := kk
  have ha : aok a b = true := aok_mk (by omega) (by omega) (by omega)
  go_enter Tryd.func38, Tryd.ntmps38
  go_wp2_with fail
  go_loopg [5, 6] 3 (fun m v5 v6 wr => ∃ (j : Nat) (K : Int), m = 3 - j ∧ j ≤ 3 ∧ v6 = .int .i64 K ∧ Hid (K = (j : Int) * 21600000 - 21600000) ∧ Hid (wr.ownsRow (w.heap.size + 2) 23 2 v5 (partJ a b c d j).length ((partJ a b c d j).flatMap encP)) ∧ Hid (At2 wr w.heap.size (.int .i64 a) (.int .i64 b)) ∧ Hid (At2 wr (w.heap.size + 1) (.int .i64 c) (.int .i64 d)) ∧ Hid (Below w.heap.size w wr))
  case atStart => exact ⟨0, -21600000, rfl, Nat.zero_le _, rfl, Lib.hid (by omega), Lib.hid (World.ownsRow_nil _ _ _ _), Lib.hid A, Lib.hid B, HB⟩
  case round =>
    clear A B HB
    obtain ⟨j, K, hgk, hj, rfl, HK, HO, HA, HBb, HB⟩ := hrel
    have A := HA.out
    have B := HBb.out
    have HGK := Lib.hid hgk
    clear hgk HA HBb
    have eK := HK.out
    by_cases hlt : j < 3
    · have K1 : -21600000 ≤ K := by omega
      have K2 : K ≤ 21600000 := by omega
      have hc : aok (c + K) (d + K) = true := aok_mk (by omega) (by omega) (by omega)
      have CM := Lib.hid (fun wx => pMeet a b (c + K) (d + K) wx)
      have HJ := Lib.hid (show j < 3 from hlt)
      obtain ⟨A0, A1, -, -, -⟩ := id A
      obtain ⟨B0, B1, -, -, -⟩ := id B
      by_cases hq : a ≤ d + K ∧ c + K ≤ b
      · have CM := Lib.hid (fun wx => told _ _ _ (meet_yes ha hc hq) (CM.out wx))
        have HP := Lib.hid (partJ_yes eK hq)
        obtain ⟨x, hx⟩ : ∃ x, max a (c + K) = x := ⟨_, rfl⟩
        obtain ⟨y, hy⟩ : ∃ y, min b (d + K) = y := ⟨_, rfl⟩
        rw [hx, hy] at CM HP
        have HK2 : Hid (K + 21600000 = ((j + 1 : Nat) : Int) * 21600000 - 21600000) := by show _ = _; omega
        have hln : (partJ a b c d j).length ≤ 3 := by have := partJ_len a b c d j; omega
        obtain ⟨i0, hi, hz0, hz1, hz2⟩ := info_parts Tryd.infoArc
        clear hx hy hq eK hc ha hj hlt
        go_wp2_with fail
        refine (CM.out _).mono ?_
        rintro e w1 ⟨rfl, hb⟩
        have A := (A.keep hb).alloc (.cells #[.int .i64 x, .int .i64 y] 23)
        have B := (B.keep hb).alloc (.cells #[.int .i64 x, .int .i64 y] 23)
        have HO := Lib.hid ((own_keep HO.out hb).alloc (.cells #[.int .i64 x, .int .i64 y] 23))
        have HB := Lib.hid ((bstep HB.out hb).alloc (Nat.le_trans HB.out.size hb.size) (.cells #[.int .i64 x, .int .i64 y] 23))
        have P := At2.new w1 (.int .i64 x) (.int .i64 y) 23
        clear hb A0 A1 B0 B1
        have hw1 : w.heap.size + 1 < w1.heap.size + 1 := by have := B.lt; simp at this; omega
        have HB3 : Hid (((w1.alloc (Obj.cells #[.int .i64 x, .int .i64 y] 23)).alloc (Obj.cells #[.int .i64 x, .int .i64 y] 23)).heap[w1.heap.size + 1]? = some (Obj.cells #[.int .i64 x, .int .i64 y] 23)) := by
          show _ = _
          have e : (w1.alloc (Obj.cells #[.int .i64 x, .int .i64 y] 23)).heap.size = w1.heap.size + 1 := by simp
          rw [← e]; exact heap_alloc_new _ _
        obtain ⟨P0, P1, -, -, -⟩ := id P
        go_wp2_with ((at_builtin; go_loud (refine wpList_append_lies _ rfl _ _ 59 rfl (w.heap.size + 2) 23 i0 _ 2 16 Tryd.underlying59 hi hz0 hz1 hz2 rfl (by omega) _ (partJ a b c d j).length ((partJ a b c d j).flatMap encP) rfl (HO.out.alloc _) ⟨w1.heap.size + 1, 0, none⟩ 1 1 [.int .i64 x, .int .i64 y] rfl rfl (World.news_of_block HB3.out) (by intro u hu; simp at hu; rcases hu with rfl | rfl <;> rfl) (by omega) (by unfold maxLen; omega) (by omega) (by simp; omega) (w1.heap.size + 2) (by simp) ?_; intro g cap w3 hown3 hgrow hat hlt3)))
        have HOa := HO.out.alloc (.cells #[.int .i64 x, .int .i64 y] 23)
        have A3 := Lib.hid ((A.alloc (.cells #[.int .i64 x, .int .i64 y] 23)).grown (by omega) HOa hgrow)
        have B3 := Lib.hid ((B.alloc (.cells #[.int .i64 x, .int .i64 y] 23)).grown (by omega) HOa hgrow)
        have HB4 := Lib.hid ((HB.out.alloc HB.out.size (.cells #[.int .i64 x, .int .i64 y] 23)).grown hgrow (by simp; omega) (fun k hk => by have := (HOa.lt k hk).1; omega))
        have HO3 : Hid (w3.ownsRow (w.heap.size + 2) 23 2 (.slice (some ⟨g, 0, none⟩) ((partJ a b c d j).length + 1) cap) (partJ a b c d (j + 1)).length ((partJ a b c d (j + 1)).flatMap encP)) := by
          show World.ownsRow _ _ _ _ _ _ _
          rw [HP.out, List.length_append, List.flatMap_append]
          exact hown3
        clear hgrow hown3 HOa
        go_roundg (3 - (j + 1))
        case measure => have := HGK.out; have := HJ.out; omega
        case rel => exact ⟨j + 1, K + 21600000, rfl, by have := HJ.out; omega, by go_num, HK2, HO3, A3, B3, HB4⟩
      · have CM := Lib.hid (fun wx => told _ _ _ (meet_no ha hc hq) (CM.out wx))
        have HP := Lib.hid (partJ_no eK hq)
        have HK2 : Hid (K + 21600000 = ((j + 1 : Nat) : Int) * 21600000 - 21600000) := by show _ = _; omega
        clear hq eK hc ha hj hlt
        go_wp2_with fail
        refine (CM.out _).mono ?_
        rintro e w1 ⟨rfl, hb⟩
        have A := (A.keep hb).alloc (.cells #[.int .i64 0, .int .i64 0] 23)
        have B := (B.keep hb).alloc (.cells #[.int .i64 0, .int .i64 0] 23)
        have HO := Lib.hid ((own_keep HO.out hb).alloc (.cells #[.int .i64 0, .int .i64 0] 23))
        have HB := Lib.hid ((bstep HB.out hb).alloc (Nat.le_trans HB.out.size hb.size) (.cells #[.int .i64 0, .int .i64 0] 23))
        clear hb A0 A1 B0 B1
        go_wp2_with fail
        go_roundg (3 - (j + 1))
        case measure => have := HGK.out; have := HJ.out; omega
        case rel => exact ⟨j + 1, K + 21600000, rfl, by have := HJ.out; omega, by go_num, HK2, by show World.ownsRow _ _ _ _ _ _ _; rw [HP.out]; exact HO.out, Lib.hid A, Lib.hid B, HB⟩
    · have e3 : j = 3 := by omega
      subst e3
      have K3 : K = 43200000 := by omega
      have HO3 := HO.out
      rw [partJ_all] at HO3
      obtain ⟨A', c', rfl, hS⟩ := slP_of_own HO3
      have HS := Lib.hid hS
      subst K3
      clear HO3 hS HK HO eK
      go_wp2_with fail
      go_ret
      exact ⟨_, _, _, rfl, HS.out, HB.out⟩
theorem good_pieces {a b c d : Int} (h : lonOk a b = true) (k : lonOk c d = true) : GoodL (pieces a b c d) := by
  have h := lon_bd h
  have k := lon_bd k
  have one : ∀ k, GoodL (pcs a b c d k) := by
    intro k p hp
    unfold pcs at hp
    split at hp
    · rw [List.mem_singleton] at hp; subst hp; simp only; omega
    · exact absurd hp List.not_mem_nil
  intro p hp
  unfold pieces at hp
  rw [List.mem_append, List.mem_append] at hp
  rcases hp with hp | hp | hp
  · exact one _ p hp
  · exact one _ p hp
  · exact one _ p hp
theorem pieces_len (a b c d : Int) : (pieces a b c d).length ≤ 3 := by rw [← partJ_all]; exact partJ_len a b c d 3
theorem pAroundS (A : Option Addr) (n cap : Nat) (zs : List Ar) (w : World) (H : HasAll w) (hz : zs ≠ []) (hl : zs.length ≤ 3) (hg : GoodL zs) (hS : SlP w A n zs) :
    Calls Tryd.prog 36 #[.slice A n cap] w fun e w' => e = .returned (.agg #[.int .i64 (arnd zs).1, .int .i64 (arnd zs).2]) ∧ Below w.heap.size w w' := by
  have hn := hS.len
  have hp : 0 < n := by
    rcases Nat.eq_zero_or_pos n with h | h
    · exact absurd (List.length_eq_zero_iff.1 (by omega)) hz
    · exact h
  obtain ⟨b, off, rfl, hb, hr⟩ := hS.row hp
  exact pAround b off n cap zs w H hn (by omega) hg hb hr
/-- the place of the meet, or the error -/
def mtE (a b c d e f g h : Int) : Int := if (plOk a b c d && plOk e f g h) = true then (if (ameets a b e f && !(decide (pieces c d g h = []))) = true then 0 else 23) else 1
def mtV (a b c d e f g h : Int) : Value := if mtE a b c d e f g h = 0 then vPE (max a e) (min b f) (arnd (pieces c d g h)).1 (arnd (pieces c d g h)).2 0 else vPE 0 0 0 0 (mtE a b c d e f g h)
theorem meet_bad (a b c d e f g h : Int) (v1 v2 : Bool) (w : World) (H : HasAll w) (hv : (v1 && v2) = false)
    (CV : Hid (∀ wx, HasAll wx → Calls Tryd.prog 11 #[.agg #[.int .i64 a, .int .i64 b, .int .i64 c, .int .i64 d]] wx fun e w' => e = .returned (.bool v1) ∧ Below wx.heap.size wx w'))
    (CU : Hid (∀ wx, HasAll wx → Calls Tryd.prog 11 #[.agg #[.int .i64 e, .int .i64 f, .int .i64 g, .int .i64 h]] wx fun e w' => e = .returned (.bool v2) ∧ Below wx.heap.size wx w')) :
    Calls Tryd.prog 19 #[.agg #[.int .i64 a, .int .i64 b, .int .i64 c, .int .i64 d], .agg #[.int .i64 e, .int .i64 f, .int .i64 g, .int .i64 h]] w fun e w' => e = .returned (vPE 0 0 0 0 1) ∧ Below w.heap.size w w' := by
  have A := ((At4.new w (.int .i64 a) (.int .i64 b) (.int .i64 c) (.int .i64 d) 25).alloc (.cells #[.int .i64 e, .int .i64 f, .int .i64 g, .int .i64 h] 25)).alloc (.cells #[.int .i64 0, .int .i64 0, .int .i64 0, .int .i64 0] 25)
  have B := (At4.new (w.alloc (.cells #[.int .i64 a, .int .i64 b, .int .i64 c, .int .i64 d] 25)) (.int .i64 e) (.int .i64 f) (.int .i64 g) (.int .i64 h) 25).alloc (.cells #[.int .i64 0, .int .i64 0, .int .i64 0, .int .i64 0] 25)
  have R := At4.new ((w.alloc (.cells #[.int .i64 a, .int .i64 b, .int .i64 c, .int .i64 d] 25)).alloc (.cells #[.int .i64 e, .int .i64 f, .int .i64 g, .int .i64 h] 25)) (.int .i64 0) (.int .i64 0) (.int .i64 0) (.int .i64 0) 25
  have HB := Lib.hid (below3 w (.cells #[.int .i64 a, .int .i64 b, .int .i64 c, .int .i64 d] 25) (.cells #[.int .i64 e, .int .i64 f, .int .i64 g, .int .i64 h] 25) (.cells #[.int .i64 0, .int .i64 0, .int .i64 0, .int .i64 0] 25))
  simp at B R
  have G := H.below HB.out
  obtain ⟨A0, A1, A2, A3, -, -, -, -, -⟩ := id A
  obtain ⟨B0, B1, B2, B3, -, -, -, -, -⟩ := id B
  obtain ⟨R0, R1, R2, R3, Rf0, Rf1, Rf2, Rf3, -⟩ := id R
  cases v1
  · go_enter Tryd.func19, Tryd.ntmps19
    go_wp2_with fail
    refine ((CV).out _ G).mono ?_
    rintro e w1 ⟨rfl, hb⟩
    clear A0 A1 A2 A3 B0 B1 B2 B3 R0 R1 R2 R3 Rf0 Rf1 Rf2 Rf3
    have A := A.keep hb
    have B := B.keep hb
    have R := R.keep hb
    have G := G.below hb
    have HB := Lib.hid (bstep HB.out hb)
    clear hb
    obtain ⟨A0, A1, A2, A3, -, -, -, -, -⟩ := id A
    obtain ⟨B0, B1, B2, B3, -, -, -, -, -⟩ := id B
    obtain ⟨R0, R1, R2, R3, Rf0, Rf1, Rf2, Rf3, -⟩ := id R
    have RP := Lib.hid (R.put (.int .i64 (0)) (.int .i64 (0)) (.int .i64 (0)) (.int .i64 (0)))
    clear A0 A1 A2 A3 B0 B1 B2 B3
    go_wp2_with fail
    obtain ⟨z0, z1, z2, z3, -, -, -, -, -⟩ := RP.out
    refine bodyPost_ret (v := .tuple #[.agg #[.int .i64 (0), .int .i64 (0), .int .i64 (0), .int .i64 (0)], .int .i64 1]) (by simp [results, Tryd.results19, go_sem, z0, z1, z2, z3]) rfl ⟨rfl, ?_⟩
    exact below_set4 HB.out (by omega) _ _ _ _
  · obtain rfl : v2 = false := by simpa using hv
    go_enter Tryd.func19, Tryd.ntmps19
    go_wp2_with fail
    refine ((CV).out _ G).mono ?_
    rintro e w1 ⟨rfl, hb⟩
    clear A0 A1 A2 A3 B0 B1 B2 B3 R0 R1 R2 R3 Rf0 Rf1 Rf2 Rf3
    have A := A.keep hb
    have B := B.keep hb
    have R := R.keep hb
    have G := G.below hb
    have HB := Lib.hid (bstep HB.out hb)
    clear hb
    obtain ⟨A0, A1, A2, A3, -, -, -, -, -⟩ := id A
    obtain ⟨B0, B1, B2, B3, -, -, -, -, -⟩ := id B
    obtain ⟨R0, R1, R2, R3, Rf0, Rf1, Rf2, Rf3, -⟩ := id R
    go_wp2_with fail
    refine ((CU).out _ G).mono ?_
    rintro e w2 ⟨rfl, hb⟩
    clear A0 A1 A2 A3 B0 B1 B2 B3 R0 R1 R2 R3 Rf0 Rf1 Rf2 Rf3
    have A := A.keep hb
    have B := B.keep hb
    have R := R.keep hb
    have G := G.below hb
    have HB := Lib.hid (bstep HB.out hb)
    clear hb
    obtain ⟨A0, A1, A2, A3, -, -, -, -, -⟩ := id A
    obtain ⟨B0, B1, B2, B3, -, -, -, -, -⟩ := id B
    obtain ⟨R0, R1, R2, R3, Rf0, Rf1, Rf2, Rf3, -⟩ := id R
    have RP := Lib.hid (R.put (.int .i64 (0)) (.int .i64 (0)) (.int .i64 (0)) (.int .i64 (0)))
    clear A0 A1 A2 A3 B0 B1 B2 B3
    go_wp2_with fail
    obtain ⟨z0, z1, z2, z3, -, -, -, -, -⟩ := RP.out
    refine bodyPost_ret (v := .tuple #[.agg #[.int .i64 (0), .int .i64 (0), .int .i64 (0), .int .i64 (0)], .int .i64 1]) (by simp [results, Tryd.results19, go_sem, z0, z1, z2, z3]) rfl ⟨rfl, ?_⟩
    exact below_set4 HB.out (by omega) _ _ _ _
theorem meet_off (a b c d e f g h : Int) (w : World) (H : HasAll w)
    (CV : Hid (∀ wx, HasAll wx → Calls Tryd.prog 11 #[.agg #[.int .i64 a, .int .i64 b, .int .i64 c, .int .i64 d]] wx fun e w' => e = .returned (.bool true) ∧ Below wx.heap.size wx w'))
    (CU : Hid (∀ wx, HasAll wx → Calls Tryd.prog 11 #[.agg #[.int .i64 e, .int .i64 f, .int .i64 g, .int .i64 h]] wx fun e w' => e = .returned (.bool true) ∧ Below wx.heap.size wx w'))
    (CM : Hid (∀ wx, Calls Tryd.prog 37 #[.agg #[.int .i64 a, .int .i64 b], .agg #[.int .i64 e, .int .i64 f]] wx fun e w' => e = .returned (.tuple #[.agg #[.int .i64 0, .int .i64 0], .int .i64 23]) ∧ Below wx.heap.size wx w')) :
    Calls Tryd.prog 19 #[.agg #[.int .i64 a, .int .i64 b, .int .i64 c, .int .i64 d], .agg #[.int .i64 e, .int .i64 f, .int .i64 g, .int .i64 h]] w fun e w' => e = .returned (vPE 0 0 0 0 23) ∧ Below w.heap.size w w' := by
  have A := ((At4.new w (.int .i64 a) (.int .i64 b) (.int .i64 c) (.int .i64 d) 25).alloc (.cells #[.int .i64 e, .int .i64 f, .int .i64 g, .int .i64 h] 25)).alloc (.cells #[.int .i64 0, .int .i64 0, .int .i64 0, .int .i64 0] 25)
  have B := (At4.new (w.alloc (.cells #[.int .i64 a, .int .i64 b, .int .i64 c, .int .i64 d] 25)) (.int .i64 e) (.int .i64 f) (.int .i64 g) (.int .i64 h) 25).alloc (.cells #[.int .i64 0, .int .i64 0, .int .i64 0, .int .i64 0] 25)
  have R := At4.new ((w.alloc (.cells #[.int .i64 a, .int .i64 b, .int .i64 c, .int .i64 d] 25)).alloc (.cells #[.int .i64 e, .int .i64 f, .int .i64 g, .int .i64 h] 25)) (.int .i64 0) (.int .i64 0) (.int .i64 0) (.int .i64 0) 25
  have HB := Lib.hid (below3 w (.cells #[.int .i64 a, .int .i64 b, .int .i64 c, .int .i64 d] 25) (.cells #[.int .i64 e, .int .i64 f, .int .i64 g, .int .i64 h] 25) (.cells #[.int .i64 0, .int .i64 0, .int .i64 0, .int .i64 0] 25))
  simp at B R
  have G := H.below HB.out
  obtain ⟨A0, A1, A2, A3, -, -, -, -, -⟩ := id A
  obtain ⟨B0, B1, B2, B3, -, -, -, -, -⟩ := id B
  obtain ⟨R0, R1, R2, R3, Rf0, Rf1, Rf2, Rf3, -⟩ := id R
  go_enter Tryd.func19, Tryd.ntmps19
  go_wp2_with fail
  refine ((CV).out _ G).mono ?_
  rintro e w1 ⟨rfl, hb⟩
  clear A0 A1 A2 A3 B0 B1 B2 B3 R0 R1 R2 R3 Rf0 Rf1 Rf2 Rf3
  have A := A.keep hb
  have B := B.keep hb
  have R := R.keep hb
  have G := G.below hb
  have HB := Lib.hid (bstep HB.out hb)
  clear hb
  obtain ⟨A0, A1, A2, A3, -, -, -, -, -⟩ := id A
  obtain ⟨B0, B1, B2, B3, -, -, -, -, -⟩ := id B
  obtain ⟨R0, R1, R2, R3, Rf0, Rf1, Rf2, Rf3, -⟩ := id R
  go_wp2_with fail
  refine ((CU).out _ G).mono ?_
  rintro e w2 ⟨rfl, hb⟩
  clear A0 A1 A2 A3 B0 B1 B2 B3 R0 R1 R2 R3 Rf0 Rf1 Rf2 Rf3
  have A := A.keep hb
  have B := B.keep hb
  have R := R.keep hb
  have G := G.below hb
  have HB := Lib.hid (bstep HB.out hb)
  clear hb
  obtain ⟨A0, A1, A2, A3, -, -, -, -, -⟩ := id A
  obtain ⟨B0, B1, B2, B3, -, -, -, -, -⟩ := id B
  obtain ⟨R0, R1, R2, R3, Rf0, Rf1, Rf2, Rf3, -⟩ := id R
  go_wp2_with fail
  refine ((CM).out _).mono ?_
  rintro e w3 ⟨rfl, hb⟩
  clear A0 A1 A2 A3 B0 B1 B2 B3 R0 R1 R2 R3 Rf0 Rf1 Rf2 Rf3
  have A := A.keep hb
  have B := B.keep hb
  have R := R.keep hb
  have G := G.below hb
  have HB := Lib.hid (bstep HB.out hb)
  clear hb
  obtain ⟨A0, A1, A2, A3, -, -, -, -, -⟩ := id A
  obtain ⟨B0, B1, B2, B3, -, -, -, -, -⟩ := id B
  obtain ⟨R0, R1, R2, R3, Rf0, Rf1, Rf2, Rf3, -⟩ := id R
  clear A0 A1 A2 A3 B0 B1 B2 B3 R0 R1 R2 R3 Rf0 Rf1 Rf2 Rf3
  have A := A.alloc (.cells #[.int .i64 0, .int .i64 0] 23)
  have B := B.alloc (.cells #[.int .i64 0, .int .i64 0] 23)
  have R := R.alloc (.cells #[.int .i64 0, .int .i64 0] 23)
  have G := G.below (below1 w3 (.cells #[.int .i64 0, .int .i64 0] 23))
  have L := At2.new w3 (.int .i64 0) (.int .i64 0) 23
  have HB := Lib.hid (bstep HB.out (below1 w3 (.cells #[.int .i64 0, .int .i64 0] 23)))
  obtain ⟨A0, A1, A2, A3, -, -, -, -, -⟩ := id A
  obtain ⟨B0, B1, B2, B3, -, -, -, -, -⟩ := id B
  obtain ⟨R0, R1, R2, R3, Rf0, Rf1, Rf2, Rf3, -⟩ := id R
  obtain ⟨L0, L1, -, -, -⟩ := id L
  have RP := Lib.hid (R.put (.int .i64 (0)) (.int .i64 (0)) (.int .i64 (0)) (.int .i64 (0)))
  clear A0 A1 A2 A3 B0 B1 B2 B3
  go_wp2_with fail
  obtain ⟨z0, z1, z2, z3, -, -, -, -, -⟩ := RP.out
  refine bodyPost_ret (v := .tuple #[.agg #[.int .i64 (0), .int .i64 (0), .int .i64 (0), .int .i64 (0)], .int .i64 23]) (by simp [results, Tryd.results19, go_sem, z0, z1, z2, z3]) rfl ⟨rfl, ?_⟩
  exact below_set4 HB.out (by omega) _ _ _ _
theorem meet_on (a b c d e f g h l u : Int) (zs : List Ar) (w : World) (H : HasAll w)
    (CV : Hid (∀ wx, HasAll wx → Calls Tryd.prog 11 #[.agg #[.int .i64 a, .int .i64 b, .int .i64 c, .int .i64 d]] wx fun e w' => e = .returned (.bool true) ∧ Below wx.heap.size wx w'))
    (CU : Hid (∀ wx, HasAll wx → Calls Tryd.prog 11 #[.agg #[.int .i64 e, .int .i64 f, .int .i64 g, .int .i64 h]] wx fun e w' => e = .returned (.bool true) ∧ Below wx.heap.size wx w'))
    (CM : Hid (∀ wx, Calls Tryd.prog 37 #[.agg #[.int .i64 a, .int .i64 b], .agg #[.int .i64 e, .int .i64 f]] wx fun e w' => e = .returned (.tuple #[.agg #[.int .i64 l, .int .i64 u], .int .i64 0]) ∧ Below wx.heap.size wx w'))
    (CC : Hid (∀ wx, Calls Tryd.prog 38 #[.agg #[.int .i64 c, .int .i64 d], .agg #[.int .i64 g, .int .i64 h]] wx fun e w' => ∃ A n cap, e = .returned (.slice A n cap) ∧ SlP w' A n zs ∧ Below wx.heap.size wx w'))
    (CA : Hid (∀ A n cap wx, zs ≠ [] → HasAll wx → SlP wx A n zs → Calls Tryd.prog 36 #[.slice A n cap] wx fun e w' => e = .returned (.agg #[.int .i64 (arnd zs).1, .int .i64 (arnd zs).2]) ∧ Below wx.heap.size wx w')) :
    Calls Tryd.prog 19 #[.agg #[.int .i64 a, .int .i64 b, .int .i64 c, .int .i64 d], .agg #[.int .i64 e, .int .i64 f, .int .i64 g, .int .i64 h]] w fun e w' => e = .returned (if zs = [] then vPE 0 0 0 0 23 else vPE l u (arnd zs).1 (arnd zs).2 0) ∧ Below w.heap.size w w' := by
  obtain ⟨R, hR⟩ : ∃ R, arnd zs = R := ⟨_, rfl⟩
  rw [hR] at CA ⊢
  obtain ⟨r1, r2⟩ := R
  clear hR
  have A := ((At4.new w (.int .i64 a) (.int .i64 b) (.int .i64 c) (.int .i64 d) 25).alloc (.cells #[.int .i64 e, .int .i64 f, .int .i64 g, .int .i64 h] 25)).alloc (.cells #[.int .i64 0, .int .i64 0, .int .i64 0, .int .i64 0] 25)
  have B := (At4.new (w.alloc (.cells #[.int .i64 a, .int .i64 b, .int .i64 c, .int .i64 d] 25)) (.int .i64 e) (.int .i64 f) (.int .i64 g) (.int .i64 h) 25).alloc (.cells #[.int .i64 0, .int .i64 0, .int .i64 0, .int .i64 0] 25)
  have R := At4.new ((w.alloc (.cells #[.int .i64 a, .int .i64 b, .int .i64 c, .int .i64 d] 25)).alloc (.cells #[.int .i64 e, .int .i64 f, .int .i64 g, .int .i64 h] 25)) (.int .i64 0) (.int .i64 0) (.int .i64 0) (.int .i64 0) 25
  have HB := Lib.hid (below3 w (.cells #[.int .i64 a, .int .i64 b, .int .i64 c, .int .i64 d] 25) (.cells #[.int .i64 e, .int .i64 f, .int .i64 g, .int .i64 h] 25) (.cells #[.int .i64 0, .int .i64 0, .int .i64 0, .int .i64 0] 25))
  simp at B R
  have G := H.below HB.out
  obtain ⟨A0, A1, A2, A3, -, -, -, -, -⟩ := id A
  obtain ⟨B0, B1, B2, B3, -, -, -, -, -⟩ := id B
  obtain ⟨R0, R1, R2, R3, Rf0, Rf1, Rf2, Rf3, -⟩ := id R
  by_cases hz : zs = []
  · rw [if_pos hz]
    subst hz
    go_enter Tryd.func19, Tryd.ntmps19
    go_wp2_with fail
    refine ((CV).out _ G).mono ?_
    rintro e w1 ⟨rfl, hb⟩
    clear A0 A1 A2 A3 B0 B1 B2 B3 R0 R1 R2 R3 Rf0 Rf1 Rf2 Rf3
    have A := A.keep hb
    have B := B.keep hb
    have R := R.keep hb
    have G := G.below hb
    have HB := Lib.hid (bstep HB.out hb)
    clear hb
    obtain ⟨A0, A1, A2, A3, -, -, -, -, -⟩ := id A
    obtain ⟨B0, B1, B2, B3, -, -, -, -, -⟩ := id B
    obtain ⟨R0, R1, R2, R3, Rf0, Rf1, Rf2, Rf3, -⟩ := id R
    go_wp2_with fail
    refine ((CU).out _ G).mono ?_
    rintro e w2 ⟨rfl, hb⟩
    clear A0 A1 A2 A3 B0 B1 B2 B3 R0 R1 R2 R3 Rf0 Rf1 Rf2 Rf3
    have A := A.keep hb
    have B := B.keep hb
    have R := R.keep hb
    have G := G.below hb
    have HB := Lib.hid (bstep HB.out hb)
    clear hb
    obtain ⟨A0, A1, A2, A3, -, -, -, -, -⟩ := id A
    obtain ⟨B0, B1, B2, B3, -, -, -, -, -⟩ := id B
    obtain ⟨R0, R1, R2, R3, Rf0, Rf1, Rf2, Rf3, -⟩ := id R
    go_wp2_with fail
    refine ((CM).out _).mono ?_
    rintro e w3 ⟨rfl, hb⟩
    clear A0 A1 A2 A3 B0 B1 B2 B3 R0 R1 R2 R3 Rf0 Rf1 Rf2 Rf3
    have A := A.keep hb
    have B := B.keep hb
    have R := R.keep hb
    have G := G.below hb
    have HB := Lib.hid (bstep HB.out hb)
    clear hb
    obtain ⟨A0, A1, A2, A3, -, -, -, -, -⟩ := id A
    obtain ⟨B0, B1, B2, B3, -, -, -, -, -⟩ := id B
    obtain ⟨R0, R1, R2, R3, Rf0, Rf1, Rf2, Rf3, -⟩ := id R
    have rlt := Lib.hid R.lt
    clear A0 A1 A2 A3 B0 B1 B2 B3 R0 R1 R2 R3 Rf0 Rf1 Rf2 Rf3
    have A := A.alloc (.cells #[.int .i64 l, .int .i64 u] 23)
    have B := B.alloc (.cells #[.int .i64 l, .int .i64 u] 23)
    have R := R.alloc (.cells #[.int .i64 l, .int .i64 u] 23)
    have G := G.below (below1 w3 (.cells #[.int .i64 l, .int .i64 u] 23))
    have L := At2.new w3 (.int .i64 l) (.int .i64 u) 23
    have HB := Lib.hid (bstep HB.out (below1 w3 (.cells #[.int .i64 l, .int .i64 u] 23)))
    obtain ⟨A0, A1, A2, A3, -, -, -, -, -⟩ := id A
    obtain ⟨B0, B1, B2, B3, -, -, -, -, -⟩ := id B
    obtain ⟨R0, R1, R2, R3, Rf0, Rf1, Rf2, Rf3, -⟩ := id R
    obtain ⟨L0, L1, -, -, -⟩ := id L
    go_wp2_with fail
    refine (CC.out _).mono ?_
    rintro e w5 ⟨A', n, cap, rfl, hS, hb⟩
    clear A0 A1 A2 A3 B0 B1 B2 B3 R0 R1 R2 R3 Rf0 Rf1 Rf2 Rf3 L0 L1
    have A := A.keep hb
    have B := B.keep hb
    have R := R.keep hb
    have L := L.keep hb
    have G := G.below hb
    have HB := Lib.hid (bstep HB.out hb)
    clear hb
    have hlen := hS.len
    have HS := Lib.hid hS
    clear hS
    obtain ⟨A0, A1, A2, A3, -, -, -, -, -⟩ := id A
    obtain ⟨B0, B1, B2, B3, -, -, -, -, -⟩ := id B
    obtain ⟨R0, R1, R2, R3, Rf0, Rf1, Rf2, Rf3, -⟩ := id R
    obtain ⟨L0, L1, -, -, -⟩ := id L
    obtain ⟨bL, hL⟩ : ∃ bL, bL = w3.heap.size := ⟨_, rfl⟩
    rw [← hL] at L L0 L1 ⊢
    have n1 : ¬ bL = w.heap.size + 1 + 1 := by have := rlt.out; omega
    have n2 : ¬ w.heap.size + 1 + 1 = bL := by have := rlt.out; omega
    clear hL
    have h0 : n = 0 := hlen
    subst h0
    clear hlen
    have RP := Lib.hid (R.put (.int .i64 (0)) (.int .i64 (0)) (.int .i64 (0)) (.int .i64 (0)))
    clear A0 A1 A2 A3 B0 B1 B2 B3
    go_wp2_with fail
    obtain ⟨z0, z1, z2, z3, -, -, -, -, -⟩ := RP.out
    refine bodyPost_ret (v := .tuple #[.agg #[.int .i64 (0), .int .i64 (0), .int .i64 (0), .int .i64 (0)], .int .i64 23]) (by simp [results, Tryd.results19, go_sem, z0, z1, z2, z3]) rfl ⟨rfl, ?_⟩
    exact below_set4 HB.out (by omega) _ _ _ _
  · rw [if_neg hz]
    have CA2 := Lib.hid (fun A n cap wx => CA.out A n cap wx hz)
    have hzl : ¬ zs.length = 0 := fun q => hz (List.length_eq_zero_iff.1 q)
    clear CA hz
    go_enter Tryd.func19, Tryd.ntmps19
    go_wp2_with fail
    refine ((CV).out _ G).mono ?_
    rintro e w1 ⟨rfl, hb⟩
    clear A0 A1 A2 A3 B0 B1 B2 B3 R0 R1 R2 R3 Rf0 Rf1 Rf2 Rf3
    have A := A.keep hb
    have B := B.keep hb
    have R := R.keep hb
    have G := G.below hb
    have HB := Lib.hid (bstep HB.out hb)
    clear hb
    obtain ⟨A0, A1, A2, A3, -, -, -, -, -⟩ := id A
    obtain ⟨B0, B1, B2, B3, -, -, -, -, -⟩ := id B
    obtain ⟨R0, R1, R2, R3, Rf0, Rf1, Rf2, Rf3, -⟩ := id R
    go_wp2_with fail
    refine ((CU).out _ G).mono ?_
    rintro e w2 ⟨rfl, hb⟩
    clear A0 A1 A2 A3 B0 B1 B2 B3 R0 R1 R2 R3 Rf0 Rf1 Rf2 Rf3
    have A := A.keep hb
    have B := B.keep hb
    have R := R.keep hb
    have G := G.below hb
    have HB := Lib.hid (bstep HB.out hb)
    clear hb
    obtain ⟨A0, A1, A2, A3, -, -, -, -, -⟩ := id A
    obtain ⟨B0, B1, B2, B3, -, -, -, -, -⟩ := id B
    obtain ⟨R0, R1, R2, R3, Rf0, Rf1, Rf2, Rf3, -⟩ := id R
    go_wp2_with fail
    refine ((CM).out _).mono ?_
    rintro e w3 ⟨rfl, hb⟩
    clear A0 A1 A2 A3 B0 B1 B2 B3 R0 R1 R2 R3 Rf0 Rf1 Rf2 Rf3
    have A := A.keep hb
    have B := B.keep hb
    have R := R.keep hb
    have G := G.below hb
    have HB := Lib.hid (bstep HB.out hb)
    clear hb
    obtain ⟨A0, A1, A2, A3, -, -, -, -, -⟩ := id A
    obtain ⟨B0, B1, B2, B3, -, -, -, -, -⟩ := id B
    obtain ⟨R0, R1, R2, R3, Rf0, Rf1, Rf2, Rf3, -⟩ := id R
    have rlt := Lib.hid R.lt
    clear A0 A1 A2 A3 B0 B1 B2 B3 R0 R1 R2 R3 Rf0 Rf1 Rf2 Rf3
    have A := A.alloc (.cells #[.int .i64 l, .int .i64 u] 23)
    have B := B.alloc (.cells #[.int .i64 l, .int .i64 u] 23)
    have R := R.alloc (.cells #[.int .i64 l, .int .i64 u] 23)
    have G := G.below (below1 w3 (.cells #[.int .i64 l, .int .i64 u] 23))
    have L := At2.new w3 (.int .i64 l) (.int .i64 u) 23
    have HB := Lib.hid (bstep HB.out (below1 w3 (.cells #[.int .i64 l, .int .i64 u] 23)))
    obtain ⟨A0, A1, A2, A3, -, -, -, -, -⟩ := id A
    obtain ⟨B0, B1, B2, B3, -, -, -, -, -⟩ := id B
    obtain ⟨R0, R1, R2, R3, Rf0, Rf1, Rf2, Rf3, -⟩ := id R
    obtain ⟨L0, L1, -, -, -⟩ := id L
    go_wp2_with fail
    refine (CC.out _).mono ?_
    rintro e w5 ⟨A', n, cap, rfl, hS, hb⟩
    clear A0 A1 A2 A3 B0 B1 B2 B3 R0 R1 R2 R3 Rf0 Rf1 Rf2 Rf3 L0 L1
    have A := A.keep hb
    have B := B.keep hb
    have R := R.keep hb
    have L := L.keep hb
    have G := G.below hb
    have HB := Lib.hid (bstep HB.out hb)
    clear hb
    have hlen := hS.len
    have HS := Lib.hid hS
    clear hS
    obtain ⟨A0, A1, A2, A3, -, -, -, -, -⟩ := id A
    obtain ⟨B0, B1, B2, B3, -, -, -, -, -⟩ := id B
    obtain ⟨R0, R1, R2, R3, Rf0, Rf1, Rf2, Rf3, -⟩ := id R
    obtain ⟨L0, L1, -, -, -⟩ := id L
    obtain ⟨bL, hL⟩ : ∃ bL, bL = w3.heap.size := ⟨_, rfl⟩
    rw [← hL] at L L0 L1 ⊢
    have n1 : ¬ bL = w.heap.size + 1 + 1 := by have := rlt.out; omega
    have n2 : ¬ w.heap.size + 1 + 1 = bL := by have := rlt.out; omega
    clear hL
    have hn : ¬ (n : Int) = 0 := by omega
    have hnb : ((n : Int) == 0) = false := beq_eq_false_iff_ne.2 hn
    clear hlen hzl
    go_upto_region 9 with fail
    have HSd := Lib.hid (HS.out.keep (Below.refl _ _).drew)
    have Gd := Lib.hid G.drp
    go_region_held3 (fun w' => w'.cell? ⟨bL, 0, none⟩ = some (.int .i64 l) ∧ w'.cell? ⟨bL, 1, none⟩ = some (.int .i64 u)) (go_keep)
      (first
      | (go_at_call 36; (with_reducible refine (CA2.out _ _ _ _ Gd.out HSd.out).mono ?_); rintro e v ⟨rfl, hb⟩; clear A0 A1 A2 A3 B0 B1 B2 B3 R0 R1 R2 R3 Rf0 Rf1 Rf2 Rf3 L0 L1; have A := A.drp.keep hb; have B := B.drp.keep hb; have R := R.drp.keep hb; have L := L.dr8.keep hb; have HB := Lib.hid (bstep HB.out (bdrew hb)); obtain ⟨A0, A1, A2, A3, -, -, -, -, -⟩ := id A; obtain ⟨B0, B1, B2, B3, -, -, -, -, -⟩ := id B; obtain ⟨R0, R1, R2, R3, Rf0, Rf1, Rf2, Rf3, -⟩ := id R; obtain ⟨L0, L1, -, -, -⟩ := id L; clear hb))
    all_goals
      have RP := Lib.hid (R.put (.int .i64 (l)) (.int .i64 (u)) (.int .i64 (r1)) (.int .i64 (r2)))
      clear A0 A1 A2 A3 B0 B1 B2 B3
      go_wp2_with fail
      obtain ⟨z0, z1, z2, z3, -, -, -, -, -⟩ := RP.out
      refine bodyPost_ret (v := .tuple #[.agg #[.int .i64 (l), .int .i64 (u), .int .i64 (r1), .int .i64 (r2)], .int .i64 0]) (by simp [results, Tryd.results19, go_sem, z0, z1, z2, z3]) rfl ⟨rfl, ?_⟩
      exact below_set4 HB.out (by omega) _ _ _ _
theorem pPlHull (a b c d e f g h : Int) (w : World) (H : HasAll w) :
    Calls Tryd.prog 18 #[.agg #[.int .i64 a, .int .i64 b, .int .i64 c, .int .i64 d], .agg #[.int .i64 e, .int .i64 f, .int .i64 g, .int .i64 h]] w fun r w' => r = .returned (if (plOk a b c d && plOk e f g h) = true then vPE (min a e) (max b f) (arnd [(c, d), (g, h)]).1 (arnd [(c, d), (g, h)]).2 0 else vPE 0 0 0 0 1) ∧ Below w.heap.size w w' := by
  refine hull_walk a b c d e f g h _ _ _ _ _ _ w H (Lib.hid fun wx Hx => pPlValid a b c d wx Hx) (Lib.hid fun wx Hx => pPlValid e f g h wx Hx) (Lib.hid fun h1 h2 wx => ?_) (Lib.hid fun h1 h2 q wx Hx N => ?_)
  · have k1 := lat_aok ((plOk_iff _ _ _ _).1 h1).1
    have k2 := lat_aok ((plOk_iff _ _ _ _).1 h2).1
    refine told _ _ _ ?_ (pHull a b e f wx)
    unfold vA ahullR
    rw [k1, k2, Bool.and_self, if_pos rfl]
  · exact pAround2 c d g h ((plOk_iff _ _ _ _).1 h1).2 ((plOk_iff _ _ _ _).1 h2).2 q wx Hx N
theorem pPlMeet (a b c d e f g h : Int) (w : World) (H : HasAll w) :
    Calls Tryd.prog 19 #[.agg #[.int .i64 a, .int .i64 b, .int .i64 c, .int .i64 d], .agg #[.int .i64 e, .int .i64 f, .int .i64 g, .int .i64 h]] w fun r w' => r = .returned (mtV a b c d e f g h) ∧ Below w.heap.size w w' := by
  have CV := Lib.hid (fun wx (Hx : HasAll wx) => pPlValid a b c d wx Hx)
  have CU := Lib.hid (fun wx (Hx : HasAll wx) => pPlValid e f g h wx Hx)
  cases hv : (plOk a b c d && plOk e f g h)
  · have e1 : mtE a b c d e f g h = 1 := by unfold mtE; rw [hv]; simp
    have e2 : mtV a b c d e f g h = vPE 0 0 0 0 1 := by unfold mtV; rw [e1, if_neg (by decide)]
    rw [e2]
    exact meet_bad a b c d e f g h _ _ w H hv CV CU
  · obtain ⟨h1, h2⟩ := Bool.and_eq_true_iff.1 hv
    rw [h1] at CV
    rw [h2] at CU
    obtain ⟨l1, n1⟩ := (plOk_iff _ _ _ _).1 h1
    obtain ⟨l2, n2⟩ := (plOk_iff _ _ _ _).1 h2
    by_cases hm : a ≤ f ∧ e ≤ b
    · have CM := Lib.hid (fun wx => told _ _ _ (meet_yes (lat_aok l1) (lat_aok l2) hm) (pMeet a b e f wx))
      have := meet_on a b c d e f g h _ _ (pieces c d g h) w H CV CU CM (Lib.hid fun wx => pCommon c d g h n1 n2 wx) (Lib.hid fun A n cap wx hz Hx hS => pAroundS A n cap _ wx Hx hz (pieces_len c d g h) (good_pieces n1 n2) hS)
      have am : ameets a b e f = true := decide_eq_true hm
      have eq : mtV a b c d e f g h = (if pieces c d g h = [] then vPE 0 0 0 0 23 else vPE (max a e) (min b f) (arnd (pieces c d g h)).1 (arnd (pieces c d g h)).2 0) := by
        unfold mtV mtE
        rw [hv, am]
        by_cases hz : pieces c d g h = []
        · simp [hz]
        · simp [hz]
      rw [eq]
      exact this
    · have CM := Lib.hid (fun wx => told _ _ _ (meet_no (lat_aok l1) (lat_aok l2) hm) (pMeet a b e f wx))
      have am : ameets a b e f = false := decide_eq_false hm
      have e1 : mtE a b c d e f g h = 23 := by unfold mtE; rw [hv, am]; simp
      have e2 : mtV a b c d e f g h = vPE 0 0 0 0 23 := by unfold mtV; rw [e1, if_neg (by decide)]
      rw [e2]
      exact meet_off a b c d e f g h w H CV CU CM
end Go.Proofs.YtgcoddjjkcdfmaaDoor
