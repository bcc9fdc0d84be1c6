/- Place: contracts of the program's Hull, commonLongitudes, Meet. -/
import Derived.Test.YtndcjldnnfhedaaDoorPcF
namespace Go.Proofs.YtndcjldnnfhedaaDoor
open Go.RowKit
set_option linter.unusedVariables false
set_option maxRecDepth 100000

/-- the hull's arcs, if both places are valid -/
def hulP (a b c d e f g h : Int) : Bool := plOk a b c d && plOk e f g h
theorem At4.far {w : World} {b c : Nat} {x y z t : Value} (h : At4 w b x y z t) (hne : b ≠ c) (x' y' z' t' : Value) : At4 ((((w.setCell ⟨c, 0, none⟩ x').setCell ⟨c, 1, none⟩ y').setCell ⟨c, 2, none⟩ z').setCell ⟨c, 3, none⟩ t') b x y z t := by
  have o : ∀ (i j : Nat) (wx : World) (s : Value), (wx.setCell ⟨c, j, none⟩ s).cell? ⟨b, i, none⟩ = wx.cell? ⟨b, i, none⟩ := fun i j wx s => World.cell?_setCell_other _ _ _ s (by simp; try omega)
  have f : ∀ (p q : Addr) (wx : World) (s : Value), (wx.setCell p s).frozen? q = wx.frozen? q := fun p q wx s => World.frozen?_setCell _ _ _ _
  exact ⟨by rw [o, o, o, o]; exact h.c0, by rw [o, o, o, o]; exact h.c1, by rw [o, o, o, o]; exact h.c2, by rw [o, o, o, o]; exact h.c3, by rw [f, f, f, f]; exact h.f0, by rw [f, f, f, f]; exact h.f1, by rw [f, f, f, f]; exact h.f2, by rw [f, f, f, f]; exact h.f3, by simpa [World.setCell] using h.lt⟩
theorem lat_aok {a b : Int} (h : latOk a b = true) : aok a b = true := by rw [latOk_iff] at h; exact aok_mk (by omega) (by omega) h.2.1
theorem hull_walk (a b c d e f g h l u r1 r2 : Int) (v1 v2 : Bool) (w : World) (H : HasAll w)
    (CV : Hid (∀ wx, HasAll wx → Calls Tryd.prog 9 #[.agg #[.int .i64 a, .int .i64 b, .int .i64 c, .int .i64 d]] wx fun e w' => e = .returned (.bool v1) ∧ Below wx.heap.size wx w'))
    (CU : Hid (∀ wx, HasAll wx → Calls Tryd.prog 9 #[.agg #[.int .i64 e, .int .i64 f, .int .i64 g, .int .i64 h]] wx fun e w' => e = .returned (.bool v2) ∧ Below wx.heap.size wx w'))
    (CH : Hid (v1 = true → v2 = true → ∀ wx, Calls Tryd.prog 33 #[.agg #[.int .i64 a, .int .i64 b], .agg #[.int .i64 e, .int .i64 f]] wx fun e w' => e = .returned (.tuple #[.agg #[.int .i64 l, .int .i64 u], .int .i64 0]) ∧ Below wx.heap.size wx w'))
    (CA : Hid (v1 = true → v2 = true → ∀ (q : Nat) (wx : World), HasAll wx → At4 wx q (.int .i64 c) (.int .i64 d) (.int .i64 g) (.int .i64 h) → Calls Tryd.prog 34 #[.slice (some ⟨q, 0, none⟩) 2 2] wx fun e w' => e = .returned (.agg #[.int .i64 r1, .int .i64 r2]) ∧ Below wx.heap.size wx w')) :
    Calls Tryd.prog 15 #[.agg #[.int .i64 a, .int .i64 b, .int .i64 c, .int .i64 d], .agg #[.int .i64 e, .int .i64 f, .int .i64 g, .int .i64 h]] w fun e w' => e = .returned (if (v1 && v2) = true then vPE l u r1 r2 0 else vPE 0 0 0 0 1) ∧ Below w.heap.size w w' := by
  have A := ((At4.new w (.int .i64 a) (.int .i64 b) (.int .i64 c) (.int .i64 d) 33).alloc (.cells #[.int .i64 e, .int .i64 f, .int .i64 g, .int .i64 h] 33)).alloc (.cells #[.int .i64 0, .int .i64 0, .int .i64 0, .int .i64 0] 33)
  have B := (At4.new (w.alloc (.cells #[.int .i64 a, .int .i64 b, .int .i64 c, .int .i64 d] 33)) (.int .i64 e) (.int .i64 f) (.int .i64 g) (.int .i64 h) 33).alloc (.cells #[.int .i64 0, .int .i64 0, .int .i64 0, .int .i64 0] 33)
  have R := At4.new ((w.alloc (.cells #[.int .i64 a, .int .i64 b, .int .i64 c, .int .i64 d] 33)).alloc (.cells #[.int .i64 e, .int .i64 f, .int .i64 g, .int .i64 h] 33)) (.int .i64 0) (.int .i64 0) (.int .i64 0) (.int .i64 0) 33
  have HB := Lib.hid (below3 w (.cells #[.int .i64 a, .int .i64 b, .int .i64 c, .int .i64 d] 33) (.cells #[.int .i64 e, .int .i64 f, .int .i64 g, .int .i64 h] 33) (.cells #[.int .i64 0, .int .i64 0, .int .i64 0, .int .i64 0] 33))
  simp at B R
  have G := H.below HB.out
  obtain ⟨A0, A1, A2, A3, -, -, -, -, -⟩ := id A
  obtain ⟨B0, B1, B2, B3, -, -, -, -, -⟩ := id B
  obtain ⟨R0, R1, R2, R3, Rf0, Rf1, Rf2, Rf3, -⟩ := id R
  cases v1
  · go_enter Tryd.func15, Tryd.ntmps15
    go_wp2_with fail
    refine ((CV).out _ G).mono ?_
    rintro e w1 ⟨rfl, hb⟩
    clear A0 A1 A2 A3 B0 B1 B2 B3 R0 R1 R2 R3 Rf0 Rf1 Rf2 Rf3
    have A := A.keep hb
    have B := B.keep hb
    have R := R.keep hb
    have G := G.below hb
    have HB := Lib.hid (bstep HB.out hb)
    clear hb
    obtain ⟨A0, A1, A2, A3, -, -, -, -, -⟩ := id A
    obtain ⟨B0, B1, B2, B3, -, -, -, -, -⟩ := id B
    obtain ⟨R0, R1, R2, R3, Rf0, Rf1, Rf2, Rf3, -⟩ := id R
    have RP := Lib.hid (R.put (.int .i64 (0)) (.int .i64 (0)) (.int .i64 (0)) (.int .i64 (0)))
    clear A0 A1 A2 A3 B0 B1 B2 B3
    go_wp2_with fail
    obtain ⟨z0, z1, z2, z3, -, -, -, -, -⟩ := RP.out
    refine bodyPost_ret (v := .tuple #[.agg #[.int .i64 (0), .int .i64 (0), .int .i64 (0), .int .i64 (0)], .int .i64 1]) (by simp [results, Tryd.results15, go_sem, z0, z1, z2, z3]) rfl ⟨rfl, ?_⟩
    exact below_set4 HB.out (by omega) _ _ _ _
  · cases v2
    · go_enter Tryd.func15, Tryd.ntmps15
      go_wp2_with fail
      refine ((CV).out _ G).mono ?_
      rintro e w1 ⟨rfl, hb⟩
      clear A0 A1 A2 A3 B0 B1 B2 B3 R0 R1 R2 R3 Rf0 Rf1 Rf2 Rf3
      have A := A.keep hb
      have B := B.keep hb
      have R := R.keep hb
      have G := G.below hb
      have HB := Lib.hid (bstep HB.out hb)
      clear hb
      obtain ⟨A0, A1, A2, A3, -, -, -, -, -⟩ := id A
      obtain ⟨B0, B1, B2, B3, -, -, -, -, -⟩ := id B
      obtain ⟨R0, R1, R2, R3, Rf0, Rf1, Rf2, Rf3, -⟩ := id R
      go_wp2_with fail
      refine ((CU).out _ G).mono ?_
      rintro e w2 ⟨rfl, hb⟩
      clear A0 A1 A2 A3 B0 B1 B2 B3 R0 R1 R2 R3 Rf0 Rf1 Rf2 Rf3
      have A := A.keep hb
      have B := B.keep hb
      have R := R.keep hb
      have G := G.below hb
      have HB := Lib.hid (bstep HB.out hb)
      clear hb
      obtain ⟨A0, A1, A2, A3, -, -, -, -, -⟩ := id A
      obtain ⟨B0, B1, B2, B3, -, -, -, -, -⟩ := id B
      obtain ⟨R0, R1, R2, R3, Rf0, Rf1, Rf2, Rf3, -⟩ := id R
      have RP := Lib.hid (R.put (.int .i64 (0)) (.int .i64 (0)) (.int .i64 (0)) (.int .i64 (0)))
      clear A0 A1 A2 A3 B0 B1 B2 B3
      go_wp2_with fail
      obtain ⟨z0, z1, z2, z3, -, -, -, -, -⟩ := RP.out
      refine bodyPost_ret (v := .tuple #[.agg #[.int .i64 (0), .int .i64 (0), .int .i64 (0), .int .i64 (0)], .int .i64 1]) (by simp [results, Tryd.results15, go_sem, z0, z1, z2, z3]) rfl ⟨rfl, ?_⟩
      exact below_set4 HB.out (by omega) _ _ _ _
    · have CH2 := Lib.hid (CH.out rfl rfl)
      have CA2 := Lib.hid (CA.out rfl rfl)
      clear CH CA
      go_enter Tryd.func15, Tryd.ntmps15
      go_wp2_with fail
      refine ((CV).out _ G).mono ?_
      rintro e w1 ⟨rfl, hb⟩
      clear A0 A1 A2 A3 B0 B1 B2 B3 R0 R1 R2 R3 Rf0 Rf1 Rf2 Rf3
      have A := A.keep hb
      have B := B.keep hb
      have R := R.keep hb
      have G := G.below hb
      have HB := Lib.hid (bstep HB.out hb)
      clear hb
      obtain ⟨A0, A1, A2, A3, -, -, -, -, -⟩ := id A
      obtain ⟨B0, B1, B2, B3, -, -, -, -, -⟩ := id B
      obtain ⟨R0, R1, R2, R3, Rf0, Rf1, Rf2, Rf3, -⟩ := id R
      go_wp2_with fail
      refine ((CU).out _ G).mono ?_
      rintro e w2 ⟨rfl, hb⟩
      clear A0 A1 A2 A3 B0 B1 B2 B3 R0 R1 R2 R3 Rf0 Rf1 Rf2 Rf3
      have A := A.keep hb
      have B := B.keep hb
      have R := R.keep hb
      have G := G.below hb
      have HB := Lib.hid (bstep HB.out hb)
      clear hb
      obtain ⟨A0, A1, A2, A3, -, -, -, -, -⟩ := id A
      obtain ⟨B0, B1, B2, B3, -, -, -, -, -⟩ := id B
      obtain ⟨R0, R1, R2, R3, Rf0, Rf1, Rf2, Rf3, -⟩ := id R
      go_wp2_with fail
      refine ((CH2).out _).mono ?_
      rintro e w3 ⟨rfl, hb⟩
      clear A0 A1 A2 A3 B0 B1 B2 B3 R0 R1 R2 R3 Rf0 Rf1 Rf2 Rf3
      have A := A.keep hb
      have B := B.keep hb
      have R := R.keep hb
      have G := G.below hb
      have HB := Lib.hid (bstep HB.out hb)
      clear hb
      obtain ⟨A0, A1, A2, A3, -, -, -, -, -⟩ := id A
      obtain ⟨B0, B1, B2, B3, -, -, -, -, -⟩ := id B
      obtain ⟨R0, R1, R2, R3, Rf0, Rf1, Rf2, Rf3, -⟩ := id R
      have rlt := Lib.hid R.lt
      clear A0 A1 A2 A3 B0 B1 B2 B3 R0 R1 R2 R3 Rf0 Rf1 Rf2 Rf3
      have A := A.alloc (.cells #[.int .i64 l, .int .i64 u] 25)
      have B := B.alloc (.cells #[.int .i64 l, .int .i64 u] 25)
      have R := R.alloc (.cells #[.int .i64 l, .int .i64 u] 25)
      have G := G.below (below1 w3 (.cells #[.int .i64 l, .int .i64 u] 25))
      have L := At2.new w3 (.int .i64 l) (.int .i64 u) 25
      have HB := Lib.hid (bstep HB.out (below1 w3 (.cells #[.int .i64 l, .int .i64 u] 25)))
      obtain ⟨A0, A1, A2, A3, -, -, -, -, -⟩ := id A
      obtain ⟨B0, B1, B2, B3, -, -, -, -, -⟩ := id B
      obtain ⟨R0, R1, R2, R3, Rf0, Rf1, Rf2, Rf3, -⟩ := id R
      obtain ⟨L0, L1, -, -, -⟩ := id L
      go_upto_region 4 with fail
      generalize (w3.alloc (.cells #[.int .i64 l, .int .i64 u] 25)) = W at *
      have N := (At4.new W (.int .i64 c) (.int .i64 d) (.int .i64 g) (.int .i64 h) 25).drp
      have GN := (G.below (below1 W (.cells #[.int .i64 c, .int .i64 d, .int .i64 g, .int .i64 h] 25))).drp
      have HBN := Lib.hid (bstep HB.out (below1 W (.cells #[.int .i64 c, .int .i64 d, .int .i64 g, .int .i64 h] 25)))
      clear A0 A1 A2 A3 B0 B1 B2 B3 R0 R1 R2 R3 Rf0 Rf1 Rf2 Rf3 L0 L1
      obtain ⟨A0, A1, A2, A3, -, -, -, -, -⟩ := id A
      obtain ⟨B0, B1, B2, B3, -, -, -, -, -⟩ := id B
      obtain ⟨R0, R1, R2, R3, Rf0, Rf1, Rf2, Rf3, -⟩ := id R
      obtain ⟨L0, L1, -, -, -⟩ := id L
      obtain ⟨bL, hL⟩ : ∃ bL, bL = w3.heap.size := ⟨_, rfl⟩
      rw [← hL] at L L0 L1 ⊢
      have n1 : ¬ bL = w.heap.size + 1 + 1 := by have := rlt.out; omega
      have n2 : ¬ w.heap.size + 1 + 1 = bL := by have := rlt.out; omega
      have n3 : ¬ w.heap.size = w.heap.size + 1 + 1 := by omega
      have n4 : ¬ w.heap.size + 1 + 1 = w.heap.size := by omega
      clear hL
      go_region_held3 (fun w' => w'.cell? ⟨w.heap.size, 0, none⟩ = some (.int .i64 a) ∧ w'.cell? ⟨w.heap.size, 1, none⟩ = some (.int .i64 b) ∧ w'.cell? ⟨w.heap.size, 2, none⟩ = some (.int .i64 c) ∧ w'.cell? ⟨w.heap.size, 3, none⟩ = some (.int .i64 d) ∧ w'.cell? ⟨w.heap.size + 1, 0, none⟩ = some (.int .i64 e) ∧ w'.cell? ⟨w.heap.size + 1, 1, none⟩ = some (.int .i64 f) ∧ w'.cell? ⟨w.heap.size + 1, 2, none⟩ = some (.int .i64 g) ∧ w'.cell? ⟨w.heap.size + 1, 3, none⟩ = some (.int .i64 h) ∧ w'.cell? ⟨bL, 0, none⟩ = some (.int .i64 l) ∧ w'.cell? ⟨bL, 1, none⟩ = some (.int .i64 u)) (go_keep)
        (first
        | (go_at_call 34; (with_reducible refine (CA2.out _ _ GN N).mono ?_); rintro e v ⟨rfl, hb⟩; clear A0 A1 A2 A3 B0 B1 B2 B3 R0 R1 R2 R3 Rf0 Rf1 Rf2 Rf3 L0 L1; have A := (A.alloc _).drp.keep hb; have B := (B.alloc _).drp.keep hb; have R := (R.alloc _).drp.keep hb; have L := (L.alloc _).dr8.keep hb; have HB := Lib.hid (HBN.out.trans ((bdrew hb).mono (by have := HBN.out.size; omega))); obtain ⟨A0, A1, A2, A3, -, -, -, -, -⟩ := id A; obtain ⟨B0, B1, B2, B3, -, -, -, -, -⟩ := id B; obtain ⟨R0, R1, R2, R3, Rf0, Rf1, Rf2, Rf3, -⟩ := id R; obtain ⟨L0, L1, -, -, -⟩ := id L; clear hb))
      all_goals
        have RP := Lib.hid (R.put (.int .i64 (l)) (.int .i64 (u)) (.int .i64 (r1)) (.int .i64 (r2)))
        clear A0 A1 A2 A3 B0 B1 B2 B3
        go_wp2_with fail
        obtain ⟨z0, z1, z2, z3, -, -, -, -, -⟩ := RP.out
        refine bodyPost_ret (v := .tuple #[.agg #[.int .i64 (l), .int .i64 (u), .int .i64 (r1), .int .i64 (r2)], .int .i64 0]) (by simp [results, Tryd.results15, go_sem, z0, z1, z2, z3]) rfl ⟨rfl, ?_⟩
        exact below_set4 HB.out (by omega) _ _ _ _
theorem Tryd.infoArc : (Tryd.prog.info? 25).map (fun i => (i.zero, i.size, i.bytes)) = some (some (.agg #[.int .i64 0, .int .i64 0]), 2, 16) := by kernel_rfl
theorem own_keep {w w1 : World} {base n : Nat} {e : TypeId} {v : Value} {xs : List Value} (h : w.ownsRow base e 2 v n xs) (hb : Below w.heap.size w w1) : w1.ownsRow base e 2 v n xs := by
  obtain ⟨h1, h2⟩ := h
  refine ⟨h1, ?_⟩
  rcases h2 with h2 | ⟨g, cap, cur, a1, a2, a3, a4, a5, a6, a7⟩
  · exact .inl h2
  · refine .inr ⟨g, cap, cur, a1, a2, ?_, a4, a5, a6, a7⟩
    rw [hb.block g (Array.getElem?_eq_some_iff.1 a3).1]; exact a3
theorem slP_of_own {w : World} {base e n : Nat} {v : Value} {zs : List Ar} (h : w.ownsRow base e 2 v n (zs.flatMap encP)) : ∃ A c, v = .slice A n c ∧ SlP w A n zs := by
  obtain ⟨h1, h2⟩ := id h
  rw [flat_len] at h1
  rcases h2 with ⟨rfl, rfl⟩ | ⟨g, cap, cur, rfl, a2, a3, a4, a5, a6, a7⟩
  · obtain rfl : zs = [] := List.length_eq_zero_iff.1 (by omega)
    exact ⟨none, 0, rfl, slP_nil w⟩
  · obtain ⟨r1, r2⟩ := rowP_of_own h
    exact ⟨_, cap, rfl, r2, Nat.le_trans a4 a5, fun _ => ⟨g, 0, rfl, (Array.getElem?_eq_some_iff.1 a3).1, r1⟩⟩
theorem At2.grown {w w' : World} {b base n : Nat} {e : TypeId} {x y v : Value} {xs : List Value} (h : At2 w b x y) (hb : b < base) (hv : w.ownsRow base e 2 v n xs) (hg : w.grownBy w' v.ownBlock) : At2 w' b x y := by
  have hne : some b ≠ v.ownBlock := fun q => by have := (hv.lt b q.symm).1; omega
  have hk := hg.block b h.lt hne
  exact ⟨(World.cell?_of_block (w := w) (a := ⟨b, 0, none⟩) hk).trans h.c0, (World.cell?_of_block (w := w) (a := ⟨b, 1, none⟩) hk).trans h.c1, (World.frozen?_of_block (w := w) (a := ⟨b, 0, none⟩) hk).trans h.f0, (World.frozen?_of_block (w := w) (a := ⟨b, 1, none⟩) hk).trans h.f1, Nat.lt_of_lt_of_le h.lt hg.size⟩
/-- the pieces that are found in the first rounds -/
def partJ (a b c d : Int) : Nat → List Ar
  | 0 => []
  | j + 1 => partJ a b c d j ++ pcs a b c d ((j : Int) * 21600000 - 21600000)
theorem partJ_all (a b c d : Int) : partJ a b c d 3 = pieces a b c d := by
  unfold partJ partJ partJ partJ pieces
  simp
theorem partJ_len (a b c d : Int) : ∀ j, (partJ a b c d j).length ≤ j
  | 0 => Nat.le_refl _
  | j + 1 => by
    have := partJ_len a b c d j
    have e : (pcs a b c d ((j : Int) * 21600000 - 21600000)).length ≤ 1 := by unfold pcs; split <;> simp
    show (partJ a b c d j ++ _).length ≤ _
    rw [List.length_append]; omega
theorem partJ_yes {a b c d K : Int} {j : Nat} (hK : K = (j : Int) * 21600000 - 21600000) (h : a ≤ d + K ∧ c + K ≤ b) : partJ a b c d (j + 1) = partJ a b c d j ++ [(max a (c + K), min b (d + K))] := by
  show _ ++ pcs a b c d _ = _
  rw [← hK]; unfold pcs; rw [if_pos h]
theorem partJ_no {a b c d K : Int} {j : Nat} (hK : K = (j : Int) * 21600000 - 21600000) (h : ¬ (a ≤ d + K ∧ c + K ≤ b)) : partJ a b c d (j + 1) = partJ a b c d j := by
  show _ ++ pcs a b c d _ = _
  rw [← hK]; unfold pcs; rw [if_neg h, List.append_nil]
theorem meet_yes {a b c d : Int} (h : aok a b = true) (k : aok c d = true) (q : a ≤ d ∧ c ≤ b) : vA (aok a b && aok c d) (ameetR a b c d) = ⟨max a c, min b d, 0⟩ := by
  unfold vA ameetR ameets
  rw [h, k, Bool.and_self, if_pos rfl, if_pos (decide_eq_true q)]
theorem meet_no {a b c d : Int} (h : aok a b = true) (k : aok c d = true) (q : ¬ (a ≤ d ∧ c ≤ b)) : vA (aok a b && aok c d) (ameetR a b c d) = ⟨0, 0, 23⟩ := by
  unfold vA ameetR ameets
  rw [h, k, Bool.and_self, if_pos rfl, if_neg (by rw [decide_eq_true_iff]; exact q)]
theorem good_pieces {a b c d : Int} (h : lonOk a b = true) (k : lonOk c d = true) : GoodL (pieces a b c d) := by
  have h := lon_bd h
  have k := lon_bd k
  have one : ∀ k, GoodL (pcs a b c d k) := by
    intro k p hp
    unfold pcs at hp
    split at hp
    · rw [List.mem_singleton] at hp; subst hp; simp only; omega
    · exact absurd hp List.not_mem_nil
  intro p hp
  unfold pieces at hp
  rw [List.mem_append, List.mem_append] at hp
  rcases hp with hp | hp | hp
  · exact one _ p hp
  · exact one _ p hp
  · exact one _ p hp
theorem pieces_len (a b c d : Int) : (pieces a b c d).length ≤ 3 := by rw [← partJ_all]; exact partJ_len a b c d 3
theorem pAroundS (A : Option Addr) (n cap : Nat) (zs : List Ar) (w : World) (H : HasAll w) (hz : zs ≠ []) (hl : zs.length ≤ 3) (hg : GoodL zs) (hS : SlP w A n zs) :
    Calls Tryd.prog 34 #[.slice A n cap] w fun e w' => e = .returned (.agg #[.int .i64 (arnd zs).1, .int .i64 (arnd zs).2]) ∧ Below w.heap.size w w' := by
  have hn := hS.len
  have hp : 0 < n := by
    rcases Nat.eq_zero_or_pos n with h | h
    · exact absurd (List.length_eq_zero_iff.1 (by omega)) hz
    · exact h
  obtain ⟨b, off, rfl, hb, hr⟩ := hS.row hp
  exact pAround b off n cap zs w H hn (by omega) hg hb hr
/-- the place of the meet, or the error -/
def mtE (a b c d e f g h : Int) : Int := if (plOk a b c d && plOk e f g h) = true then (if (ameets a b e f && !(decide (pieces c d g h = []))) = true then 0 else 23) else 1
def mtV (a b c d e f g h : Int) : Value := if mtE a b c d e f g h = 0 then vPE (max a e) (min b f) (arnd (pieces c d g h)).1 (arnd (pieces c d g h)).2 0 else vPE 0 0 0 0 (mtE a b c d e f g h)
theorem pPlHull (a b c d e f g h : Int) (w : World) (H : HasAll w) :
    Calls Tryd.prog 15 #[.agg #[.int .i64 a, .int .i64 b, .int .i64 c, .int .i64 d], .agg #[.int .i64 e, .int .i64 f, .int .i64 g, .int .i64 h]] w fun r w' => r = .returned (if (plOk a b c d && plOk e f g h) = true then vPE (min a e) (max b f) (arnd [(c, d), (g, h)]).1 (arnd [(c, d), (g, h)]).2 0 else vPE 0 0 0 0 1) ∧ Below w.heap.size w w' := by
  refine hull_walk a b c d e f g h _ _ _ _ _ _ w H (Lib.hid fun wx Hx => pPlValid a b c d wx Hx) (Lib.hid fun wx Hx => pPlValid e f g h wx Hx) (Lib.hid fun h1 h2 wx => ?_) (Lib.hid fun h1 h2 q wx Hx N => ?_)
  · have k1 := lat_aok ((plOk_iff _ _ _ _).1 h1).1
    have k2 := lat_aok ((plOk_iff _ _ _ _).1 h2).1
    refine told _ _ _ ?_ (pHull a b e f wx)
    unfold vA ahullR
    rw [k1, k2, Bool.and_self, if_pos rfl]
  · exact pAround2 c d g h ((plOk_iff _ _ _ _).1 h1).2 ((plOk_iff _ _ _ _).1 h2).2 q wx Hx N
end Go.Proofs.YtndcjldnnfhedaaDoor
