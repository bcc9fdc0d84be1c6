/- Contract of ratio.Parse. -/
import Derived.Test.YtlcmnfhkicjclaaDoorTtG
import Derived.Lib.AppendIntMem
namespace Go.Proofs.YtlcmnfhkicjclaaDoor
open Go.RowKit
set_option linter.unusedVariables false

/-- the package variables that Cut and Atoi read lie there -/
def HasMax (w : World) : Prop := ∃ m : Int, w.cell? ⟨0, 0, none⟩ = some (.int .i64 m)
def HasErr (w : World) : Prop := (∃ ev, w.cell? ⟨1, 0, none⟩ = some ev ∧ (ev = .nilIface ∨ ∃ te pe, ev = .iface te pe)) ∧ (∃ ev, w.cell? ⟨2, 0, none⟩ = some ev ∧ (ev = .nilIface ∨ ∃ te pe, ev = .iface te pe))
theorem HasMax.below {w w' : World} (h : HasMax w) (hb : Below w.heap.size w w') : HasMax w' := by
  obtain ⟨m, hm⟩ := h
  exact ⟨m, (hb.cell (p := ⟨0, 0, none⟩) (World.block_lt_of_cell? _ _ hm)).trans hm⟩
theorem HasErr.below {w w' : World} (h : HasErr w) (hb : Below w.heap.size w w') : HasErr w' := by
  obtain ⟨⟨e1, h1, k1⟩, e2, h2, k2⟩ := h
  exact ⟨⟨e1, (hb.cell (p := ⟨1, 0, none⟩) (World.block_lt_of_cell? _ _ h1)).trans h1, k1⟩, e2, (hb.cell (p := ⟨2, 0, none⟩) (World.block_lt_of_cell? _ _ h2)).trans h2, k2⟩
theorem atoi_ok (s : ByteArray) (hs : s.size ≤ 1000000) (v : Int) (h : Lib.atoiAll s.data.toList = .ok v) (w : World) :
    Calls Tryd.prog 54 #[.string s] w fun e w' => e = .returned (.tuple #[.int .i64 v, .nilIface]) ∧ Below w.heap.size w w' :=
  (Tryd.strconv_Atoi_ok s (by omega) v h w).mono fun e w' ⟨he, hw⟩ => ⟨he, by
    rcases hw with rfl | ⟨t, rfl⟩
    · exact Below.refl _ _
    · exact Lib.bytesWorld_below _ _ _⟩
theorem atoi_err (s : ByteArray) (hs : s.size ≤ 1000000) (h : ∀ v, Lib.atoiAll s.data.toList ≠ .ok v) (w : World) (he : HasErr w) :
    Calls Tryd.prog 54 #[.string s] w fun e w' => ∃ v N, e = .returned (.tuple #[.int .i64 v, .iface 97 (.pointer (some ⟨N, 0, none⟩))]) ∧ Below w.heap.size w w' := by
  obtain ⟨⟨e1, h1, k1⟩, e2, h2, k2⟩ := he
  cases hq : Lib.atoiAll s.data.toList with
  | ok v => exact absurd hq (h v)
  | range => exact (Tryd.strconv_Atoi_range s (by omega) hq e2 w h2 k2).mono fun e w' ⟨N, he, _, _, hb⟩ => ⟨_, N, he, hb⟩
  | _ => exact (Tryd.strconv_Atoi_syntax s (by omega) ⟨h, fun e => by rw [hq] at e; cases e⟩ e1 w h1 k1).mono fun e w' ⟨N, he, _, _, hb⟩ => ⟨0, N, he, hb⟩
theorem cut_any (s : ByteArray) (hs : s.size ≤ 1000000) (w : World) (hm : HasMax w) :
    Calls Tryd.prog 53 #[.string s, .string ⟨#[47]⟩] w fun e w' => e = .returned (.tuple #[.string (ba (Lib.cut s.data.toList [47]).1), .string (ba (Lib.cut s.data.toList [47]).2.1), .bool (Lib.cut s.data.toList [47]).2.2]) ∧ Below w.heap.size w w' := by
  obtain ⟨m, hm⟩ := hm
  exact (Tryd.strings_Cut s ⟨#[47]⟩ m w (by omega) hm).mono fun e w' ⟨he, n, hw⟩ => ⟨he, hw ▸ below_drewN _ _ _⟩

/-- what the walk of Parse asks -/
structure PpC (w : World) (s U X L : ByteArray) (found : Bool) : Prop where
  cut : ∀ wx, Below w.heap.size w wx → Calls Tryd.prog 53 #[.string s, .string ⟨#[47]⟩] wx fun e w' => e = .returned (.tuple #[.string U, .string X, .bool found]) ∧ Below wx.heap.size wx w'
  low : (found = true ∧ L = X) ∨ (found = false ∧ L = ⟨#[49]⟩)

set_option maxRecDepth 100000 in
set_option maxHeartbeats 4000000 in
theorem pp_ee (s U X L : ByteArray) (found : Bool) (w : World) (C : PpC w s U X L found) (a1 : ∀ wx, Below w.heap.size w wx → Calls Tryd.prog 54 #[.string U] wx fun e w' => ∃ v N, e = .returned (.tuple #[.int .i64 v, .iface 97 (.pointer (some ⟨N, 0, none⟩))]) ∧ Below wx.heap.size wx w') (a2 : ∀ wx, Below w.heap.size w wx → Calls Tryd.prog 54 #[.string L] wx fun e w' => ∃ v N, e = .returned (.tuple #[.int .i64 v, .iface 97 (.pointer (some ⟨N, 0, none⟩))]) ∧ Below wx.heap.size wx w') :
    Calls Tryd.prog 37 #[.string s] w fun e w' => e = .returned (.tuple #[.agg #[.int .i64 0, .int .i64 0], .int .i64 7]) ∧ Below w.heap.size w w' := by
  have CC := Lib.hid C.cut
  have HL := Lib.hid C.low
  have A1 := Lib.hid a1
  have A2 := Lib.hid a2
  clear C a1 a2
  go_enter Tryd.func37, Tryd.ntmps37
  go_wp2_with fail
  refine (CC.out _ (below1 _ _)).mono ?_
  rintro e w1 ⟨rfl, hb⟩
  have Q := At2.of hb
  have HB := Lib.hid (alloc_below hb)
  clear hb
  rcases HL.out with ⟨e1, e2⟩ | ⟨e1, e2⟩
  · subst e1 e2
    go_wp2_with fail
    refine (A1.out _ HB.out).mono ?_
    rintro e w2 ⟨vew2, Nw2, rfl, hb⟩
    have Q := Q.keep hb
    have HB := Lib.hid (bstep HB.out hb)
    clear hb
    go_wp2_with fail
    refine (A2.out _ HB.out).mono ?_
    rintro e w3 ⟨vew3, Nw3, rfl, hb⟩
    have Q := Q.keep hb
    have HB := Lib.hid (bstep HB.out hb)
    clear hb
    obtain ⟨c0, c1, f0, f1, hz⟩ := Q
    obtain ⟨s0, s1⟩ := set2 c0 c1 (.int .i64 0) (.int .i64 0)
    go_wp2_with fail
    refine bodyPost_ret (v := .tuple #[.agg #[.int .i64 0, .int .i64 0], .int .i64 7]) (by simp [results, Tryd.results37, go_sem, s0, s1]) rfl ⟨rfl, ?_⟩
    exact below_set2 HB.out (Nat.le_refl _) _ _
  · subst e1 e2
    go_wp2_with fail
    refine (A1.out _ HB.out).mono ?_
    rintro e w2 ⟨vew2, Nw2, rfl, hb⟩
    have Q := Q.keep hb
    have HB := Lib.hid (bstep HB.out hb)
    clear hb
    go_wp2_with fail
    refine (A2.out _ HB.out).mono ?_
    rintro e w3 ⟨vew3, Nw3, rfl, hb⟩
    have Q := Q.keep hb
    have HB := Lib.hid (bstep HB.out hb)
    clear hb
    obtain ⟨c0, c1, f0, f1, hz⟩ := Q
    obtain ⟨s0, s1⟩ := set2 c0 c1 (.int .i64 0) (.int .i64 0)
    go_wp2_with fail
    refine bodyPost_ret (v := .tuple #[.agg #[.int .i64 0, .int .i64 0], .int .i64 7]) (by simp [results, Tryd.results37, go_sem, s0, s1]) rfl ⟨rfl, ?_⟩
    exact below_set2 HB.out (Nat.le_refl _) _ _

set_option maxRecDepth 100000 in
set_option maxHeartbeats 4000000 in
theorem pp_eo (s U X L : ByteArray) (found : Bool) (w : World) (C : PpC w s U X L found) (v : Int) (a1 : ∀ wx, Below w.heap.size w wx → Calls Tryd.prog 54 #[.string U] wx fun e w' => ∃ v N, e = .returned (.tuple #[.int .i64 v, .iface 97 (.pointer (some ⟨N, 0, none⟩))]) ∧ Below wx.heap.size wx w') (a2 : ∀ wx, Below w.heap.size w wx → Calls Tryd.prog 54 #[.string L] wx fun e w' => e = .returned (.tuple #[.int .i64 v, .nilIface]) ∧ Below wx.heap.size wx w') :
    Calls Tryd.prog 37 #[.string s] w fun e w' => e = .returned (.tuple #[.agg #[.int .i64 0, .int .i64 0], .int .i64 7]) ∧ Below w.heap.size w w' := by
  have CC := Lib.hid C.cut
  have HL := Lib.hid C.low
  have A1 := Lib.hid a1
  have A2 := Lib.hid a2
  clear C a1 a2
  go_enter Tryd.func37, Tryd.ntmps37
  go_wp2_with fail
  refine (CC.out _ (below1 _ _)).mono ?_
  rintro e w1 ⟨rfl, hb⟩
  have Q := At2.of hb
  have HB := Lib.hid (alloc_below hb)
  clear hb
  rcases HL.out with ⟨e1, e2⟩ | ⟨e1, e2⟩
  · subst e1 e2
    go_wp2_with fail
    refine (A1.out _ HB.out).mono ?_
    rintro e w2 ⟨vew2, Nw2, rfl, hb⟩
    have Q := Q.keep hb
    have HB := Lib.hid (bstep HB.out hb)
    clear hb
    go_wp2_with fail
    refine (A2.out _ HB.out).mono ?_
    rintro e w3 ⟨rfl, hb⟩
    have Q := Q.keep hb
    have HB := Lib.hid (bstep HB.out hb)
    clear hb
    obtain ⟨c0, c1, f0, f1, hz⟩ := Q
    obtain ⟨s0, s1⟩ := set2 c0 c1 (.int .i64 0) (.int .i64 0)
    go_wp2_with fail
    refine bodyPost_ret (v := .tuple #[.agg #[.int .i64 0, .int .i64 0], .int .i64 7]) (by simp [results, Tryd.results37, go_sem, s0, s1]) rfl ⟨rfl, ?_⟩
    exact below_set2 HB.out (Nat.le_refl _) _ _
  · subst e1 e2
    go_wp2_with fail
    refine (A1.out _ HB.out).mono ?_
    rintro e w2 ⟨vew2, Nw2, rfl, hb⟩
    have Q := Q.keep hb
    have HB := Lib.hid (bstep HB.out hb)
    clear hb
    go_wp2_with fail
    refine (A2.out _ HB.out).mono ?_
    rintro e w3 ⟨rfl, hb⟩
    have Q := Q.keep hb
    have HB := Lib.hid (bstep HB.out hb)
    clear hb
    obtain ⟨c0, c1, f0, f1, hz⟩ := Q
    obtain ⟨s0, s1⟩ := set2 c0 c1 (.int .i64 0) (.int .i64 0)
    go_wp2_with fail
    refine bodyPost_ret (v := .tuple #[.agg #[.int .i64 0, .int .i64 0], .int .i64 7]) (by simp [results, Tryd.results37, go_sem, s0, s1]) rfl ⟨rfl, ?_⟩
    exact below_set2 HB.out (Nat.le_refl _) _ _

set_option maxRecDepth 100000 in
set_option maxHeartbeats 4000000 in
theorem pp_oe (s U X L : ByteArray) (found : Bool) (w : World) (C : PpC w s U X L found) (u : Int) (a1 : ∀ wx, Below w.heap.size w wx → Calls Tryd.prog 54 #[.string U] wx fun e w' => e = .returned (.tuple #[.int .i64 u, .nilIface]) ∧ Below wx.heap.size wx w') (a2 : ∀ wx, Below w.heap.size w wx → Calls Tryd.prog 54 #[.string L] wx fun e w' => ∃ v N, e = .returned (.tuple #[.int .i64 v, .iface 97 (.pointer (some ⟨N, 0, none⟩))]) ∧ Below wx.heap.size wx w') :
    Calls Tryd.prog 37 #[.string s] w fun e w' => e = .returned (.tuple #[.agg #[.int .i64 0, .int .i64 0], .int .i64 7]) ∧ Below w.heap.size w w' := by
  have CC := Lib.hid C.cut
  have HL := Lib.hid C.low
  have A1 := Lib.hid a1
  have A2 := Lib.hid a2
  clear C a1 a2
  go_enter Tryd.func37, Tryd.ntmps37
  go_wp2_with fail
  refine (CC.out _ (below1 _ _)).mono ?_
  rintro e w1 ⟨rfl, hb⟩
  have Q := At2.of hb
  have HB := Lib.hid (alloc_below hb)
  clear hb
  rcases HL.out with ⟨e1, e2⟩ | ⟨e1, e2⟩
  · subst e1 e2
    go_wp2_with fail
    refine (A1.out _ HB.out).mono ?_
    rintro e w2 ⟨rfl, hb⟩
    have Q := Q.keep hb
    have HB := Lib.hid (bstep HB.out hb)
    clear hb
    go_wp2_with fail
    refine (A2.out _ HB.out).mono ?_
    rintro e w3 ⟨vew3, Nw3, rfl, hb⟩
    have Q := Q.keep hb
    have HB := Lib.hid (bstep HB.out hb)
    clear hb
    obtain ⟨c0, c1, f0, f1, hz⟩ := Q
    obtain ⟨s0, s1⟩ := set2 c0 c1 (.int .i64 0) (.int .i64 0)
    go_wp2_with fail
    refine bodyPost_ret (v := .tuple #[.agg #[.int .i64 0, .int .i64 0], .int .i64 7]) (by simp [results, Tryd.results37, go_sem, s0, s1]) rfl ⟨rfl, ?_⟩
    exact below_set2 HB.out (Nat.le_refl _) _ _
  · subst e1 e2
    go_wp2_with fail
    refine (A1.out _ HB.out).mono ?_
    rintro e w2 ⟨rfl, hb⟩
    have Q := Q.keep hb
    have HB := Lib.hid (bstep HB.out hb)
    clear hb
    go_wp2_with fail
    refine (A2.out _ HB.out).mono ?_
    rintro e w3 ⟨vew3, Nw3, rfl, hb⟩
    have Q := Q.keep hb
    have HB := Lib.hid (bstep HB.out hb)
    clear hb
    obtain ⟨c0, c1, f0, f1, hz⟩ := Q
    obtain ⟨s0, s1⟩ := set2 c0 c1 (.int .i64 0) (.int .i64 0)
    go_wp2_with fail
    refine bodyPost_ret (v := .tuple #[.agg #[.int .i64 0, .int .i64 0], .int .i64 7]) (by simp [results, Tryd.results37, go_sem, s0, s1]) rfl ⟨rfl, ?_⟩
    exact below_set2 HB.out (Nat.le_refl _) _ _

set_option maxRecDepth 100000 in
set_option maxHeartbeats 4000000 in
theorem pp_bad (s U X L : ByteArray) (found : Bool) (w : World) (C : PpC w s U X L found) (u v : Int) (a1 : ∀ wx, Below w.heap.size w wx → Calls Tryd.prog 54 #[.string U] wx fun e w' => e = .returned (.tuple #[.int .i64 u, .nilIface]) ∧ Below wx.heap.size wx w') (a2 : ∀ wx, Below w.heap.size w wx → Calls Tryd.prog 54 #[.string L] wx fun e w' => e = .returned (.tuple #[.int .i64 v, .nilIface]) ∧ Below wx.heap.size wx w') (t1 : ∀ wx, Below w.heap.size w wx → Calls Tryd.prog 39 #[.agg #[.int .i64 u, .int .i64 v]] wx fun e w' => e = .returned (.tuple #[.string (ba []), .int .i64 1]) ∧ Below wx.heap.size wx w') :
    Calls Tryd.prog 37 #[.string s] w fun e w' => e = .returned (.tuple #[.agg #[.int .i64 0, .int .i64 0], .int .i64 7]) ∧ Below w.heap.size w w' := by
  have CC := Lib.hid C.cut
  have HL := Lib.hid C.low
  have A1 := Lib.hid a1
  have A2 := Lib.hid a2
  have T1 := Lib.hid t1
  clear C a1 a2 t1
  go_enter Tryd.func37, Tryd.ntmps37
  go_wp2_with fail
  refine (CC.out _ (below1 _ _)).mono ?_
  rintro e w1 ⟨rfl, hb⟩
  have Q := At2.of hb
  have HB := Lib.hid (alloc_below hb)
  clear hb
  rcases HL.out with ⟨e1, e2⟩ | ⟨e1, e2⟩
  · subst e1 e2
    go_wp2_with fail
    refine (A1.out _ HB.out).mono ?_
    rintro e w2 ⟨rfl, hb⟩
    have Q := Q.keep hb
    have HB := Lib.hid (bstep HB.out hb)
    clear hb
    go_wp2_with fail
    refine (A2.out _ HB.out).mono ?_
    rintro e w3 ⟨rfl, hb⟩
    have Q := Q.keep hb
    have HB := Lib.hid (bstep HB.out hb)
    clear hb
    have B := At2.new w3 (.int .i64 u) (.int .i64 v) 24
    have Q := Q.alloc (.cells #[.int .i64 u, .int .i64 v] 24)
    have HB := Lib.hid (bstep HB.out (below1 w3 (.cells #[.int .i64 u, .int .i64 v] 24)))
    go_wp2_with fail
    refine (T1.out _ HB.out).mono ?_
    rintro e w4 ⟨rfl, hb⟩
    have Q := Q.keep hb
    have B := B.keep hb
    have HB := Lib.hid (bstep HB.out hb)
    clear hb
    obtain ⟨b0, b1, _, _, _⟩ := id B
    obtain ⟨c0, c1, f0, f1, hz⟩ := Q
    obtain ⟨s0, s1⟩ := set2 c0 c1 (.int .i64 0) (.int .i64 0)
    go_wp2_with fail
    refine bodyPost_ret (v := .tuple #[.agg #[.int .i64 0, .int .i64 0], .int .i64 7]) (by simp [results, Tryd.results37, go_sem, s0, s1]) rfl ⟨rfl, ?_⟩
    exact below_set2 HB.out (Nat.le_refl _) _ _
  · subst e1 e2
    go_wp2_with fail
    refine (A1.out _ HB.out).mono ?_
    rintro e w2 ⟨rfl, hb⟩
    have Q := Q.keep hb
    have HB := Lib.hid (bstep HB.out hb)
    clear hb
    go_wp2_with fail
    refine (A2.out _ HB.out).mono ?_
    rintro e w3 ⟨rfl, hb⟩
    have Q := Q.keep hb
    have HB := Lib.hid (bstep HB.out hb)
    clear hb
    have B := At2.new w3 (.int .i64 u) (.int .i64 v) 24
    have Q := Q.alloc (.cells #[.int .i64 u, .int .i64 v] 24)
    have HB := Lib.hid (bstep HB.out (below1 w3 (.cells #[.int .i64 u, .int .i64 v] 24)))
    go_wp2_with fail
    refine (T1.out _ HB.out).mono ?_
    rintro e w4 ⟨rfl, hb⟩
    have Q := Q.keep hb
    have B := B.keep hb
    have HB := Lib.hid (bstep HB.out hb)
    clear hb
    obtain ⟨b0, b1, _, _, _⟩ := id B
    obtain ⟨c0, c1, f0, f1, hz⟩ := Q
    obtain ⟨s0, s1⟩ := set2 c0 c1 (.int .i64 0) (.int .i64 0)
    go_wp2_with fail
    refine bodyPost_ret (v := .tuple #[.agg #[.int .i64 0, .int .i64 0], .int .i64 7]) (by simp [results, Tryd.results37, go_sem, s0, s1]) rfl ⟨rfl, ?_⟩
    exact below_set2 HB.out (Nat.le_refl _) _ _

set_option maxRecDepth 100000 in
set_option maxHeartbeats 4000000 in
theorem pp_ne (s U X L : ByteArray) (found : Bool) (w : World) (C : PpC w s U X L found) (u v : Int) (R : ByteArray) (sz : R.size ≤ 100) (hne : R ≠ s) (a1 : ∀ wx, Below w.heap.size w wx → Calls Tryd.prog 54 #[.string U] wx fun e w' => e = .returned (.tuple #[.int .i64 u, .nilIface]) ∧ Below wx.heap.size wx w') (a2 : ∀ wx, Below w.heap.size w wx → Calls Tryd.prog 54 #[.string L] wx fun e w' => e = .returned (.tuple #[.int .i64 v, .nilIface]) ∧ Below wx.heap.size wx w') (t1 : ∀ wx, Below w.heap.size w wx → Calls Tryd.prog 39 #[.agg #[.int .i64 u, .int .i64 v]] wx fun e w' => e = .returned (.tuple #[.string R, .int .i64 0]) ∧ Below wx.heap.size wx w') :
    Calls Tryd.prog 37 #[.string s] w fun e w' => e = .returned (.tuple #[.agg #[.int .i64 0, .int .i64 0], .int .i64 7]) ∧ Below w.heap.size w w' := by
  have CC := Lib.hid C.cut
  have HL := Lib.hid C.low
  have A1 := Lib.hid a1
  have A2 := Lib.hid a2
  have T1 := Lib.hid t1
  clear C a1 a2 t1
  have tne := str_ne hne
  clear hne
  go_enter Tryd.func37, Tryd.ntmps37
  go_wp2_with fail
  refine (CC.out _ (below1 _ _)).mono ?_
  rintro e w1 ⟨rfl, hb⟩
  have Q := At2.of hb
  have HB := Lib.hid (alloc_below hb)
  clear hb
  rcases HL.out with ⟨e1, e2⟩ | ⟨e1, e2⟩
  · subst e1 e2
    go_wp2_with fail
    refine (A1.out _ HB.out).mono ?_
    rintro e w2 ⟨rfl, hb⟩
    have Q := Q.keep hb
    have HB := Lib.hid (bstep HB.out hb)
    clear hb
    go_wp2_with fail
    refine (A2.out _ HB.out).mono ?_
    rintro e w3 ⟨rfl, hb⟩
    have Q := Q.keep hb
    have HB := Lib.hid (bstep HB.out hb)
    clear hb
    have B := At2.new w3 (.int .i64 u) (.int .i64 v) 24
    have Q := Q.alloc (.cells #[.int .i64 u, .int .i64 v] 24)
    have HB := Lib.hid (bstep HB.out (below1 w3 (.cells #[.int .i64 u, .int .i64 v] 24)))
    go_wp2_with fail
    refine (T1.out _ HB.out).mono ?_
    rintro e w4 ⟨rfl, hb⟩
    have Q := Q.keep hb
    have B := B.keep hb
    have HB := Lib.hid (bstep HB.out hb)
    clear hb
    obtain ⟨b0, b1, _, _, _⟩ := id B
    obtain ⟨c0, c1, f0, f1, hz⟩ := Q
    obtain ⟨s0, s1⟩ := set2 c0 c1 (.int .i64 0) (.int .i64 0)
    go_wp2_with fail
    refine bodyPost_ret (v := .tuple #[.agg #[.int .i64 0, .int .i64 0], .int .i64 7]) (by simp [results, Tryd.results37, go_sem, s0, s1]) rfl ⟨rfl, ?_⟩
    exact below_set2 HB.out (Nat.le_refl _) _ _
  · subst e1 e2
    go_wp2_with fail
    refine (A1.out _ HB.out).mono ?_
    rintro e w2 ⟨rfl, hb⟩
    have Q := Q.keep hb
    have HB := Lib.hid (bstep HB.out hb)
    clear hb
    go_wp2_with fail
    refine (A2.out _ HB.out).mono ?_
    rintro e w3 ⟨rfl, hb⟩
    have Q := Q.keep hb
    have HB := Lib.hid (bstep HB.out hb)
    clear hb
    have B := At2.new w3 (.int .i64 u) (.int .i64 v) 24
    have Q := Q.alloc (.cells #[.int .i64 u, .int .i64 v] 24)
    have HB := Lib.hid (bstep HB.out (below1 w3 (.cells #[.int .i64 u, .int .i64 v] 24)))
    go_wp2_with fail
    refine (T1.out _ HB.out).mono ?_
    rintro e w4 ⟨rfl, hb⟩
    have Q := Q.keep hb
    have B := B.keep hb
    have HB := Lib.hid (bstep HB.out hb)
    clear hb
    obtain ⟨b0, b1, _, _, _⟩ := id B
    obtain ⟨c0, c1, f0, f1, hz⟩ := Q
    obtain ⟨s0, s1⟩ := set2 c0 c1 (.int .i64 0) (.int .i64 0)
    go_wp2_with fail
    refine bodyPost_ret (v := .tuple #[.agg #[.int .i64 0, .int .i64 0], .int .i64 7]) (by simp [results, Tryd.results37, go_sem, s0, s1]) rfl ⟨rfl, ?_⟩
    exact below_set2 HB.out (Nat.le_refl _) _ _

set_option maxRecDepth 100000 in
set_option maxHeartbeats 4000000 in
theorem pp_yes (s U X L : ByteArray) (found : Bool) (w : World) (C : PpC w s U X L found) (u v : Int) (sz : s.size ≤ 100) (a1 : ∀ wx, Below w.heap.size w wx → Calls Tryd.prog 54 #[.string U] wx fun e w' => e = .returned (.tuple #[.int .i64 u, .nilIface]) ∧ Below wx.heap.size wx w') (a2 : ∀ wx, Below w.heap.size w wx → Calls Tryd.prog 54 #[.string L] wx fun e w' => e = .returned (.tuple #[.int .i64 v, .nilIface]) ∧ Below wx.heap.size wx w') (t1 : ∀ wx, Below w.heap.size w wx → Calls Tryd.prog 39 #[.agg #[.int .i64 u, .int .i64 v]] wx fun e w' => e = .returned (.tuple #[.string s, .int .i64 0]) ∧ Below wx.heap.size wx w') :
    Calls Tryd.prog 37 #[.string s] w fun e w' => e = .returned (.tuple #[.agg #[.int .i64 u, .int .i64 v], .int .i64 0]) ∧ Below w.heap.size w w' := by
  have CC := Lib.hid C.cut
  have HL := Lib.hid C.low
  have A1 := Lib.hid a1
  have A2 := Lib.hid a2
  have T1 := Lib.hid t1
  clear C a1 a2 t1
  go_enter Tryd.func37, Tryd.ntmps37
  go_wp2_with fail
  refine (CC.out _ (below1 _ _)).mono ?_
  rintro e w1 ⟨rfl, hb⟩
  have Q := At2.of hb
  have HB := Lib.hid (alloc_below hb)
  clear hb
  rcases HL.out with ⟨e1, e2⟩ | ⟨e1, e2⟩
  · subst e1 e2
    go_wp2_with fail
    refine (A1.out _ HB.out).mono ?_
    rintro e w2 ⟨rfl, hb⟩
    have Q := Q.keep hb
    have HB := Lib.hid (bstep HB.out hb)
    clear hb
    go_wp2_with fail
    refine (A2.out _ HB.out).mono ?_
    rintro e w3 ⟨rfl, hb⟩
    have Q := Q.keep hb
    have HB := Lib.hid (bstep HB.out hb)
    clear hb
    have B := At2.new w3 (.int .i64 u) (.int .i64 v) 24
    have Q := Q.alloc (.cells #[.int .i64 u, .int .i64 v] 24)
    have HB := Lib.hid (bstep HB.out (below1 w3 (.cells #[.int .i64 u, .int .i64 v] 24)))
    go_wp2_with fail
    refine (T1.out _ HB.out).mono ?_
    rintro e w4 ⟨rfl, hb⟩
    have Q := Q.keep hb
    have B := B.keep hb
    have HB := Lib.hid (bstep HB.out hb)
    clear hb
    obtain ⟨b0, b1, _, _, _⟩ := id B
    obtain ⟨c0, c1, f0, f1, hz⟩ := Q
    obtain ⟨s0, s1⟩ := set2 c0 c1 (.int .i64 u) (.int .i64 v)
    go_wp2_with fail
    refine bodyPost_ret (v := .tuple #[.agg #[.int .i64 u, .int .i64 v], .int .i64 0]) (by simp [results, Tryd.results37, go_sem, s0, s1]) rfl ⟨rfl, ?_⟩
    exact below_set2 HB.out (Nat.le_refl _) _ _
  · subst e1 e2
    go_wp2_with fail
    refine (A1.out _ HB.out).mono ?_
    rintro e w2 ⟨rfl, hb⟩
    have Q := Q.keep hb
    have HB := Lib.hid (bstep HB.out hb)
    clear hb
    go_wp2_with fail
    refine (A2.out _ HB.out).mono ?_
    rintro e w3 ⟨rfl, hb⟩
    have Q := Q.keep hb
    have HB := Lib.hid (bstep HB.out hb)
    clear hb
    have B := At2.new w3 (.int .i64 u) (.int .i64 v) 24
    have Q := Q.alloc (.cells #[.int .i64 u, .int .i64 v] 24)
    have HB := Lib.hid (bstep HB.out (below1 w3 (.cells #[.int .i64 u, .int .i64 v] 24)))
    go_wp2_with fail
    refine (T1.out _ HB.out).mono ?_
    rintro e w4 ⟨rfl, hb⟩
    have Q := Q.keep hb
    have B := B.keep hb
    have HB := Lib.hid (bstep HB.out hb)
    clear hb
    obtain ⟨b0, b1, _, _, _⟩ := id B
    obtain ⟨c0, c1, f0, f1, hz⟩ := Q
    obtain ⟨s0, s1⟩ := set2 c0 c1 (.int .i64 u) (.int .i64 v)
    go_wp2_with fail
    refine bodyPost_ret (v := .tuple #[.agg #[.int .i64 u, .int .i64 v], .int .i64 0]) (by simp [results, Tryd.results37, go_sem, s0, s1]) rfl ⟨rfl, ?_⟩
    exact below_set2 HB.out (Nat.le_refl _) _ _

theorem ppC (s : ByteArray) (hs : s.size ≤ 1000000) (w : World) (hm : HasMax w) : PpC w s (ba (prU s.data.toList)) (ba (Lib.cut s.data.toList [47]).2.1) (ba (prL s.data.toList)) (Lib.cut s.data.toList [47]).2.2 := by
  refine ⟨fun wx hb => cut_any s hs wx (hm.below hb), ?_⟩
  unfold prL
  cases h : (Lib.cut s.data.toList [47]).2.2
  · exact Or.inr ⟨rfl, rfl⟩
  · exact Or.inl ⟨rfl, rfl⟩
theorem cut_len2 (l : List UInt8) : (Lib.cut l [47]).1.length + (Lib.cut l [47]).2.1.length ≤ l.length := by
  unfold Lib.cut; split
  · simp; omega
  · simp
theorem prU_len (l : List UInt8) : (prU l).length ≤ l.length := by have := cut_len2 l; unfold prU; omega
theorem prL_len (l : List UInt8) : (prL l).length ≤ l.length + 1 := by
  have := cut_len2 l
  unfold prL
  split
  · omega
  · simp
theorem parse_yes (n d : Int) (w : World) (hk : rok n d = true) (hm : HasMax w) (htab : Lib.TabIs Tryd.prog w "internal/strconv.uint64pow10" .u64 Lib.pow10Tab) :
    Calls Tryd.prog 37 #[.string (ba (rtx n d))] w fun e w' => e = .returned (.tuple #[.agg #[.int .i64 n, .int .i64 d], .int .i64 0]) ∧ Below w.heap.size w w' := by
  obtain ⟨k1, k2, k3, k4, -⟩ := (rok_iff _ _).1 hk
  have hl := rtx_len n d k1 k2 k3 k4
  have hsz : (ba (rtx n d)).size ≤ 100 := by rw [ba_size]; exact hl
  obtain ⟨p1, p2⟩ := rtx_parts n d k1 k2 k3 k4
  have hC := ppC (ba (rtx n d)) (by omega) w hm
  have q1 := prU_len (rtx n d)
  have q2 := prL_len (rtx n d)
  refine pp_yes _ _ _ _ _ w hC n d hsz (fun wx hb => atoi_ok _ (by rw [ba_size, ba_toList]; omega) n (by rw [ba_toList, ba_toList]; exact p1) wx) (fun wx hb => atoi_ok _ (by rw [ba_size, ba_toList]; omega) d (by rw [ba_toList, ba_toList]; exact p2) wx) (fun wx hb => text_ok n d wx hk (Lib.tabBelow_of_tabIs htab wx hb))
theorem parse_no (s : ByteArray) (w : World) (hs : s.size ≤ 900000) (hno : ∀ n d, rok n d = true → ba (rtx n d) ≠ s) (hm : HasMax w) (he : HasErr w) (htab : Lib.TabIs Tryd.prog w "internal/strconv.uint64pow10" .u64 Lib.pow10Tab) :
    Calls Tryd.prog 37 #[.string s] w fun e w' => e = .returned (.tuple #[.agg #[.int .i64 0, .int .i64 0], .int .i64 7]) ∧ Below w.heap.size w w' := by
  have hC := ppC s (by omega) w hm
  have hl : s.data.toList.length = s.size := by simp
  have q1 := prU_len s.data.toList
  have q2 := prL_len s.data.toList
  have s1 : (ba (prU s.data.toList)).size ≤ 1000000 := by rw [ba_size]; omega
  have s2 : (ba (prL s.data.toList)).size ≤ 1000000 := by rw [ba_size]; omega
  by_cases h1 : ∃ u, Lib.atoiAll (ba (prU s.data.toList)).data.toList = .ok u
  · obtain ⟨u, h1⟩ := h1
    by_cases h2 : ∃ v, Lib.atoiAll (ba (prL s.data.toList)).data.toList = .ok v
    · obtain ⟨v, h2⟩ := h2
      cases hk : rok u v
      · exact pp_bad _ _ _ _ _ w hC u v (fun wx hb => atoi_ok _ s1 u h1 wx) (fun wx hb => atoi_ok _ s2 v h2 wx) (fun wx hb => text_bad u v wx hk)
      · obtain ⟨k1, k2, k3, k4, -⟩ := (rok_iff _ _).1 hk
        exact pp_ne _ _ _ _ _ w hC u v (ba (rtx u v)) (by rw [ba_size]; exact rtx_len u v k1 k2 k3 k4) (hno u v hk) (fun wx hb => atoi_ok _ s1 u h1 wx) (fun wx hb => atoi_ok _ s2 v h2 wx) (fun wx hb => text_ok u v wx hk (Lib.tabBelow_of_tabIs htab wx hb))
    · exact pp_oe _ _ _ _ _ w hC u (fun wx hb => atoi_ok _ s1 u h1 wx) (fun wx hb => atoi_err _ s2 (fun v hv => h2 ⟨v, hv⟩) wx (he.below hb))
  · by_cases h2 : ∃ v, Lib.atoiAll (ba (prL s.data.toList)).data.toList = .ok v
    · obtain ⟨v, h2⟩ := h2
      exact pp_eo _ _ _ _ _ w hC v (fun wx hb => atoi_err _ s1 (fun v hv => h1 ⟨v, hv⟩) wx (he.below hb)) (fun wx hb => atoi_ok _ s2 v h2 wx)
    · exact pp_ee _ _ _ _ _ w hC (fun wx hb => atoi_err _ s1 (fun v hv => h1 ⟨v, hv⟩) wx (he.below hb)) (fun wx hb => atoi_err _ s2 (fun v hv => h2 ⟨v, hv⟩) wx (he.below hb))
end Go.Proofs.YtlcmnfhkicjclaaDoor
