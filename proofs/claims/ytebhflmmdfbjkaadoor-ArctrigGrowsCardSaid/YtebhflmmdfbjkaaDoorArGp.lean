/- ArctrigGrows: a part of an interval. -/
import Derived.Test.YtebhflmmdfbjkaaDoorArTv
namespace Go.Proofs.YtebhflmmdfbjkaaDoor
open Go.RowKit
set_option linter.unusedVariables false
set_option maxRecDepth 100000

theorem tmod_lt7 {x y : Int} (hx : 0 ≤ x) (hy : 0 < y) : 0 ≤ x.tmod y ∧ x.tmod y < y := ⟨Int.tmod_nonneg y hx, Int.tmod_lt_of_pos x hy⟩
set_option maxHeartbeats 1000000 in
theorem part7_any (a b lo hi x y w1 s t w2 : Int) (gl gh : Nat) (w : World) (h1 : -2147483648 ≤ a) (h2 : a ≤ b) (h3 : b ≤ 2147483648) (l1 : 0 ≤ lo) (l2 : lo ≤ 4294967295) (k1 : 0 ≤ hi) (k2 : hi ≤ 4294967295)
    (hw : b - a = w1) (hw1 : w1 + 1 = w2) (hs : lo.tmod w2 = s) (hx : a + s = x) (ht : hi.tmod (b - x + 1) = t) (hy : x + t = y)
    (GL : At1 w gl (.int .u32 lo)) (GH : At1 w gh (.int .u32 hi)) :
    Calls Tryd.prog 25 #[.agg #[.int .i64 a, .int .i64 b], .pointer (some ⟨gl, 0, none⟩), .pointer (some ⟨gh, 0, none⟩)] w fun e w' => e = .returned (.agg #[.int .i64 x, .int .i64 y]) ∧ Below w.heap.size w w' := by
  obtain ⟨s1, s2⟩ := tmod_lt7 (x := lo) (y := w2) l1 (by omega)
  obtain ⟨z, hz⟩ : ∃ z, b - x = z := ⟨_, rfl⟩
  obtain ⟨z1, hz1⟩ : ∃ z1, z + 1 = z1 := ⟨_, rfl⟩
  rw [hz, hz1] at ht
  obtain ⟨t1, t2⟩ := tmod_lt7 (x := hi) (y := z1) k1 (by omega)
  rw [hs] at s1 s2
  rw [ht] at t1 t2
  have zb : 0 < z1 := by omega
  have wb : 0 < w2 := by omega
  have zn : ¬ z1 = 0 := by omega
  have wn : ¬ w2 = 0 := by omega
  have c1 : IntKind.i64.wrap lo = lo := by rw [IntKind.wrap_i64]; omega
  have c2 : IntKind.i64.wrap hi = hi := by rw [IntKind.wrap_i64]; omega
  have x1 : -2147483648 ≤ x := by omega
  have x2 : x ≤ 2147483648 := by omega
  have y1 : -2147483648 ≤ y := by omega
  have y2 : y ≤ 2147483648 := by omega
  have v1 : IntKind.i64.wrap w1 = w1 := by rw [IntKind.wrap_i64]; omega
  have v2 : IntKind.i64.wrap w2 = w2 := by rw [IntKind.wrap_i64]; omega
  have v3 : IntKind.i64.wrap s = s := by rw [IntKind.wrap_i64]; omega
  have v4 : IntKind.i64.wrap x = x := by rw [IntKind.wrap_i64]; omega
  have v5 : IntKind.i64.wrap z = z := by rw [IntKind.wrap_i64]; omega
  have v6 : IntKind.i64.wrap z1 = z1 := by rw [IntKind.wrap_i64]; omega
  have v7 : IntKind.i64.wrap t = t := by rw [IntKind.wrap_i64]; omega
  have v8 : IntKind.i64.wrap y = y := by rw [IntKind.wrap_i64]; omega
  have wd := Lib.hid wb
  have zd := Lib.hid zb
  clear wb zb s1 s2 t1 t2
  obtain ⟨A, R⟩ := At2.two w (.int .i64 a) (.int .i64 b) (.int .i64 0) (.int .i64 0) 23 23
  have HB := Lib.hid (below2 w (.cells #[.int .i64 a, .int .i64 b] 23) (.cells #[.int .i64 0, .int .i64 0] 23))
  have L := (GL.alloc (.cells #[.int .i64 a, .int .i64 b] 23)).alloc (.cells #[.int .i64 0, .int .i64 0] 23)
  have H := (GH.alloc (.cells #[.int .i64 a, .int .i64 b] 23)).alloc (.cells #[.int .i64 0, .int .i64 0] 23)
  have L0 := L.c0
  have H0 := H.c0
  clear GL GH
  obtain ⟨A0, A1, -, -, -⟩ := id A
  obtain ⟨R0, R1, -, -, -⟩ := id R
  go_enter Tryd.func25, Tryd.ntmps25
  go_upto_region 2 with fail
  generalize ((w.alloc (.cells #[.int .i64 a, .int .i64 b] 23)).alloc (.cells #[.int .i64 0, .int .i64 0] 23)) = W at *
  go_cut [6] from 12 to 20 (fun v6 wx => ∃ gq : Nat, v6 = .pointer (some ⟨gq, 0, none⟩) ∧ Hid (w.heap.size ≤ gq) ∧ Hid (¬ w.heap.size = gq) ∧ Hid (¬ w.heap.size + 1 = gq) ∧ Hid (¬ gh = gq) ∧ Hid (At2 wx gq (.int .i64 x) (.int .i64 (0))) ∧ Hid (At2 wx w.heap.size (.int .i64 a) (.int .i64 b)) ∧ Hid (At2 wx (w.heap.size + 1) (.int .i64 0) (.int .i64 0)) ∧ Hid (At1 wx gl (.int .u32 lo)) ∧ Hid (At1 wx gh (.int .u32 hi)) ∧ Hid (Below w.heap.size w wx))
  case first =>
    have iAw : ¬ w.heap.size = W.heap.size := (by have := A.lt; omega)
    have oAw : ¬ W.heap.size = w.heap.size := (by have := A.lt; omega)
    have iRw : ¬ (w.heap.size + 1) = W.heap.size := (by have := R.lt; omega)
    have oRw : ¬ W.heap.size = (w.heap.size + 1) := (by have := R.lt; omega)
    have iLw : ¬ gl = W.heap.size := (by have := L.lt; omega)
    have oLw : ¬ W.heap.size = gl := (by have := L.lt; omega)
    have iHw : ¬ gh = W.heap.size := (by have := H.lt; omega)
    have oHw : ¬ W.heap.size = gh := (by have := H.lt; omega)
    have lw : w.heap.size ≤ W.heap.size := HB.out.size
    go_region_held3 (fun w' => w'.cell? ⟨w.heap.size, 0, none⟩ = some (.int .i64 a) ∧ w'.cell? ⟨w.heap.size, 1, none⟩ = some (.int .i64 b) ∧ w'.cell? ⟨(w.heap.size + 1), 0, none⟩ = some (.int .i64 0) ∧ w'.cell? ⟨(w.heap.size + 1), 1, none⟩ = some (.int .i64 0) ∧ w'.cell? ⟨gl, 0, none⟩ = some (.int .u32 lo) ∧ w'.cell? ⟨gh, 0, none⟩ = some (.int .u32 hi)) (go_keep)
      (fail)
    all_goals
      go_wp2_with fail
      go_meet
    all_goals
      first
      | (with_reducible exact ⟨_, rfl, Lib.hid lw, Lib.hid iAw, Lib.hid iRw, Lib.hid iHw, Lib.hid (At2.new _ _ _ 23), Lib.hid (A.alloc _), Lib.hid (R.alloc _), Lib.hid (L.alloc _), Lib.hid (H.alloc _), Lib.hid (bstep HB.out (below1 _ _))⟩)
      | (with_reducible exact ⟨_, rfl, Lib.hid lw, Lib.hid iAw, Lib.hid iRw, Lib.hid iHw, Lib.hid (At2.new _ _ _ 23).drq, Lib.hid (A.alloc _).drq, Lib.hid (R.alloc _).drq, Lib.hid (L.alloc _).drq, Lib.hid (H.alloc _).drq, Lib.hid (bstep HB.out (below1 _ _)).drew⟩)
  case rest =>
    obtain ⟨g, rfl, LG, NAg, NRg, NHg, Gh, Ah, Rh, Lh, Hh, HB'⟩ := hcut
    clear A0 A1 R0 R1 L0 H0 A R L H HB
    have A := Ah.out
    have R := Rh.out
    have H := Hh.out
    have G := Gh.out
    have HB := Lib.hid HB'.out
    clear Ah Rh Hh Gh HB' Lh
    obtain ⟨A0, A1, -, -, -⟩ := id A
    obtain ⟨G0, G1, G2, G3, -⟩ := id G
    have H0 := H.c0
    go_upto_region 3 with fail
    go_cut [] from 21 to 33 (fun wx => Hid (At2 wx g (.int .i64 x) (.int .i64 y)) ∧ Hid (At2 wx (w.heap.size + 1) (.int .i64 0) (.int .i64 0)) ∧ Hid (Below w.heap.size w wx))
    case first =>
      have lg : w.heap.size ≤ g := LG.out
      have iAg : ¬ w.heap.size = g := NAg.out
      have oAg : ¬ g = w.heap.size := fun h => NAg.out h.symm
      have iRg : ¬ w.heap.size + 1 = g := NRg.out
      have oRg : ¬ g = w.heap.size + 1 := fun h => NRg.out h.symm
      have iHg : ¬ gh = g := NHg.out
      have oHg : ¬ g = gh := fun h => NHg.out h.symm
      go_region
      all_goals
        go_wp2_with fail
        go_meet
      all_goals (with_reducible exact ⟨Lib.hid ((G.put1 _).drq), Lib.hid ((R.off (by assumption) _).drq), Lib.hid ((HB.out.setCell (by assumption) _).drew)⟩)
    case rest =>
      obtain ⟨Gh2, Rh2, HB2⟩ := hcut
      have iRg : ¬ w.heap.size + 1 = g := NRg.out
      have oRg : ¬ g = w.heap.size + 1 := fun h => NRg.out h.symm
      clear A0 A1 G0 G1 G2 G3 H0 A R H G HB
      have G := Gh2.out
      have R := Rh2.out
      have HB := Lib.hid HB2.out
      clear Gh2 Rh2 HB2
      obtain ⟨G0, G1, -, -, -⟩ := id G
      obtain ⟨R0, R1, R2, R3, -⟩ := id R
      go_wp2_with fail
      refine bodyPost_ret (v := .agg #[.int .i64 x, .int .i64 y]) (by simp [results, Tryd.results25, go_sem, R0, R1]) rfl ⟨rfl, ?_⟩
      exact below_set2 HB.out (Nat.le_succ _) _ _
end Go.Proofs.YtebhflmmdfbjkaaDoor
