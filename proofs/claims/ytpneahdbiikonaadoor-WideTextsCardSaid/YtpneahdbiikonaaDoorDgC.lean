/- Contract of the reference's OfInt. -/
import Derived.Test.YtpneahdbiikonaaDoorDgB
namespace Go.Proofs.YtpneahdbiikonaaDoor
open Go.RowKit
set_option linter.unusedVariables false

/-- what a function that returns a number leaves behind -/
def RetN (w : World) (L : List Nat) (g : Bool) (e : Ending) (w' : World) : Prop := ∃ A n c, e = .returned (.agg #[.slice A n c, .bool g]) ∧ Dig w' A n c L ∧ Fr w A ∧ Below w.heap.size w w'

/-- a struct of two fields lies in block b -/
structure Bl2 (w : World) (b : Nat) (x y : Value) : Prop where
  c0 : w.cell? ⟨b, 0, none⟩ = some x
  c1 : w.cell? ⟨b, 1, none⟩ = some y
  f0 : w.frozen? ⟨b, 0, none⟩ = false
  f1 : w.frozen? ⟨b, 1, none⟩ = false
  lt : b < w.heap.size
theorem Bl2.keep {w w1 : World} {b : Nat} {x y : Value} (h : Bl2 w b x y) (hb : Below w.heap.size w w1) : Bl2 w1 b x y :=
  ⟨(hb.cell (p := ⟨b, 0, none⟩) h.lt).trans h.c0, (hb.cell (p := ⟨b, 1, none⟩) h.lt).trans h.c1, (hb.frozen (p := ⟨b, 0, none⟩) h.lt).trans h.f0, (hb.frozen (p := ⟨b, 1, none⟩) h.lt).trans h.f1, Nat.lt_of_lt_of_le h.lt hb.size⟩
theorem Bl2.grown {w w1 : World} {b : Nat} {x y : Value} {row : Option Nat} (h : Bl2 w b x y) (hg : w.grownBy w1 row) (hr : some b ≠ row) : Bl2 w1 b x y :=
  ⟨(hg.cell_far ⟨b, 0, none⟩ h.lt hr).trans h.c0, (hg.cell_far ⟨b, 1, none⟩ h.lt hr).trans h.c1, (hg.frozen_far ⟨b, 0, none⟩ h.lt hr).trans h.f0, (hg.frozen_far ⟨b, 1, none⟩ h.lt hr).trans h.f1,
   Nat.lt_of_lt_of_le h.lt hg.size⟩
theorem Bl2.alloc {w : World} {b : Nat} {x y : Value} (h : Bl2 w b x y) (o : Obj) : Bl2 (w.alloc o) b x y := h.keep ((Below.refl _ _).alloc (Nat.le_refl _) o)
theorem Bl2.new (w : World) (x y : Value) (T : Nat) : Bl2 (w.alloc (.cells #[x, y] T)) w.heap.size x y :=
  ⟨by rw [World.cell?_alloc_new]; rfl, by rw [World.cell?_alloc_new]; rfl, by go_simp, by go_simp, by simp⟩
theorem Bl2.set0 {w : World} {b : Nat} {x y : Value} (h : Bl2 w b x y) (u : Value) : Bl2 (w.setCell ⟨b, 0, none⟩ u) b u y :=
  ⟨World.cell?_setCell_same _ _ _ h.c0, (World.cell?_setCell_other w _ _ u (by simp)).trans h.c1, by have := h.f0; go_simp, by have := h.f1; go_simp, by simpa using h.lt⟩
theorem Bl2.set1 {w : World} {b : Nat} {x y : Value} (h : Bl2 w b x y) (u : Value) : Bl2 (w.setCell ⟨b, 1, none⟩ u) b x u :=
  ⟨(World.cell?_setCell_other w _ _ u (by simp)).trans h.c0, World.cell?_setCell_same _ _ _ h.c1, by have := h.f0; go_simp, by have := h.f1; go_simp, by simpa using h.lt⟩
theorem Bl2.far {w : World} {b : Nat} {x y : Value} (h : Bl2 w b x y) (p : Addr) (hp : p.block ≠ b) (u : Value) : Bl2 (w.setCell p u) b x y :=
  ⟨(World.cell?_setCell_other w _ _ u (fun e => hp (by rw [e]))).trans h.c0, (World.cell?_setCell_other w _ _ u (fun e => hp (by rw [e]))).trans h.c1, by have := h.f0; go_simp, by have := h.f1; go_simp, by simpa using h.lt⟩
structure OfI (w : World) (N0 N : Nat) (g : Bool) (O : List Nat) (wr : World) : Prop where
  eq : O ++ dgs N = dgs N0
  num : ∃ v, Bl2 wr (w.heap.size + 1) v (.bool g) ∧ wr.ownsRow (w.heap.size + 2) 3 1 v O.length (O.map dv)
  res : ∃ x y, Bl2 wr w.heap.size x y
  bel : Below w.heap.size w wr

theorem OfI.start (w : World) (N : Nat) (g : Bool) (x y : Value) (T T' : Nat) : OfI w N N g [] ((w.alloc (.cells #[x, y] T)).alloc (.cells #[.slice none 0 0, .bool g] T')) := by
  have h := Bl2.new (w.alloc (.cells #[x, y] T)) (.slice none 0 0) (.bool g) T'
  simp at h
  exact ⟨rfl, ⟨_, h, World.ownsRow_nil _ _ _ _⟩, ⟨_, _, (Bl2.new w _ _ _).alloc _⟩, ((Below.refl _ _).alloc (Nat.le_refl _) _).alloc (by simp) _⟩
theorem OfI.step {w wr w2 : World} {N0 N : Nat} {g : Bool} {O : List Nat} {u v : Value} {o : Obj} (h : OfI w N0 N g O wr) (hz : N ≠ 0) (A : Bl2 wr (w.heap.size + 1) u (.bool g)) (hu : wr.ownsRow (w.heap.size + 2) 3 1 u O.length (O.map dv))
    (hown : w2.ownsRow (w.heap.size + 2) 3 1 v (O.length + 1) (O.map dv ++ [dv (N % 268435456)])) (hgrow : (wr.alloc o).grownBy w2 u.ownBlock) :
    OfI w N0 (N / 268435456) g (O ++ [N % 268435456]) (w2.setCell ⟨w.heap.size + 1, 0, none⟩ v) := by
  obtain ⟨x, y, R⟩ := h.res
  have r1 : some (w.heap.size + 1) ≠ u.ownBlock := fun e => by have := (hu.lt _ e.symm).1; omega
  have r0 : some w.heap.size ≠ u.ownBlock := fun e => by have := (hu.lt _ e.symm).1; omega
  have A2 := (A.alloc o).grown hgrow r1
  have R2 := (R.alloc o).grown hgrow r0
  have hsz := h.bel.size
  have ow : w2.ownsRow (w.heap.size + 2) 3 1 v (O ++ [N % 268435456]).length ((O ++ [N % 268435456]).map dv) := by simpa using hown
  have hsz2 : w.heap.size ≤ (wr.alloc o).heap.size := (h.bel.alloc hsz o).size
  refine ⟨?_, ⟨v, A2.set0 v, ownsRow_setCell_below ow (by show w.heap.size + 1 < _; omega) v⟩, ⟨x, y, R2.far ⟨w.heap.size + 1, 0, none⟩ (by show w.heap.size + 1 ≠ _; omega) v⟩, ?_⟩
  · rw [List.append_assoc, ← h.eq, dgs_pos N hz]; rfl
  · exact (((h.bel.alloc hsz o).grown hgrow hsz2 (fun k hk => by have := (hu.lt _ hk).1; omega))).setCell (by show _ ≤ w.heap.size + 1; omega) v
theorem OfI.len {w wr : World} {N0 N : Nat} {g : Bool} {O : List Nat} (h : OfI w N0 N g O wr) (hl : (dgs N0).length ≤ 4000000) : O.length ≤ 4000000 := by
  have := congrArg List.length h.eq
  rw [List.length_append] at this; omega
theorem OfI.end_ {w wr : World} {N0 : Nat} {g : Bool} {O : List Nat} {v : Value} (h : OfI w N0 0 g O wr) (hv : wr.ownsRow (w.heap.size + 2) 3 1 v O.length (O.map dv)) {e : Ending} (he : e = .returned (.agg #[v, .bool g])) :
    RetN w (dgs N0) g e ((wr.setCell ⟨w.heap.size, 0, none⟩ v).setCell ⟨w.heap.size, 1, none⟩ (.bool g)) := by
  have e0 := h.eq
  rw [dgs_zero, List.append_nil] at e0
  rw [e0] at hv
  obtain ⟨A, c, rfl⟩ := own_shape hv
  have h1 := ownsRow_setCell_below (ownsRow_setCell_below hv (a := ⟨w.heap.size, 0, none⟩) (by show w.heap.size < _; omega) (.slice A (dgs N0).length c)) (a := ⟨w.heap.size, 1, none⟩) (by show w.heap.size < _; omega) (.bool g)
  exact ⟨A, _, c, he, dig_of_own h1, fr_of_own h1 (by omega), (h.bel.setCell (Nat.le_refl _) _).setCell (Nat.le_refl _) _⟩

set_option maxHeartbeats 1000000 in
theorem ofint_pos (N : Nat) (w : World) (hN : (N : Int) ≤ 9223372036854775807) :
    Calls Tryd.prog 37 #[.int .i64 (N : Int)] w (RetN w (dgs N) false) := by
  obtain ⟨i0, hi, hz0, hz1, hz2⟩ := info_parts Tryd.infoI
  have t0 : decide ((N : Int) < 0) = false := by simp
  have hl : Hid ((dgs N).length ≤ 4000000) := by have := dgs_len_le N 10 (show N < 1942668892225729070919461906823518906642406839052139521251812409738904285205208498176 by omega); show _ ≤ _; omega
  go_enter Tryd.func37, Tryd.ntmps37
  go_wp2_with fail
  go_loopw [0] (fun v wr => ∃ M : Nat, M ≤ N ∧ v = .int .i64 (M : Int) ∧ ∃ O, OfI w N M false O wr) (fun v _ => (intOf v).toNat)
  case atStart => exact ⟨N, Nat.le_refl _, rfl, [], OfI.start _ _ _ _ _ _ _⟩
  case round =>
    obtain ⟨M, hM, rfl, O, hO⟩ := hrel
    have HO := Lib.hid hO
    obtain ⟨u, A, hu⟩ := hO.num
    obtain ⟨Au, cu, rfl⟩ := own_shape hu
    obtain ⟨x, y, R⟩ := hO.res
    have hlen := hO.len hl.out
    have HA := Lib.hid A
    have HU := Lib.hid hu
    obtain ⟨c0, c1, f0, f1, _⟩ := A
    obtain ⟨e0, e1, g0, g1, _⟩ := R
    clear hO hu
    by_cases hz : M = 0
    · subst hz
      go_wp2_with fail
      have s0 := World.cell?_setCell_same wr ⟨w.heap.size, 0, none⟩ (.slice Au O.length cu) e0
      have s1 := World.cell?_setCell_same (wr.setCell ⟨w.heap.size, 0, none⟩ (.slice Au O.length cu)) ⟨w.heap.size, 1, none⟩ (.bool false) ((World.cell?_setCell_other wr _ ⟨w.heap.size, 1, none⟩ (.slice Au O.length cu) (by simp)).trans e1)
      refine bodyPost_ret (v := .agg #[.slice Au O.length cu, .bool false]) (by simp [results, Tryd.results37, go_sem, s0, s1]) rfl ?_
      exact HO.out.end_ HU.out rfl
    · have hz' : ((M : Int) != 0) = true := by simp; omega
      have hd : ¬ (M : Int) % 268435456 < 0 := by omega
      have HZ := Lib.hid hz
      clear hz
      go_wp2_with (at_builtin; refine wpList_append_own _ rfl _ _ _ rfl (w.heap.size + 2) 3 i0 (.int .i64 0) 1 8 Tryd.underlying42 hi hz0 hz1 hz2 rfl (by omega) _ _ _ rfl (HU.out.alloc _) ⟨wr.heap.size, 0, none⟩ 1 1 [.int .i64 ((M : Int) % 268435456)] rfl rfl (World.news_of_block (heap_alloc_new wr _)) (by simp [Value.oneCell']) (by unfold maxLen; omega) (by omega) (by simp; have := HO.out.bel.size; have := HA.out.lt; omega) ?_)
      intro v w2 hown hgrow hnil
      obtain ⟨Av, cv, rfl⟩ := own_shape hown
      have A2 := (HA.out.alloc _).grown hgrow (fun e => by have := (HU.out.lt _ e.symm).1; omega)
      obtain ⟨k0, k1, j0, j1, _⟩ := A2
      have HN := Lib.hid hgrow
      have HW := Lib.hid hown
      clear hgrow hown hnil
      go_wp2_with fail
      go_roundw
      case rel => exact ⟨M / 268435456, by omega, by go_num, _, HO.out.step HZ.out HA.out HU.out HW.out HN.out⟩
      case measure => have := HZ.out; simp [intOf]; omega

set_option maxHeartbeats 1000000 in
theorem ofint_neg (N : Nat) (w : World) (h0 : 0 < N) (hN : (N : Int) ≤ 9223372036854775808) :
    Calls Tryd.prog 37 #[.int .i64 (-(N : Int))] w (RetN w (dgs N) true) := by
  obtain ⟨i0, hi, hz0, hz1, hz2⟩ := info_parts Tryd.infoI
  have t0 : decide (-(N : Int) < 0) = true := by simp; omega
  have hl : Hid ((dgs N).length ≤ 4000000) := by have := dgs_len_le N 10 (show N < 1942668892225729070919461906823518906642406839052139521251812409738904285205208498176 by omega); show _ ≤ _; omega
  go_enter Tryd.func37, Tryd.ntmps37
  go_wp2_with fail
  go_loopw [0] (fun v wr => ∃ M : Nat, M ≤ N ∧ v = .int .i64 (-(M : Int)) ∧ ∃ O, OfI w N M true O wr) (fun v _ => (-(intOf v)).toNat)
  case atStart => exact ⟨N, Nat.le_refl _, rfl, [], OfI.start _ _ _ _ _ _ _⟩
  case round =>
    obtain ⟨M, hM, rfl, O, hO⟩ := hrel
    have HO := Lib.hid hO
    obtain ⟨u, A, hu⟩ := hO.num
    obtain ⟨Au, cu, rfl⟩ := own_shape hu
    obtain ⟨x, y, R⟩ := hO.res
    have hlen := hO.len hl.out
    have HA := Lib.hid A
    have HU := Lib.hid hu
    obtain ⟨c0, c1, f0, f1, _⟩ := A
    obtain ⟨e0, e1, g0, g1, _⟩ := R
    clear hO hu
    by_cases hz : M = 0
    · subst hz
      go_wp2_with fail
      have s0 := World.cell?_setCell_same wr ⟨w.heap.size, 0, none⟩ (.slice Au O.length cu) e0
      have s1 := World.cell?_setCell_same (wr.setCell ⟨w.heap.size, 0, none⟩ (.slice Au O.length cu)) ⟨w.heap.size, 1, none⟩ (.bool true) ((World.cell?_setCell_other wr _ ⟨w.heap.size, 1, none⟩ (.slice Au O.length cu) (by simp)).trans e1)
      refine bodyPost_ret (v := .agg #[.slice Au O.length cu, .bool true]) (by simp [results, Tryd.results37, go_sem, s0, s1]) rfl ?_
      exact HO.out.end_ HU.out rfl
    · have hz' : (-(M : Int) != 0) = true := by simp; omega
      obtain ⟨r, hr⟩ : ∃ r, r = M % 268435456 := ⟨_, rfl⟩
      obtain ⟨q, hq⟩ : ∃ q, q = M / 268435456 := ⟨_, rfl⟩
      have TM : (-(M : Int)).tmod 268435456 = -(r : Int) := by rw [Int.neg_tmod, hr, Int.tmod_eq_emod_of_nonneg (by omega)]; omega
      have TD : (-(M : Int)).tdiv 268435456 = -(q : Int) := by rw [Int.neg_tdiv, hq, Int.tdiv_eq_ediv_of_nonneg (by omega)]; omega
      have b1 : r < 268435456 := by omega
      have b2 : q ≤ 9223372036854775808 := by omega
      have HR := Lib.hid hr
      have HQ := Lib.hid hq
      clear hr hq
      have HZ := Lib.hid hz
      clear hz
      by_cases r0 : r = 0
      · have hd : ¬ -(r : Int) < 0 := by omega
        have R0 := Lib.hid r0
        clear r0
        go_wp2_with (at_builtin; refine wpList_append_own _ rfl _ _ _ rfl (w.heap.size + 2) 3 i0 (.int .i64 0) 1 8 Tryd.underlying42 hi hz0 hz1 hz2 rfl (by omega) _ _ _ rfl (HU.out.alloc _) ⟨wr.heap.size, 0, none⟩ 1 1 [.int .i64 (-(r : Int))] rfl rfl (World.news_of_block (heap_alloc_new wr _)) (by simp [Value.oneCell']) (by unfold maxLen; omega) (by omega) (by simp; have := HO.out.bel.size; have := HA.out.lt; omega) ?_)
        intro v w2 hown hgrow hnil
        obtain ⟨Av, cv, rfl⟩ := own_shape hown
        have A2 := (HA.out.alloc _).grown hgrow (fun e => by have := (HU.out.lt _ e.symm).1; omega)
        obtain ⟨k0, k1, j0, j1, _⟩ := A2
        have HN := Lib.hid hgrow
        have HW := Lib.hid hown
        clear hgrow hown hnil
        have E : Hid ((-(r : Int)) = ((M % 268435456 : Nat) : Int)) := by show _ = _; rw [← HR.out]; have := R0.out; omega
        go_wp2_with fail
        go_roundw
        case rel => exact ⟨q, by have := HQ.out; omega, by first | rfl | go_num, _, by rw [HQ.out]; have hw := HW.out; rw [E.out] at hw; exact HO.out.step HZ.out HA.out HU.out hw HN.out⟩
        case measure => have := HZ.out; have := HQ.out; simp [intOf]; omega
      · have hd : -(r : Int) < 0 := by omega
        have R0 := Lib.hid r0
        clear r0
        go_wp2_with (at_builtin; refine wpList_append_own _ rfl _ _ _ rfl (w.heap.size + 2) 3 i0 (.int .i64 0) 1 8 Tryd.underlying42 hi hz0 hz1 hz2 rfl (by omega) _ _ _ rfl (HU.out.alloc _) ⟨wr.heap.size, 0, none⟩ 1 1 [.int .i64 (r : Int)] rfl rfl (World.news_of_block (heap_alloc_new wr _)) (by simp [Value.oneCell']) (by unfold maxLen; omega) (by omega) (by simp; have := HO.out.bel.size; have := HA.out.lt; omega) ?_)
        intro v w2 hown hgrow hnil
        obtain ⟨Av, cv, rfl⟩ := own_shape hown
        have A2 := (HA.out.alloc _).grown hgrow (fun e => by have := (HU.out.lt _ e.symm).1; omega)
        obtain ⟨k0, k1, j0, j1, _⟩ := A2
        have HN := Lib.hid hgrow
        have HW := Lib.hid hown
        clear hgrow hown hnil
        have E : Hid ((r : Int) = ((M % 268435456 : Nat) : Int)) := by show _ = _; rw [← HR.out]
        go_wp2_with fail
        go_roundw
        case rel => exact ⟨q, by have := HQ.out; omega, by first | rfl | go_num, _, by rw [HQ.out]; have hw := HW.out; rw [E.out] at hw; exact HO.out.step HZ.out HA.out HU.out hw HN.out⟩
        case measure => have := HZ.out; have := HQ.out; simp [intOf]; omega
end Go.Proofs.YtpneahdbiikonaaDoor
