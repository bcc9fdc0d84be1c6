/- Arctrig: the reference's Unit, pi, Pi. -/
import Derived.Test.YtndcjldnnfhedaaDoorArYe
namespace Go.Proofs.YtndcjldnnfhedaaDoor.wd2
open Go.RowKit
set_option linter.unusedVariables false
set_option maxRecDepth 100000

def pil : List Nat := [38008488, 142975752, 221327768, 170787696, 120867392, 154673705, 166927616, 137296536, 247785160, 155527201, 241405185, 58179156]
theorem pil_digit (j : Nat) (hj : j < 12) : pil.getD j 0 < 268435456 := by
  have h : ∀ j, j < 12 → pil.getD j 0 < 268435456 := by decide
  exact h j hj
theorem pi_list (w : World) : Calls Tryd.prog 124 #[] w (Ret w pil) := by
  go_enter Tryd.func124, Tryd.ntmps124
  go_wp2_with fail
  go_ret
  refine ⟨_, _, _, rfl, ⟨rfl, Nat.le_refl _, by unfold maxLen; omega, (fun h => by cases h), fun ad e => ?_⟩, ?_, (Below.refl _ _).alloc (Nat.le_refl _) _⟩
  · injection e with e
    subst e
    refine ⟨_, rfl, by simp, fun j hj => ?_⟩
    have hj : j < 12 := hj
    rcases (show j = 0 ∨ j = 1 ∨ j = 2 ∨ j = 3 ∨ j = 4 ∨ j = 5 ∨ j = 6 ∨ j = 7 ∨ j = 8 ∨ j = 9 ∨ j = 10 ∨ j = 11 by omega) with rfl | rfl | rfl | rfl | rfl | rfl | rfl | rfl | rfl | rfl | rfl | rfl <;> simp [pil]
  · intro ad e
    injection e with e
    subst e
    exact Nat.le_refl _
structure PiW (w1 : World) (k i : Nat) (v : Value) (O : List Nat) (wr : World) : Prop where
  eq : O = ((pil.take k).drop i).reverse
  own : wr.ownsRow w1.heap.size 3 1 v O.length (O.map dv)
  bel : Below w1.heap.size w1 wr
theorem PiW.len {w1 wr : World} {k i : Nat} {v : Value} {O : List Nat} (h : PiW w1 k i v O wr) : O.length ≤ 12 := by
  rw [h.eq, List.length_reverse, List.length_drop, List.length_take]
  have : pil.length = 12 := rfl
  omega
theorem PiW.step {w1 wr w2 : World} {k i : Nat} {u v : Value} {O : List Nat} {o : Obj} {D : Int} (h : PiW w1 k (i + 1) u O wr) (hi : i < k) (hk : k ≤ 12)
    (hown : w2.ownsRow w1.heap.size 3 1 v (O.length + 1) (O.map dv ++ [.int .i64 D])) (hgrow : (wr.alloc o).grownBy w2 u.ownBlock) (hD : D = ((pil.getD i 0 : Nat) : Int)) :
    PiW w1 k i v (O ++ [pil.getD i 0]) w2 := by
  have hsz : w1.heap.size ≤ (wr.alloc o).heap.size := (h.bel.alloc h.bel.size o).size
  refine ⟨?_, ?_, (h.bel.alloc h.bel.size o).grown hgrow hsz (fun k hk => (h.own.lt k hk).1)⟩
  · have hl : i < (pil.take k).length := by rw [List.length_take]; have : pil.length = 12 := rfl; omega
    have e : (pil.take k)[i]'hl = pil.getD i 0 := by rw [List.getElem_take, List.getD_eq_getElem?_getD, List.getElem?_eq_getElem (by have : pil.length = 12 := rfl; omega)]; rfl
    rw [List.drop_eq_getElem_cons hl, List.reverse_cons, e, ← h.eq]
  · rw [hD] at hown
    simpa [dv] using hown
set_option maxHeartbeats 2000000 in
theorem pi_any (k : Nat) (hk : k ≤ 12) (w : World) : Calls Tryd.prog 113 #[.int .i64 (k : Int)] w (Ret w ((pil.take k).reverse ++ [3])) := by
  obtain ⟨i0, hi, hz0, hz1, hz2⟩ := info_parts Tryd.infoI
  go_enter Tryd.func113, Tryd.ntmps113
  go_wp2_with (go_at_call 124; refine (pi_list _).mono ?_; rintro e w1 ⟨Ap, np, cp, rfl, hdp, hfp, hbp⟩)
  have HD := Lib.hid hdp
  have HB := Lib.hid hbp
  have hnp : np = 12 := hdp.len
  subst hnp
  clear hdp hfp hbp
  go_wp2_with fail
  go_loopg [4, 5] k (fun mm v4 v5 wr => ∃ (i : Nat) (O : List Nat), mm = i ∧ i ≤ k ∧ v5 = .int .i64 ((i : Int) - 1) ∧ PiW w1 k i v4 O wr)
  case atStart => exact ⟨k, [], rfl, Nat.le_refl _, rfl, ⟨by rw [List.drop_of_length_le (by rw [List.length_take]; omega)]; rfl, World.ownsRow_nil _ _ _ _, Below.refl _ _⟩⟩
  case round =>
    obtain ⟨i, O, hm, hik, rfl, hW⟩ := hrel
    have HM := Lib.hid hm
    clear hm
    obtain ⟨Au, cu, rfl⟩ := own_shape hW.own
    have HW := Lib.hid hW
    have hol := hW.len
    clear hW
    rcases i with _ | i
    · have zz : ¬ ((0 : Nat) : Int) - 1 ≥ 0 := by omega
      go_wp2_with (at_builtin; refine wpList_append_own _ rfl _ _ _ rfl w1.heap.size 3 i0 (.int .i64 0) 1 8 Tryd.underlying105 hi hz0 hz1 hz2 rfl (by omega) _ _ _ rfl (HW.out.own.alloc _) ⟨wr.heap.size, 0, none⟩ 1 1 [.int .i64 3] rfl rfl (World.news_of_block (heap_alloc_new wr _)) (by simp [Value.oneCell']) (by unfold maxLen; omega) (by omega) (HW.out.bel.alloc HW.out.bel.size _).size ?_)
      intro v w2 hown hgrow hnil
      go_wp2_with fail
      go_ret
      refine Ret.under HB.out (ret_of_own (e := 3) (n := O.length + 1) ?_ ((HW.out.bel.alloc HW.out.bel.size _).grown hgrow (HW.out.bel.alloc HW.out.bel.size _).size (fun k hk => (HW.out.own.lt k hk).1)))
      have e := HW.out.eq
      rw [List.drop_zero] at e
      rw [← e]
      simpa [dv] using hown
    · have hik' : i < 12 := by omega
      obtain ⟨g, rfl, hg, hcl⟩ := (HD.out.keep HW.out.bel).cell (k := i) hik'
      have hxb := pil_digit i hik'
      obtain ⟨x, hx⟩ : ∃ x, x = pil.getD i 0 := ⟨_, rfl⟩
      rw [← hx] at hcl hxb
      have HX := Lib.hid hx
      have z1 : ((i + 1 : Nat) : Int) - 1 = (i : Int) := by omega
      have z0 : (0 : Int) ≤ (i : Int) := by omega
      have z2 : (i : Int) < 12 := by omega
      clear hx
      rw [z1]
      go_wp2_with (at_builtin; refine wpList_append_own _ rfl _ _ _ rfl w1.heap.size 3 i0 (.int .i64 0) 1 8 Tryd.underlying105 hi hz0 hz1 hz2 rfl (by omega) _ _ _ rfl (HW.out.own.alloc _) ⟨wr.heap.size, 0, none⟩ 1 1 [.int .i64 (x : Int)] rfl rfl (World.news_of_block (heap_alloc_new wr _)) (by simp [Value.oneCell']) (by unfold maxLen; omega) (by omega) (HW.out.bel.alloc HW.out.bel.size _).size ?_)
      intro v w2 hown hgrow hnil
      have HN := Lib.hid hgrow
      have HV := Lib.hid hown
      clear hgrow hown hnil
      go_wp2_with fail
      go_roundg i
      case measure => have := HM.out; omega
      case rel => exact ⟨i, _, rfl, by omega, rfl, HW.out.step (by omega) hk HV.out HN.out (by rw [← HX.out])⟩
theorem can4 (a b c : Nat) (d : Nat) (ha : a < 268435456) (hb : b < 268435456) (hc : c < 268435456) (hd : d < 268435456) (h0 : d ≠ 0) : Can [a, b, c, d] := ⟨by intro x hx; simp at hx; omega, .inr (by simp [pw, val]; omega)⟩
theorem can5 (a b c d e : Nat) (ha : a < 268435456) (hb : b < 268435456) (hc : c < 268435456) (hd : d < 268435456) (he : e < 268435456) (h0 : e ≠ 0) : Can [a, b, c, d, e] := ⟨by intro x hx; simp at hx; omega, .inr (by simp [pw, val]; omega)⟩
theorem pi3 (w : World) : Calls Tryd.prog 113 #[.int .i64 3] w (Ret w (dgs L6.A3)) := by
  have h := pi_any 3 (by omega) w
  have e : (pil.take 3).reverse ++ [3] = dgs L6.A3 := can_eq (can4 _ _ _ _ (by decide) (by decide) (by decide) (by decide) (by decide)) (by decide)
  rw [e] at h
  exact h
theorem pi4 (w : World) : Calls Tryd.prog 113 #[.int .i64 4] w (Ret w (dgs L6.A4)) := by
  have h := pi_any 4 (by omega) w
  have e : (pil.take 4).reverse ++ [3] = dgs L6.A4 := can_eq (can5 _ _ _ _ _ (by decide) (by decide) (by decide) (by decide) (by decide) (by decide)) (by decide)
  rw [e] at h
  exact h
theorem p3_pw : L6.P3 = pw 3 := by decide
theorem p4_pw : L6.P4 = pw 4 := by decide
theorem unit_any (k : Nat) (hk : k ≤ 12) (w : World) : Calls Tryd.prog 116 #[.int .i64 (k : Int)] w (Ret w ((List.replicate (k + 1) 0).set k 1)) := by
  obtain ⟨i0, hi, hz0, hz1, hz2⟩ := info_parts Tryd.infoI
  go_enter Tryd.func116, Tryd.ntmps116
  have z0 : (0 : Int) ≤ (k : Int) + 1 := by omega
  go_wp2_with (at_make; refine wpList_make_full _ rfl _ _ 105 rfl w.heap.size 3 i0 (.int .i64 0) 1 Tryd.underlying105 hi hz0 hz1 _ _ _ _ (k + 1) rfl rfl (by first | rfl | go_num) (by first | rfl | go_num) (by rw [hz2]; omega) (by unfold maxLen; omega) (Nat.le_refl _) ?_)
  intro w1 hown hgrow
  have hB : Below w.heap.size w w1 := (Below.refl _ _).grown hgrow (Nat.le_refl _) (by intro k hk; cases hk)
  have T0 : Hid (TimW w (k + 1) (List.replicate (k + 1) 0) w1) := by
    refine ⟨?_, hB⟩
    have e : (List.replicate (k + 1) 0).map dv = (madeCells #[Value.int .i64 0] (k + 1)).toList := by rw [toList_madeCells_one, List.map_replicate]; rfl
    rw [e]
    simpa [Value.cells] using hown
  clear hgrow hown hB
  have hco := T0.out.cell (j := k) (by omega)
  have hfo := T0.out.froz k
  obtain ⟨y, hy⟩ : ∃ y, y = (List.replicate (k + 1) 0).getD k 0 := ⟨_, rfl⟩
  rw [← hy] at hco
  clear hy
  have z2 : (k : Int) < ((k + 1 : Nat) : Int) := by omega
  have z3 : (k : Int) < (k : Int) + 1 := by omega
  go_wp2_with fail
  go_ret
  have T := T0.out.store k 1 (X := 1) rfl
  have D := dig_of_own T.own
  exact ⟨_, _, _, rfl, D, fr_of_own T.own (Nat.le_refl _), T.bel⟩
theorem unit3 (w : World) : Calls Tryd.prog 116 #[.int .i64 3] w (Ret w (dgs L6.P3)) := by
  have h := unit_any 3 (by omega) w
  have e : (List.replicate (3 + 1) 0).set 3 1 = dgs L6.P3 := can_eq (can4 _ _ _ _ (by decide) (by decide) (by decide) (by decide) (by decide)) (by decide)
  rw [e] at h
  exact h
theorem unit4 (w : World) : Calls Tryd.prog 116 #[.int .i64 4] w (Ret w (dgs L6.P4)) := by
  have h := unit_any 4 (by omega) w
  have e : (List.replicate (4 + 1) 0).set 4 1 = dgs L6.P4 := can_eq (can5 _ _ _ _ _ (by decide) (by decide) (by decide) (by decide) (by decide) (by decide)) (by decide)
  rw [e] at h
  exact h
end Go.Proofs.YtndcjldnnfhedaaDoor.wd2
