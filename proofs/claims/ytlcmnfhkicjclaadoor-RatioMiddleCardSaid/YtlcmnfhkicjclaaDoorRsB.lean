/- Contract of the reference's Sorted. -/
import Derived.Test.YtlcmnfhkicjclaaDoorRsA
import Derived.Deep.QuietTactic
import Derived.BigQuiet
import Derived.BigRegion
import Derived.StillTailTactics
namespace Go.Proofs.YtlcmnfhkicjclaaDoor
open Go.RowKit
set_option linter.unusedVariables false

/-- a row of the call's own, with its elements -/
structure Own (w0 w : World) (g : Nat) (ys : List Rat) : Prop where
  row : RowP w g 0 (ys.map pr)
  frz : ∀ j, w.frozen? ⟨g, j, none⟩ = false
  lt : g < w.heap.size
  base : w0.heap.size ≤ g
  bel : Below w0.heap.size w0 w
theorem Own.keep {w0 w w' : World} {g : Nat} {ys : List Rat} (h : Own w0 w g ys) (hb : Below w.heap.size w w') : Own w0 w' g ys :=
  ⟨h.row.keep hb h.lt, fun j => (hb.frozen (p := ⟨g, j, none⟩) h.lt).trans (h.frz j), Nat.lt_of_lt_of_le h.lt hb.size, h.base, bstep h.bel hb⟩
theorem Own.at {w0 w : World} {g : Nat} {ys : List Rat} (h : Own w0 w g ys) (k : Nat) (hk : k < ys.length) : w.cell? ⟨g, k * 2, none⟩ = some (.int .i64 (ga ys k).num) ∧ w.cell? ⟨g, k * 2 + 1, none⟩ = some (.int .i64 ((ga ys k).den : Int)) := by
  have := h.row k (by simpa using hk)
  rw [ga_at ys k hk]
  simpa [pr] using this

/-- a row behind the store of one element -/
theorem rowP_set {w : World} {g : Nat} {ys : List Rat} (h : RowP w g 0 (ys.map pr)) (k : Nat) (hk : k < ys.length) (z : Rat) :
    RowP ((w.setCell ⟨g, k * 2, none⟩ (.int .i64 z.num)).setCell ⟨g, k * 2 + 1, none⟩ (.int .i64 (z.den : Int))) g 0 ((ys.set k z).map pr) := by
  intro j hj
  have hj' : j < ys.length := by simpa using hj
  obtain ⟨c0, c1⟩ := h k (by simpa using hk)
  obtain ⟨d0, d1⟩ := h j (by simpa using hj')
  rw [Nat.zero_add] at c0 c1 d0 d1 ⊢
  by_cases e : k = j
  · subst e
    refine ⟨(World.cell?_setCell_other _ _ _ _ (by simp)).trans ((World.cell?_setCell_same w _ _ c0).trans (by simp [pr])), (World.cell?_setCell_same _ _ _ ((World.cell?_setCell_other w _ _ _ (by simp)).trans c1)).trans (by simp [pr])⟩
  · have e1 : ((ys.set k z).map pr)[j]'hj = (ys.map pr)[j]'(by simpa using hj') := by
      rw [List.getElem_map, List.getElem_map, List.getElem_set_ne e]
    rw [e1]
    refine ⟨(World.cell?_setCell_other _ _ _ _ (by simp <;> omega)).trans ((World.cell?_setCell_other w _ _ _ (by simp <;> omega)).trans d0), (World.cell?_setCell_other _ _ _ _ (by simp <;> omega)).trans ((World.cell?_setCell_other w _ _ _ (by simp <;> omega)).trans d1)⟩
theorem Own.set {w0 w : World} {g : Nat} {ys : List Rat} (h : Own w0 w g ys) (k : Nat) (hk : k < ys.length) (z : Rat) :
    Own w0 ((w.setCell ⟨g, k * 2, none⟩ (.int .i64 z.num)).setCell ⟨g, k * 2 + 1, none⟩ (.int .i64 (z.den : Int))) g (ys.set k z) :=
  ⟨rowP_set h.row k hk z, fun j => by simp [h.frz j], by simpa using h.lt, h.base, (h.bel.setCell h.base _).setCell h.base _⟩
theorem Own.swap {w0 w : World} {g : Nat} {ys : List Rat} (h : Own w0 w g ys) (p : Nat) (hk : p + 1 < ys.length) :
    Own w0 ((((w.setCell ⟨g, (p + 1) * 2, none⟩ (.int .i64 (ga ys p).num)).setCell ⟨g, (p + 1) * 2 + 1, none⟩ (.int .i64 ((ga ys p).den : Int))).setCell ⟨g, p * 2, none⟩ (.int .i64 (ga ys (p + 1)).num)).setCell ⟨g, p * 2 + 1, none⟩ (.int .i64 ((ga ys (p + 1)).den : Int))) g (swp ys (p + 1)) :=
  (h.set (p + 1) hk (ga ys p)).set p (by simp <;> omega) (ga ys (p + 1))

set_option maxRecDepth 100000 in
set_option maxHeartbeats 4000000 in
theorem sorted_any (A : Option Addr) (n c : Nat) (qs : List Rat) (w : World) (hf : FitAll qs) (h1 : 1 ≤ n) (h2 : n ≤ 3000) (h : SlP w A n (qs.map pr)) :
    Calls Tryd.prog 42 #[.slice A n c] w fun e w' => ∃ g c', e = .returned (.slice (some ⟨g, 0, none⟩) n c') ∧ n ≤ c' ∧ c' ≤ maxLen ∧ Own w w' g (sortQ qs) := by
  obtain ⟨b, off, rfl, hb, hr⟩ := h.row (by omega)
  obtain ⟨i0, hi, hz, hs, hby⟩ : ∃ i, Tryd.prog.info? 24 = some i ∧ i.zero = some (.agg #[.int .i64 0, .int .i64 0]) ∧ i.size = 2 ∧ i.bytes = 16 := by
    have := Tryd.infoFrac
    cases hq : Tryd.prog.info? 24 with
    | none => rw [hq] at this; cases this
    | some i =>
      rw [hq] at this
      simp at this
      exact ⟨i, rfl, this.1, this.2.1, this.2.2⟩
  have hl : n = qs.length := by have := h.len; simpa using this
  have HC : Hid (∀ j u, ((qs.map pr).flatMap encP)[j]? = some u → w.cell? ⟨b, off + j, none⟩ = some u) := fun j u hu => flat_inv _ w b off hr j u hu
  have HLn : Hid (((qs.map pr).flatMap encP).length = n * 2) := by show _ = _; rw [flat_len, List.length_map, hl]
  have HOne := Lib.hid (flat_one (qs.map pr))
  have HF := Lib.hid hf
  have HL := Lib.hid hl
  clear h hr hl hf
  go_enter Tryd.func42, Tryd.ntmps42
  go_wp2_with (at_builtin; refine wpList_append_own _ rfl _ _ 40 rfl w.heap.size 24 i0 (.agg #[.int .i64 0, .int .i64 0]) 2 16 Tryd.underlying40 hi hz hs hby rfl (by omega) _ _ _ rfl (World.ownsRow_made w #[] 0 (Nat.le_refl _) (Nat.zero_le _) (by simp)) ⟨b, off, none⟩ n c ((qs.map pr).flatMap encP) rfl ?qc1 ?qc2 ?qc3 ?qc4 ?qc5 ?qc6 ?_)
  case qc1 => exact HLn.out
  case qc2 =>
    intro j u hj
    rw [Addr.add_lit]
    exact Lib.cell?_alloc_some _ (HC.out j u hj)
  case qc3 => exact HOne.out
  case qc4 => rw [Nat.zero_add]; unfold maxLen; omega
  case qc5 => rw [Nat.zero_add]; omega
  case qc6 => simp
  intro v' w1 hown hgrow hnil
  have bel : Below w.heap.size w w1 := ((Below.refl _ w).alloc (Nat.le_refl _) _).grown hgrow (by simp) (by intro k hk; simp [Value.ownBlock] at hk; omega)
  rcases id hown.2 with ⟨hv, h0⟩ | ⟨g, cap, cur, rfl, hg, hgs, hnc, hcm, _⟩
  · exact absurd h0 (by omega)
  have O1 : Hid (Own w w1 g qs) := ⟨(rowP_of_own hown).1, fun j => hown.frozenAt j, (Array.getElem?_eq_some_iff.1 hgs).1, hg, bel⟩
  have HCM := Lib.hid hcm
  clear hown hgrow hnil bel hg hgs hcm HC HLn HOne
  go_wp2_with fail
  go_loopg [4] (n - 1) (fun m v wr => ∃ (i : Nat) (ys : List Rat), m = n - i ∧ 1 ≤ i ∧ i ≤ n ∧ v = .int .i64 (i : Int) ∧ Hid (SrO qs ys i ∧ ys.length = n) ∧ Hid (Own w wr g ys))
  case atStart => exact ⟨1, qs, rfl, Nat.le_refl _, h1, rfl, And.intro ⟨List.Perm.refl _, fun a b hab hb => by omega⟩ HL.out.symm, O1⟩
  case round =>
    obtain ⟨i, ys, hgk, hi1, hi, rfl, HS, HO⟩ := hrel
    have HGK := Lib.hid hgk
    clear hgk O1
    by_cases hlt : i < n
    · have HI := Lib.hid hlt
      have HE : Hid (SrI qs ys i i ∧ ys.length = n) := And.intro (HS.out.1.enter (by rw [HS.out.2]; exact hlt)) HS.out.2
      go_wp2_with fail
      go_loopg [5] i (fun m v wq => ∃ (k : Nat) (xs : List Rat), m = k ∧ v = .int .i64 (k : Int) ∧ Hid (SrI qs xs i k ∧ xs.length = n) ∧ Hid (Own w wq g xs))
      case atStart => exact ⟨i, ys, rfl, rfl, HE, HO⟩
      case round =>
        obtain ⟨k, xs, hgk, rfl, HX, HQ⟩ := hrel
        have HGQ := Lib.hid hgk
        clear hgk HS HO HE
        cases k with
        | zero =>
          have HD : Hid (SrO qs xs (i + 1) ∧ xs.length = n) := And.intro (HX.out.1.stop (Or.inl rfl)) HX.out.2
          go_wp2_with fail
          go_quiet (fail)
          go_wp2_with fail
          go_roundg (n - (i + 1))
          case measure => have := HGK.out; have := HI.out; omega
          case rel => exact ⟨i + 1, xs, rfl, by omega, by have := HI.out; omega, by go_num, HD.out, HQ.out.keep (below_drewN _ _ _)⟩
        | succ p =>
          have hki := HX.out.1.ki
          have hil := HX.out.1.il
          have HQ := Lib.hid (HQ.out.keep ((Below.refl _ wr).drew))
          obtain ⟨a0, a1⟩ := HQ.out.at (p + 1) (by omega)
          obtain ⟨b0, b1⟩ := HQ.out.at p (by omega)
          have fa : rfit (ga xs (p + 1)) = true := by
            rw [ga_at xs _ (by omega)]
            exact HF.out _ (HX.out.1.perm.mem_iff.1 (List.getElem_mem _))
          have fb : rfit (ga xs p) = true := by
            rw [ga_at xs _ (by omega)]
            exact HF.out _ (HX.out.1.perm.mem_iff.1 (List.getElem_mem _))
          obtain ⟨x, hx⟩ : ∃ x, x = ga xs (p + 1) := ⟨_, rfl⟩
          obtain ⟨y, hy⟩ : ∃ y, y = ga xs p := ⟨_, rfl⟩
          rw [← hx] at a0 a1 fa
          rw [← hy] at b0 b1 fb
          have CC := Lib.hid (fun wx => rCmp x y wx fa fb)
          have RL := Lib.hid (rcmp_lt x y)
          have RB := rcmp_bd x y
          obtain ⟨r, hr⟩ : ∃ r, r = rcmp x y := ⟨_, rfl⟩
          rw [← hr] at CC RL RB
          have HXY := Lib.hid (And.intro hx hy)
          have u1 : (p : Int) + 1 < (n : Int) := by have := HX.out.2; omega
          have u2 : (p : Int) < (n : Int) := by omega
          have un : (n : Int) ≤ 3000 := by omega
          have u3 : (0 : Int) ≤ (p : Int) + 1 := by omega
          have u5 : (0 : Int) ≤ (p : Int) := by omega
          have uw : IntKind.i64.wrap (p : Int) = (p : Int) := IntWalk.i64_in _ (by omega)
          have u4 : (0 : Int) < (p : Int) + 1 := by omega
          have HKI := Lib.hid (And.intro hki hil)
          clear fa fb hr hx hy hki hil
          by_cases hlt : r < 0
          · have hxy : Hid (x < y) := RL.out.1 hlt
            go_wp2_with fail
            go_still_tail 12, (by kernel_rfl)
            change wpList _ _ _ _ _ wr.drew
            clear a0 a1 b0 b1
            go_wp2_with fail
            refine (CC.out _).mono ?_
            rintro e w2 ⟨rfl, hb2⟩
            have HQ := Lib.hid (HQ.out.keep hb2)
            clear hb2
            have HW : Hid (Own w ((((w2.setCell ⟨g, (p + 1) * 2, none⟩ (.int .i64 y.num)).setCell ⟨g, (p + 1) * 2 + 1, none⟩ (.int .i64 (y.den : Int))).setCell ⟨g, p * 2, none⟩ (.int .i64 x.num)).setCell ⟨g, p * 2 + 1, none⟩ (.int .i64 (x.den : Int))) g (swp xs (p + 1))) := by
              have := HQ.out.swap p (by have := HKI.out; omega)
              rw [← HXY.out.1, ← HXY.out.2] at this
              exact this
            have HY : Hid (SrI qs (swp xs (p + 1)) i p ∧ (swp xs (p + 1)).length = n) := And.intro (HX.out.1.step (by omega) (by have := hxy.out; rw [HXY.out.1, HXY.out.2] at this; exact this)) ((swp_len _ _).trans HX.out.2)
            have HQ := Lib.hid (HQ.out.keep ((Below.refl _ w2).drew))
            obtain ⟨a0, a1⟩ := HQ.out.at (p + 1) (by have := HKI.out; omega)
            obtain ⟨b0, b1⟩ := HQ.out.at p (by have := HKI.out; omega)
            rw [← HXY.out.1] at a0 a1
            rw [← HXY.out.2] at b0 b1
            have z0 := HQ.out.frz ((p + 1) * 2)
            have z1 := HQ.out.frz ((p + 1) * 2 + 1)
            have z2 := HQ.out.frz (p * 2)
            have z3 := HQ.out.frz (p * 2 + 1)
            have a0' : w2.cell? ⟨g, (p + 1) * 2, none⟩ = some (.int .i64 x.num) := a0
            have a1' : w2.cell? ⟨g, (p + 1) * 2 + 1, none⟩ = some (.int .i64 (x.den : Int)) := a1
            have b0' : w2.cell? ⟨g, p * 2, none⟩ = some (.int .i64 y.num) := b0
            have b1' : w2.cell? ⟨g, p * 2 + 1, none⟩ = some (.int .i64 (y.den : Int)) := b1
            have z0' : w2.frozen? ⟨g, (p + 1) * 2, none⟩ = false := z0
            have z1' : w2.frozen? ⟨g, (p + 1) * 2 + 1, none⟩ = false := z1
            have z2' : w2.frozen? ⟨g, p * 2, none⟩ = false := z2
            have z3' : w2.frozen? ⟨g, p * 2 + 1, none⟩ = false := z3
            go_wp2_with fail
            go_region
            all_goals
              go_wp2_with fail
              go_roundg p
              case measure => have := HGQ.out; omega
              case rel => exact ⟨p, swp xs (p + 1), rfl, rfl, HY.out, HW.out.keep ((Below.refl _ _).drew)⟩
          · have hxy : Hid (¬ x < y) := fun h => hlt (RL.out.2 h)
            have HD : Hid (SrO qs xs (i + 1) ∧ xs.length = n) := And.intro (HX.out.1.stop (Or.inr (by have := hxy.out; rw [HXY.out.1, HXY.out.2] at this; exact this))) HX.out.2
            go_wp2_with fail
            go_still_tail 12, (by kernel_rfl)
            change wpList _ _ _ _ _ wr.drew
            clear a0 a1 b0 b1
            go_wp2_with fail
            refine (CC.out _).mono ?_
            rintro e w2 ⟨rfl, hb2⟩
            have HQ := Lib.hid (HQ.out.keep hb2)
            clear hb2
            go_wp2_with fail
            go_roundg (n - (i + 1))
            case measure => have := HGK.out; have := HI.out; omega
            case rel => exact ⟨i + 1, xs, rfl, by omega, by have := HI.out; omega, by go_num, HD.out, HQ.out⟩
    · have hi' : i = n := by omega
      subst hi'
      have HD : Hid (ys = sortQ qs) := by
        have := HS.out.1
        rw [← HS.out.2] at this
        exact this.sorted
      go_wp2_with fail
      go_ret
      exact ⟨g, cap, rfl, by have := HL.out; omega, HCM.out, HD.out ▸ HO.out⟩
end Go.Proofs.YtlcmnfhkicjclaaDoor
