/- The reference's lists: ValidAll, given; the swaps of Sorted, plainly. -/
import Derived.Test.YtlcmnfhkicjclaaDoorRtQ
import Derived.Test.YtlcmnfhkicjclaaDoorRtK
import Derived.Deep.RegionWith
import Derived.Deep.CutRange
namespace Go.Proofs.YtlcmnfhkicjclaaDoor
open Go.RowKit
set_option linter.unusedVariables false

theorem bad_cons (x : Int × Int) (xs : List (Int × Int)) : badP (x :: xs) = (!rok x.1 x.2 || badP xs) := rfl
theorem rvall_any (A : Option Addr) (n c : Nat) (zs : List (Int × Int)) (w : World) (h : SlP w A n zs) :
    Calls Tryd.prog 41 #[.slice A n c] w fun e w' => e = .returned (.bool (!badP zs)) ∧ Below w.heap.size w w' := by
  have hl := h.len
  obtain ⟨B, hB⟩ : ∃ B, B = badP zs := ⟨_, rfl⟩
  rw [← hB]
  have HB0 : Hid (badP zs = B) := hB.symm
  clear hB
  by_cases hn : 0 < n
  · obtain ⟨b, off, rfl, hb, hr⟩ := h.row hn
    have HR := Lib.hid hr
    have HL := Lib.hid hl
    have hmx : (n : Int) ≤ 9223372036854775807 := by have := h.max; unfold maxLen at this; omega
    clear h hr hl hn
    go_enter Tryd.func41, Tryd.ntmps41
    go_wp2_with fail
    go_loopg [3] n (fun m v wr => ∃ i : Nat, m = n - i ∧ i ≤ n ∧ v = .int .i64 (i : Int) ∧ Hid (badP (zs.drop i) = B) ∧ Hid (Below w.heap.size w wr))
    case atStart => exact ⟨0, rfl, Nat.zero_le _, rfl, HB0, Lib.hid (Below.refl _ _)⟩
    case round =>
      obtain ⟨i, hgk, hi, rfl, HE, HB⟩ := hrel
      have HGK := Lib.hid hgk
      clear hgk
      by_cases hlt : i < n
      · have hil : i < zs.length := by have := HL.out; omega
        obtain ⟨x, hx⟩ : ∃ x, x = zs[i] := ⟨_, rfl⟩
        have y := HR.out i hil
        rw [← hx] at y
        have y0 := (HB.out.cell (p := ⟨b, off + i * 2, none⟩) hb).trans y.1
        have y1 := (HB.out.cell (p := ⟨b, off + i * 2 + 1, none⟩) hb).trans y.2
        have HE2 : Hid ((!rok x.1 x.2 || badP (zs.drop (i + 1))) = B) := by
          have := HE.out
          rw [List.drop_eq_getElem_cons hil, bad_cons, ← hx] at this
          exact this
        have hbr : b < wr.heap.size := Nat.lt_of_lt_of_le hb HB.out.size
        have HI := Lib.hid (show i < n from hlt)
        clear y hx hil hi HE
        cases hk : rok x.1 x.2
        · have CV := Lib.hid (fun wx => rvalid_is x.1 x.2 false hk wx)
          have HF : Hid (B = true) := by have := HE2.out; rw [hk] at this; exact this.symm
          clear hk HE2
          go_wp2_with fail
          refine (CV.out _).mono ?_
          rintro e w2 ⟨rfl, hb2⟩
          have HB := Lib.hid (bstep HB.out hb2)
          clear hb2
          go_wp2_with fail
          go_ret
          exact ⟨ret_bool (by rw [HF.out]; rfl), HB.out⟩
        · have CV := Lib.hid (fun wx => rvalid_is x.1 x.2 true hk wx)
          have HF : Hid (badP (zs.drop (i + 1)) = B) := by have := HE2.out; rw [hk] at this; exact this
          clear hk HE2
          go_wp2_with fail
          refine (CV.out _).mono ?_
          rintro e w2 ⟨rfl, hb2⟩
          have HB := Lib.hid (bstep HB.out hb2)
          clear hb2
          go_wp2_with fail
          go_roundg (n - (i + 1))
          case measure => have := HGK.out; have := HI.out; omega
          case rel => exact ⟨i + 1, rfl, by have := HI.out; omega, by go_num, HF, HB⟩
      · have HF : Hid (B = false) := by
          have := HE.out
          rw [List.drop_of_length_le (by have := HL.out; omega)] at this
          exact this.symm
        go_wp2_with fail
        go_ret
        exact ⟨ret_bool (by rw [HF.out]; rfl), HB.out⟩
  · have hz : n = 0 := by omega
    subst hz
    have HF : Hid (B = false) := by
      have e : zs = [] := List.length_eq_zero_iff.1 hl.symm
      have := HB0.out
      rw [e] at this
      exact this.symm
    clear h hl hn
    go_enter Tryd.func41, Tryd.ntmps41
    go_wp2_with fail
    go_loopg [3] 0 (fun m v wr => m = 0 ∧ v = .int .i64 0 ∧ w = wr)
    case atStart => exact ⟨rfl, rfl, rfl⟩
    case round =>
      obtain ⟨-, rfl, rfl⟩ := hrel
      go_wp2_with fail
      go_ret
      exact ⟨ret_bool (by rw [HF.out]; rfl), Below.refl _ _⟩
set_option maxHeartbeats 1000000 in
theorem given_any (A : Option Addr) (n c : Nat) (zs : List (Int × Int)) (w : World) (h : SlP w A n zs) :
    Calls Tryd.prog 51 #[.slice A n c] w fun e w' => e = .returned (.int .i64 (ckE zs)) ∧ Below w.heap.size w w' := by
  have CC := Lib.hid (rvall_any A n c zs w h)
  have hl := h.len
  have D : Hid (ckE zs = if badP zs = true then 1 else if 1000 < zs.length then 4 else if zs.length = 0 then 14 else 0) := rfl
  rw [← hl] at D
  obtain ⟨r, hr⟩ : ∃ r, r = badP zs := ⟨_, rfl⟩
  obtain ⟨q, hq⟩ : ∃ q, q = ckE zs := ⟨_, rfl⟩
  rw [← hr] at CC D
  rw [← hq] at D ⊢
  clear h hl hr hq
  cases r
  · by_cases h1 : 1000 < n
    · have E : Hid (q = 4) := D.out.trans ((if_neg (by decide)).trans (if_pos h1))
      have h1' : (1000 : Int) < (n : Int) := by omega
      clear D
      go_enter Tryd.func51, Tryd.ntmps51
      go_wp2_with fail
      refine (CC.out).mono ?_
      rintro e w1 ⟨rfl, hb1⟩
      have HB := Lib.hid hb1
      clear hb1
      go_wp2_with fail
      go_ret
      exact ⟨ret_int E.out.symm, HB.out⟩
    · by_cases h2 : n = 0
      · have E : Hid (q = 14) := D.out.trans ((if_neg (by decide)).trans ((if_neg h1).trans (if_pos h2)))
        subst h2
        clear D
        go_enter Tryd.func51, Tryd.ntmps51
        go_wp2_with fail
        refine (CC.out).mono ?_
        rintro e w1 ⟨rfl, hb1⟩
        have HB := Lib.hid hb1
        clear hb1
        go_wp2_with fail
        go_ret
        exact ⟨ret_int E.out.symm, HB.out⟩
      · have E : Hid (q = 0) := D.out.trans ((if_neg (by decide)).trans ((if_neg h1).trans (if_neg h2)))
        have h1' : ¬ (1000 : Int) < (n : Int) := by omega
        have h2' : ((n : Int) == 0) = false := by rw [beq_eq_false_iff_ne]; omega
        clear D
        go_enter Tryd.func51, Tryd.ntmps51
        go_wp2_with fail
        refine (CC.out).mono ?_
        rintro e w1 ⟨rfl, hb1⟩
        have HB := Lib.hid hb1
        clear hb1
        go_wp2_with fail
        go_ret
        exact ⟨ret_int E.out.symm, HB.out⟩
  · have E : Hid (q = 1) := D.out.trans (if_pos rfl)
    clear D
    go_enter Tryd.func51, Tryd.ntmps51
    go_wp2_with fail
    refine (CC.out).mono ?_
    rintro e w1 ⟨rfl, hb1⟩
    have HB := Lib.hid hb1
    clear hb1
    go_wp2_with fail
    go_ret
    exact ⟨ret_int E.out.symm, HB.out⟩

/-- the element at a place -/
def ga (ys : List Rat) (a : Nat) : Rat := ys.getD a 0
theorem ga_at (ys : List Rat) (a : Nat) (h : a < ys.length) : ga ys a = ys[a] := by
  unfold ga; rw [List.getD_eq_getElem?_getD, List.getElem?_eq_getElem h]; rfl
def swp (ys : List Rat) (k : Nat) : List Rat := (ys.set k (ga ys (k - 1))).set (k - 1) (ga ys k)
theorem swp_len (ys : List Rat) (k : Nat) : (swp ys k).length = ys.length := by unfold swp; simp
theorem swp_ga (ys : List Rat) (k a : Nat) (hk : k < ys.length) (h0 : 0 < k) (ha : a < ys.length) : ga (swp ys k) a = if a = k - 1 then ga ys k else if a = k then ga ys (k - 1) else ga ys a := by
  rw [ga_at _ _ (by rw [swp_len]; exact ha)]
  unfold swp
  rw [List.getElem_set]
  by_cases h1 : k - 1 = a
  · rw [if_pos h1, if_pos h1.symm]
  · rw [if_neg h1, if_neg (fun e => h1 e.symm), List.getElem_set]
    by_cases h2 : k = a
    · rw [if_pos h2, if_pos h2.symm]
    · rw [if_neg h2, if_neg (fun e => h2 e.symm), ga_at ys a ha]
theorem swp_perm (ys : List Rat) (k : Nat) (hk : k < ys.length) (h0 : 0 < k) : (swp ys k).Perm ys := by
  unfold swp
  rw [ga_at ys k hk, ga_at ys (k - 1) (by omega)]
  exact List.set_set_perm hk (by omega)
/-- behind some swaps: but for place k the first i + 1 elements ascend, and that at k is at most those behind it -/
structure SrI (qs ys : List Rat) (i k : Nat) : Prop where
  perm : ys.Perm qs
  ki : k ≤ i
  il : i < ys.length
  asc : ∀ a b, a < b → b ≤ i → a ≠ k → b ≠ k → ga ys a ≤ ga ys b
  beh : ∀ b, k < b → b ≤ i → ga ys k ≤ ga ys b
/-- the first i elements ascend -/
structure SrO (qs ys : List Rat) (i : Nat) : Prop where
  perm : ys.Perm qs
  asc : ∀ a b, a < b → b < i → ga ys a ≤ ga ys b
theorem SrO.enter {qs ys : List Rat} {i : Nat} (h : SrO qs ys i) (hi : i < ys.length) : SrI qs ys i i :=
  ⟨h.perm, Nat.le_refl _, hi, fun a b hab hb _ hk => h.asc a b hab (by omega), fun b hb hb2 => by omega⟩
theorem SrI.stop {qs ys : List Rat} {i k : Nat} (h : SrI qs ys i k) (hs : k = 0 ∨ ¬ ga ys k < ga ys (k - 1)) : SrO qs ys (i + 1) := by
  refine ⟨h.perm, fun a b hab hb => ?_⟩
  by_cases h1 : a = k
  · subst h1; exact h.beh b hab (by omega)
  · by_cases h2 : b = k
    · subst h2
      have hs2 : ¬ ga ys b < ga ys (b - 1) := by rcases hs with hs | hs; omega; exact hs
      by_cases h3 : a = b - 1
      · subst h3; grind
      · have := h.asc a (b - 1) (by omega) (by have := h.ki; omega) h1 (by omega)
        grind
    · exact h.asc a b hab (by omega) h1 h2
theorem SrI.step {qs ys : List Rat} {i k : Nat} (h : SrI qs ys i k) (h0 : 0 < k) (hs : ga ys k < ga ys (k - 1)) : SrI qs (swp ys k) i (k - 1) := by
  have hki := h.ki
  have hil := h.il
  have G := fun a ha => swp_ga ys k a (by omega) h0 ha
  refine ⟨(swp_perm ys k (by omega) h0).trans h.perm, by omega, by rw [swp_len]; exact hil, fun a b hab hb ha hbk => ?_, fun b hb hb2 => ?_⟩
  · rw [G a (by omega), G b (by omega), if_neg ha, if_neg hbk]
    by_cases h1 : a = k
    · rw [if_pos h1, if_neg (by omega)]
      exact h.asc (k - 1) b (by omega) hb (by omega) (by omega)
    · rw [if_neg h1]
      by_cases h2 : b = k
      · rw [if_pos h2]
        exact h.asc a (k - 1) (by omega) (by omega) h1 (by omega)
      · rw [if_neg h2]
        exact h.asc a b hab hb h1 h2
  · rw [G (k - 1) (by omega), G b (by omega), if_pos rfl, if_neg (by omega)]
    by_cases h2 : b = k
    · rw [if_pos h2]; grind
    · rw [if_neg h2]
      exact h.beh b (by omega) hb2
theorem SrO.sorted {qs ys : List Rat} (h : SrO qs ys ys.length) : ys = sortQ qs := by
  refine sortQ_unique h.perm ?_
  rw [List.pairwise_iff_getElem]
  intro a b ha hb hab
  have := h.asc a b hab hb
  rw [ga_at ys a ha, ga_at ys b hb] at this
  exact this
end Go.Proofs.YtlcmnfhkicjclaaDoor
