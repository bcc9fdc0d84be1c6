/- Lists of fractions in memory; slices.ContainsFunc, Clone, SortFunc at api.Frac; checkList. -/
import Derived.Test.YtlcmnfhkicjclaaDoorRtJ
import Derived.Test.YtlcmnfhkicjclaaDoorShelfG
import Derived.Lib.OwnBridge
import Derived.Lib.SliceRun
import Derived.Laws.OwnMore
namespace Go.Proofs.YtlcmnfhkicjclaaDoor
open Go.RowKit Go.Shelf Go.Lib Go.Sort
set_option linter.unusedVariables false

/-- the two cells of a fraction -/
def encP (x : Int × Int) : List Value := [.int .i64 x.1, .int .i64 x.2]
/-- a row of fractions lies at an address -/
def RowP (W : World) (b off : Nat) (zs : List (Int × Int)) : Prop :=
  ∀ j (h : j < zs.length), W.cell? ⟨b, off + j * 2, none⟩ = some (.int .i64 zs[j].1) ∧ W.cell? ⟨b, off + j * 2 + 1, none⟩ = some (.int .i64 zs[j].2)
/-- a slice of fractions -/
structure SlP (W : World) (A : Option Addr) (n : Nat) (zs : List (Int × Int)) : Prop where
  len : n = zs.length
  max : n ≤ maxLen
  row : 0 < n → ∃ b off, A = some ⟨b, off, none⟩ ∧ b < W.heap.size ∧ RowP W b off zs
theorem RowP.keep {w w1 : World} {b off : Nat} {zs : List (Int × Int)} (h : RowP w b off zs) (hb : Below w.heap.size w w1) (hl : b < w.heap.size) : RowP w1 b off zs := fun j hj =>
  ⟨(hb.cell (p := ⟨b, off + j * 2, none⟩) hl).trans (h j hj).1, (hb.cell (p := ⟨b, off + j * 2 + 1, none⟩) hl).trans (h j hj).2⟩
theorem SlP.keep {w w1 : World} {A : Option Addr} {n : Nat} {zs : List (Int × Int)} (h : SlP w A n zs) (hb : Below w.heap.size w w1) : SlP w1 A n zs :=
  ⟨h.len, h.max, fun hn => by
    obtain ⟨b, off, hA, hl, hr⟩ := h.row hn
    exact ⟨b, off, hA, Nat.lt_of_lt_of_le hl hb.size, hr.keep hb hl⟩⟩
theorem SlP.keepB {B : Nat} {w w1 : World} {A : Option Addr} {n : Nat} {zs : List (Int × Int)} (h : SlP w A n zs) (hb : Below B w w1) (hB : w.heap.size ≤ B) : SlP w1 A n zs := h.keep (hb.mono hB)
/-- a part of a row -/
theorem RowP.part {W : World} {b off : Nat} {zs : List (Int × Int)} (h : RowP W b off zs) (i n : Nat) (hn : i + n ≤ zs.length) : RowP W b (off + i * 2) ((zs.drop i).take n) := by
  intro j hj
  have hj' : i + j < zs.length := by simp at hj; omega
  have e : ((zs.drop i).take n)[j] = zs[i + j] := by simp
  have := h (i + j) hj'
  rw [e]
  rw [show off + i * 2 + j * 2 = off + (i + j) * 2 by omega]
  exact this

/-- the cells, one behind the other -/
theorem flat_len (zs : List (Int × Int)) : (zs.flatMap encP).length = zs.length * 2 := by
  induction zs with
  | nil => rfl
  | cons x xs ih => rw [List.flatMap_cons, List.length_append, ih, List.length_cons]; show 2 + _ = _; omega
theorem flat_at (zs : List (Int × Int)) : ∀ i (h : i < zs.length), (zs.flatMap encP)[i * 2]? = some (.int .i64 zs[i].1) ∧ (zs.flatMap encP)[i * 2 + 1]? = some (.int .i64 zs[i].2) := by
  induction zs with
  | nil => intro i h; simp at h
  | cons x xs ih =>
    intro i h
    rw [List.flatMap_cons]
    match i with
    | 0 => exact ⟨rfl, rfl⟩
    | i + 1 =>
      have := ih i (by simpa using h)
      rw [show (i + 1) * 2 = i * 2 + 2 by omega]
      exact this
theorem flat_inv (zs : List (Int × Int)) (W : World) (b off : Nat) (h : RowP W b off zs) : ∀ j u, (zs.flatMap encP)[j]? = some u → W.cell? ⟨b, off + j, none⟩ = some u := by
  intro j u hu
  have hj : j < zs.length * 2 := by
    rw [← flat_len]
    exact (List.getElem?_eq_some_iff.1 hu).1
  rcases (show j = (j / 2) * 2 ∨ j = (j / 2) * 2 + 1 by omega) with e | e
  · have := flat_at zs (j / 2) (by omega)
    have hr := h (j / 2) (by omega)
    rw [e] at hu ⊢
    rw [this.1] at hu
    rw [← hu]; exact hr.1
  · have := flat_at zs (j / 2) (by omega)
    have hr := h (j / 2) (by omega)
    rw [e] at hu ⊢
    rw [this.2] at hu
    rw [← hu]; exact hr.2
theorem flat_one (zs : List (Int × Int)) : ∀ u ∈ zs.flatMap encP, u.oneCell' = true := by
  intro u hu
  obtain ⟨x, _, hx⟩ := List.mem_flatMap.1 hu
  simp [encP] at hx
  rcases hx with rfl | rfl <;> rfl
/-- a row of the call's own -/
theorem rowP_of_own {w : World} {base e g n c : Nat} {zs : List (Int × Int)} (h : w.ownsRow base e 2 (.slice (some ⟨g, 0, none⟩) n c) n (zs.flatMap encP)) : RowP w g 0 zs ∧ n = zs.length := by
  have hl : n = zs.length := by have := h.1; rw [flat_len] at this; omega
  refine ⟨fun j hj => ?_, hl⟩
  have f := flat_at zs j hj
  rw [Nat.zero_add]
  exact ⟨(h.cellAt (j * 2) (by omega)).trans f.1, (h.cellAt (j * 2 + 1) (by omega)).trans f.2⟩

/-- the predicate of checkList -/
theorem invalid_any (x : Int × Int) (w : World) :
    Calls Tryd.prog 60 #[.agg #[.int .i64 x.1, .int .i64 x.2]] w fun e w' => e = .returned (.bool (!rok x.1 x.2)) ∧ Below w.heap.size w w' := by
  have C1 := Lib.hid (fun wx => valid_any x.1 x.2 wx)
  obtain ⟨r, hr⟩ : ∃ r, r = rok x.1 x.2 := ⟨_, rfl⟩
  rw [← hr] at C1 ⊢
  clear hr
  go_enter Tryd.func60, Tryd.ntmps60
  go_wp2_with fail
  refine (C1.out _).mono ?_
  rintro e w1 ⟨rfl, hb1⟩
  have HB := Lib.hid (alloc_below hb1)
  clear hb1
  go_wp2_with fail
  go_ret
  exact ⟨rfl, HB.out⟩

theorem index_none (A : Option Addr) (c : Nat) (fv : Value) (w : World) :
    Calls Tryd.prog 68 #[.slice A 0 c, fv] w fun e w' => e = .returned (.int .i64 (-1)) ∧ w' = w := by
  go_enter Tryd.func68, Tryd.ntmps68
  go_wp2_with fail
  go_loopg [5, 8] 0 (fun _ _ s8 wr => s8 = .int .i64 0 ∧ wr = w)
  case atStart => exact ⟨rfl, rfl⟩
  case round =>
    obtain ⟨rfl, rfl⟩ := hrel
    go_wp2_with fail
    go_ret
    exact ⟨rfl, rfl⟩
theorem contains_none (A : Option Addr) (c : Nat) (fv : Value) (w : World) :
    Calls Tryd.prog 59 #[.slice A 0 c, fv] w fun e w' => e = .returned (.bool false) ∧ w' = w := by
  go_enter Tryd.func59, Tryd.ntmps59
  go_wp2_with fail
  refine (index_none A c fv _).mono ?_
  rintro e w' ⟨rfl, rfl⟩
  go_wp2_with fail
  go_ret
  exact ⟨rfl, rfl⟩
/-- some element is not valid -/
def badP (zs : List (Int × Int)) : Bool := zs.any fun x => !rok x.1 x.2
theorem contains_any (A : Option Addr) (n c : Nat) (zs : List (Int × Int)) (w : World) (h : SlP w A n zs) :
    Calls Tryd.prog 59 #[.slice A n c, .func (.func 60) #[] #[]] w fun e w' => e = .returned (.bool (badP zs)) ∧ Below w.heap.size w w' := by
  by_cases hn : 0 < n
  · obtain ⟨b, off, rfl, hb, hr⟩ := h.row hn
    have eg : ∀ args w, (callFunc 60 args).run Tryd.prog w = .ok (.enter 60 args) w := enters_of Tryd.func60 (by kernel_rfl) rfl
    have hcon := AnyQ.slices_ContainsFunc Tryd.containsFrac 2 Tryd.isAgg24 Tryd.sizeOf24 encP (fun _ => rfl) (fun x => !rok x.1 x.2) 60 #[] eg b off n c zs w
      (fun W x hb => (invalid_any x W).mono fun e w' ⟨he, hb'⟩ => ⟨he, hb.trans (hb'.mono hb.size)⟩) (by rw [h.len]; exact Nat.le_refl _) (by have := h.max; unfold maxLen at this; omega) hb (fun j hj i v hi => by
        have h1 := hr j hj
        rw [getElem!_pos zs j hj] at hi
        match i, hi with
        | 0, hi => simp [encP] at hi; rw [← hi]; exact h1.1
        | 1, hi => simp [encP] at hi; rw [← hi]; exact h1.2
        | i + 2, hi => simp [encP] at hi)
    rw [show zs.take n = zs by rw [h.len]; exact List.take_length] at hcon
    exact hcon
  · have hz : n = 0 := by omega
    subst hz
    have : zs = [] := by have := h.len; exact List.length_eq_zero_iff.1 this.symm
    subst this
    exact (contains_none A c _ w).mono fun e w' ⟨he, hw⟩ => ⟨he, hw ▸ Below.refl _ _⟩

/-- the first error of a list -/
def ckE (zs : List (Int × Int)) : Int := if badP zs = true then 1 else if 1000 < zs.length then 4 else if zs.length = 0 then 14 else 0
set_option maxHeartbeats 1000000 in
theorem checkList_any (A : Option Addr) (n c : Nat) (zs : List (Int × Int)) (w : World) (h : SlP w A n zs) :
    Calls Tryd.prog 49 #[.slice A n c] w fun e w' => e = .returned (.int .i64 (ckE zs)) ∧ Below w.heap.size w w' := by
  have CC := Lib.hid (fun wx (hx : SlP wx A n zs) => contains_any A n c zs wx hx)
  have HS := Lib.hid h
  have hl := h.len
  have D : Hid (ckE zs = if badP zs = true then 1 else if 1000 < zs.length then 4 else if zs.length = 0 then 14 else 0) := rfl
  rw [← hl] at D
  obtain ⟨r, hr⟩ : ∃ r, r = badP zs := ⟨_, rfl⟩
  obtain ⟨q, hq⟩ : ∃ q, q = ckE zs := ⟨_, rfl⟩
  rw [← hr] at CC D
  rw [← hq] at D ⊢
  clear h hl hr hq
  cases r
  · by_cases h1 : 1000 < n
    · have E : Hid (q = 4) := D.out.trans ((if_neg (by decide)).trans (if_pos h1))
      have h1' : (1000 : Int) < (n : Int) := by omega
      clear D
      go_enter Tryd.func49, Tryd.ntmps49
      go_wp2_with fail
      refine (CC.out _ HS.out).mono ?_
      rintro e w1 ⟨rfl, hb1⟩
      have HB := Lib.hid hb1
      clear hb1
      go_wp2_with fail
      go_ret
      exact ⟨ret_int E.out.symm, HB.out⟩
    · by_cases h2 : n = 0
      · have E : Hid (q = 14) := D.out.trans ((if_neg (by decide)).trans ((if_neg h1).trans (if_pos h2)))
        subst h2
        clear D
        go_enter Tryd.func49, Tryd.ntmps49
        go_wp2_with fail
        refine (CC.out _ HS.out).mono ?_
        rintro e w1 ⟨rfl, hb1⟩
        have HB := Lib.hid hb1
        clear hb1
        go_wp2_with fail
        go_ret
        exact ⟨ret_int E.out.symm, HB.out⟩
      · have E : Hid (q = 0) := D.out.trans ((if_neg (by decide)).trans ((if_neg h1).trans (if_neg h2)))
        have h1' : ¬ (1000 : Int) < (n : Int) := by omega
        have h2' : ((n : Int) == 0) = false := by rw [beq_eq_false_iff_ne]; omega
        clear D
        go_enter Tryd.func49, Tryd.ntmps49
        go_wp2_with fail
        refine (CC.out _ HS.out).mono ?_
        rintro e w1 ⟨rfl, hb1⟩
        have HB := Lib.hid hb1
        clear hb1
        go_wp2_with fail
        go_ret
        exact ⟨ret_int E.out.symm, HB.out⟩
  · have E : Hid (q = 1) := D.out.trans (if_pos rfl)
    clear D
    go_enter Tryd.func49, Tryd.ntmps49
    go_wp2_with fail
    refine (CC.out _ HS.out).mono ?_
    rintro e w1 ⟨rfl, hb1⟩
    have HB := Lib.hid hb1
    clear hb1
    go_wp2_with fail
    go_ret
    exact ⟨ret_int E.out.symm, HB.out⟩
end Go.Proofs.YtlcmnfhkicjclaaDoor
