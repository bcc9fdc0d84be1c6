/- slices.Clone and slices.SortFunc at valid fractions: the sorted copy. -/
import Derived.Test.YtlcmnfhkicjclaaDoorRtN
import Derived.Lib.AppendIntMem
namespace Go.Proofs.YtlcmnfhkicjclaaDoor
open Go.RowKit Go.Shelf Go.Lib Go.Sort
set_option linter.unusedVariables false

/-- a fitting number -/
structure FR where
  q : Rat
  fit : rfit q = true
instance : Inhabited FR := ⟨⟨0, by decide⟩⟩
theorem FitAll.tail {q : Rat} {r : List Rat} (h : FitAll (q :: r)) : FitAll r := fun x hx => h x (List.mem_cons_of_mem _ hx)
theorem FitAll.head {q : Rat} {r : List Rat} (h : FitAll (q :: r)) : rfit q = true := h q (List.mem_cons_self ..)
def att : (qs : List Rat) → FitAll qs → List FR
  | [], _ => []
  | q :: r, h => ⟨q, h.head⟩ :: att r h.tail
theorem att_map : ∀ (qs : List Rat) (h : FitAll qs), (att qs h).map FR.q = qs
  | [], _ => rfl
  | q :: r, h => congrArg (q :: ·) (att_map r h.tail)
theorem att_len (qs : List Rat) (h : FitAll qs) : (att qs h).length = qs.length := by
  have := congrArg List.length (att_map qs h)
  rwa [List.length_map] at this
theorem att_at (qs : List Rat) (h : FitAll qs) (i : Nat) (hi : i < qs.length) : ((att qs h)[i]'(by rw [att_len]; exact hi)).q = qs[i] := by
  have : ((att qs h).map FR.q)[i]'(by rw [List.length_map, att_len]; exact hi) = qs[i] := by simp [att_map]
  simpa using this
def encF (x : FR) : List Value := [.int .i64 x.q.num, .int .i64 (x.q.den : Int)]
def cmpF (x y : FR) : Int := rcmp x.q y.q
theorem ltF (x y : FR) : ltOf cmpF x y = decide (x.q < y.q) := by
  show decide (rcmp x.q y.q < 0) = _
  rw [Bool.eq_iff_iff, decide_eq_true_iff, decide_eq_true_iff]
  exact rcmp_lt _ _
theorem swoF : SWO (ltOf cmpF) where
  irrefl x := by rw [ltF]; simp; try grind
  trans x y z h1 h2 := by rw [ltF] at *; simp at *; grind
  ntrans x y z h1 h2 := by rw [ltF] at *; simp at *; grind
theorem totF (x y : FR) (h1 : ltOf cmpF x y = false) (h2 : ltOf cmpF y x = false) : x = y := by
  rw [ltF] at *
  simp at h1 h2
  obtain ⟨x, hx⟩ := x
  obtain ⟨y, hy⟩ := y
  have : x = y := by simp only at h1 h2; grind
  subst this
  rfl

/-- the elements in ascending order -/
def sortQ (qs : List Rat) : List Rat := qs.mergeSort fun x y => decide (x ≤ y)
theorem sortQ_perm (qs : List Rat) : (sortQ qs).Perm qs := List.mergeSort_perm _ _
theorem sortQ_sorted (qs : List Rat) : (sortQ qs).Pairwise (· ≤ ·) := by
  have := List.pairwise_mergeSort (le := fun x y : Rat => decide (x ≤ y)) (fun a b c h1 h2 => by simp at *; grind) (fun a b => by simp; grind) qs
  exact this.imp (fun h => by simpa using h)
theorem sortQ_unique {qs ys : List Rat} (hp : ys.Perm qs) (hs : ys.Pairwise (· ≤ ·)) : ys = sortQ qs :=
  List.Perm.eq_of_pairwise (le := (· ≤ ·)) (fun a b _ _ h1 h2 => by grind) hs (sortQ_sorted qs) (hp.trans (sortQ_perm qs).symm)
theorem sortQ_len (qs : List Rat) : (sortQ qs).length = qs.length := (sortQ_perm qs).length_eq
theorem sortQ_fit {qs : List Rat} (h : FitAll qs) : FitAll (sortQ qs) := fun q hq => h q ((sortQ_perm qs).mem_iff.1 hq)
theorem sortF (qs : List Rat) (hf : FitAll qs) : (((att qs hf).mergeSort fun x y => !(ltOf cmpF) y x).map FR.q) = sortQ qs := by
  refine sortQ_unique ?_ ?_
  · refine ((List.mergeSort_perm _ _).map FR.q).trans ?_
    rw [att_map]
  · rw [List.pairwise_map]
    have := List.pairwise_mergeSort (le := fun x y : FR => !(ltOf cmpF) y x) (fun a b c h1 h2 => by rw [ltF] at *; simp at *; grind) (fun a b => by rw [ltF, ltF]; simp; grind) (att qs hf)
    exact this.imp (fun h => by rw [ltF] at h; simp at h; grind)

theorem cmpLaysF (blk off size : Nat) (w : World) : CmpLays Tryd.prog 47 #[] encF 2 cmpF blk off size w :=
  fun _ _ _ _ x y => (compare_any x.q y.q _ x.fit y.fit).mono fun e w' ⟨he, hw⟩ => ⟨he, 0, _, hw.trans (by rw [alloc_eq_grow, alloc_eq_grow, grow_grow]; rfl)⟩

/-- a row of fitting numbers, cell by cell -/
theorem holds_of_row {w : World} {g : Nat} {qs : List Rat} (hf : FitAll qs) (hr : RowP w g 0 (qs.map pr)) (hz : ∀ j, w.frozen? ⟨g, j, none⟩ = false) : HoldsK encF 2 w g 0 (att qs hf).toArray := by
  intro j hj
  have hs : (flatK encF 2 (att qs hf).toArray).size = qs.length * 2 := by simp [att_len]
  rw [hs] at hj
  refine ⟨?_, by rw [Nat.zero_add]; exact hz j⟩
  rw [get_flatK encF 2 _ j (by simpa [att_len] using hj)]
  have hj2 : j / 2 < qs.length := by omega
  have hg : ((att qs hf).toArray[j / 2]!).q = qs[j / 2] := by
    rw [getElem!_pos _ _ (by simpa [att_len] using hj2)]
    simpa using att_at qs hf (j / 2) hj2
  obtain ⟨z, hz2⟩ : ∃ z, z = (att qs hf).toArray[j / 2]! := ⟨_, rfl⟩
  rw [← hz2] at hg ⊢
  have h1 := hr (j / 2) (by simpa using hj2)
  simp only [List.getElem_map, pr] at h1
  rw [← hg, Nat.zero_add] at h1
  rw [Nat.zero_add]
  rcases (show j = (j / 2) * 2 ∨ j = (j / 2) * 2 + 1 by omega) with e | e
  · have e2 : j % 2 = 0 := by omega
    rw [e2, e]
    refine (Eq.trans ?_ h1.1)
    congr 1
  · have e2 : j % 2 = 1 := by omega
    rw [e2]
    have : w.cell? ⟨g, j, none⟩ = w.cell? ⟨g, j / 2 * 2 + 1, none⟩ := by rw [← e]
    rw [this]
    exact h1.2
theorem row_of_holds {w : World} {g : Nat} {d : Array FR} (h : HoldsK encF 2 w g 0 d) : RowP w g 0 ((d.toList.map FR.q).map pr) := by
  intro j hj
  have hj2 : j < d.size := by simpa using hj
  have a0 := (h (j * 2) (by simp; omega)).1
  have a1 := (h (j * 2 + 1) (by simp; omega)).1
  rw [get_flatK encF 2 _ _ (by omega), show j * 2 / 2 = j by omega, show j * 2 % 2 = 0 by omega, getElem!_pos d j hj2] at a0
  rw [get_flatK encF 2 _ _ (by omega), show (j * 2 + 1) / 2 = j by omega, show (j * 2 + 1) % 2 = 1 by omega, getElem!_pos d j hj2] at a1
  simp only [List.getElem_map, Array.getElem_toList, pr]
  exact ⟨a0, a1⟩

theorem below_sort {B : Nat} {w0 w : World} {g n : Nat} {d : Array FR} (os : Array Obj) (h : Below B w0 w) (hg : B ≤ g) (hB : B ≤ w.heap.size) : Below B w0 (sortWorldK encF 2 w g 0 n d os) := by
  unfold sortWorldK putRowK
  have h1 := below_putRow (enc := (id : Value → Value)) (q := n) (d := flatK encF 2 d) h hg
  have h2 := Lib.below_grow B (putRow (id : Value → Value) (Sort.ahead w n) g 0 (flatK encF 2 d)) (by simpa [putRow, mapBlock, Sort.ahead] using hB) 0 os
  exact h1.trans h2

theorem sort_any (qs : List Rat) (g n c : Nat) (w : World) (hf : FitAll qs) (hn : n = qs.length) (hm : n ≤ 3000) (hr : RowP w g 0 (qs.map pr)) (hz : ∀ j, w.frozen? ⟨g, j, none⟩ = false) (hg : g < w.heap.size) (B : Nat) (w0 : World) (hb : Below B w0 w) (hB : B ≤ g) :
    Calls Tryd.prog 50 #[.slice (some ⟨g, 0, none⟩) n c, .func (.func 47) #[] #[]] w fun e w' => e = .returned (.tuple #[]) ∧ RowP w' g 0 ((sortQ qs).map pr) ∧ g < w'.heap.size ∧ Below B w0 w' := by
  have eg : ∀ args w, (callFunc 47 args).run Tryd.prog w = .ok (.enter 47 args) w := enters_of Tryd.func47 (by kernel_rfl) rfl
  have hH := holds_of_row hf hr hz
  have hs : (att qs hf).toArray.size = n := by simp [hn, att_len]
  have hcon := AnyQ.slices_SortFunc_total Tryd.sortFrac 2 Tryd.isAgg24 Tryd.sizeOf24 encF (fun _ => rfl) (fun x v hv => by simp [encF] at hv; rcases hv with rfl | rfl <;> rfl) cmpF swoF 47 #[] g 0 c (att qs hf).toArray w eg (cmpLaysF _ _ _ _) hH hg (by rw [hs]; omega) totF
  rw [hs] at hcon
  refine hcon.mono ?_
  rintro e w' ⟨rfl, k, os, rfl⟩
  refine ⟨rfl, ?_, ?_, below_sort os hb hB (by omega)⟩
  · have h2 := holdsK_sortWorldK_c encF 2 w g 0 _ (((att qs hf).toArray.toList.mergeSort fun x y => !(ltOf cmpF) y x).toArray) k os hH hg (by simp)
    have h3 := row_of_holds h2
    have h4 : (((att qs hf).toArray.toList.mergeSort fun x y => !(ltOf cmpF) y x).toArray.toList.map FR.q) = sortQ qs := sortF qs hf
    rw [h4] at h3
    exact h3
  · unfold sortWorldK putRowK
    simp [putRow, mapBlock, Sort.ahead]
    omega

theorem Tryd.infoFrac : (Tryd.prog.info? 24).map (fun i => (i.zero, i.size, i.bytes)) = some (some (.agg #[.int .i64 0, .int .i64 0]), 2, 16) := by kernel_rfl
theorem clone_any (zs : List (Int × Int)) (A : Option Addr) (n c : Nat) (w : World) (h : SlP w A n zs) (hn : 0 < n) (hm : n ≤ 3000) :
    Calls Tryd.prog 31 #[.slice A n c] w fun e w' => ∃ g c', e = .returned (.slice (some ⟨g, 0, none⟩) n c') ∧ w.heap.size ≤ g ∧ g < w'.heap.size ∧ n ≤ c' ∧ c' ≤ maxLen ∧ RowP w' g 0 zs ∧ (∀ j, w'.frozen? ⟨g, j, none⟩ = false) ∧ Below w.heap.size w w' := by
  obtain ⟨b, off, rfl, hb, hr⟩ := h.row hn
  obtain ⟨i, hi, hz, hs, hby⟩ : ∃ i, Tryd.prog.info? 24 = some i ∧ i.zero = some (.agg #[.int .i64 0, .int .i64 0]) ∧ i.size = 2 ∧ i.bytes = 16 := by
    have := Tryd.infoFrac
    cases hq : Tryd.prog.info? 24 with
    | none => rw [hq] at this; cases this
    | some i =>
      rw [hq] at this
      simp at this
      exact ⟨i, rfl, this.1, this.2.1, this.2.2⟩
  refine (AnyE.slices_Clone Tryd.cloneFrac i (.agg #[.int .i64 0, .int .i64 0]) 2 16 hi hz hs hby rfl (by omega) Tryd.sizeOf24 b off n c (zs.flatMap encP) w (by rw [flat_len, h.len]) h.max (by omega) (fun j u hu => flat_inv zs w b off hr j u hu) (flat_one zs)).mono ?_
  rintro e w' ⟨v', rfl, hown, hnil, hbel⟩
  rcases id hown.2 with ⟨hv, h0⟩ | ⟨g, cap, cur, rfl, hg, hgs, hnc, hcm, _⟩
  · omega
  · exact ⟨g, cap, rfl, hg, (Array.getElem?_eq_some_iff.1 hgs).1, hnc, hcm, (rowP_of_own hown).1, fun j => hown.frozenAt j, hbel⟩
end Go.Proofs.YtlcmnfhkicjclaaDoor
