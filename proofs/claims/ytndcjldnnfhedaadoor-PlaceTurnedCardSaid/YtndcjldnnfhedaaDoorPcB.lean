/- Place: lists of arcs in memory; the variable of all longitudes. -/
import Derived.Test.YtndcjldnnfhedaaDoorPcP
import Derived.Test.YtndcjldnnfhedaaDoorFxV
import Derived.Lib.SliceRun
import Derived.Laws.OwnMore
import Derived.Deep.AppendLies
import Derived.Deep.Cut
namespace Go.Proofs.YtndcjldnnfhedaaDoor
open Go.RowKit Go.Lib
set_option linter.unusedVariables false

/-- the two cells of an arc -/
def encP (x : Int × Int) : List Value := [.int .i64 x.1, .int .i64 x.2]
/-- a row of arcs lies at an address -/
def RowP (W : World) (b off : Nat) (zs : List (Int × Int)) : Prop :=
  ∀ j (h : j < zs.length), W.cell? ⟨b, off + j * 2, none⟩ = some (.int .i64 zs[j].1) ∧ W.cell? ⟨b, off + j * 2 + 1, none⟩ = some (.int .i64 zs[j].2)
/-- a slice of arcs -/
structure SlP (W : World) (A : Option Addr) (n : Nat) (zs : List (Int × Int)) : Prop where
  len : n = zs.length
  max : n ≤ maxLen
  row : 0 < n → ∃ b off, A = some ⟨b, off, none⟩ ∧ b < W.heap.size ∧ RowP W b off zs
theorem RowP.keep {w w1 : World} {b off : Nat} {zs : List (Int × Int)} (h : RowP w b off zs) (hb : Below w.heap.size w w1) (hl : b < w.heap.size) : RowP w1 b off zs := fun j hj =>
  ⟨(hb.cell (p := ⟨b, off + j * 2, none⟩) hl).trans (h j hj).1, (hb.cell (p := ⟨b, off + j * 2 + 1, none⟩) hl).trans (h j hj).2⟩
theorem SlP.keep {w w1 : World} {A : Option Addr} {n : Nat} {zs : List (Int × Int)} (h : SlP w A n zs) (hb : Below w.heap.size w w1) : SlP w1 A n zs :=
  ⟨h.len, h.max, fun hn => by
    obtain ⟨b, off, hA, hl, hr⟩ := h.row hn
    exact ⟨b, off, hA, Nat.lt_of_lt_of_le hl hb.size, hr.keep hb hl⟩⟩
theorem SlP.keepB {B : Nat} {w w1 : World} {A : Option Addr} {n : Nat} {zs : List (Int × Int)} (h : SlP w A n zs) (hb : Below B w w1) (hB : w.heap.size ≤ B) : SlP w1 A n zs := h.keep (hb.mono hB)
/-- a part of a row -/
theorem RowP.part {W : World} {b off : Nat} {zs : List (Int × Int)} (h : RowP W b off zs) (i n : Nat) (hn : i + n ≤ zs.length) : RowP W b (off + i * 2) ((zs.drop i).take n) := by
  intro j hj
  have hj' : i + j < zs.length := by simp at hj; omega
  have e : ((zs.drop i).take n)[j] = zs[i + j] := by simp
  have := h (i + j) hj'
  rw [e]
  rw [show off + i * 2 + j * 2 = off + (i + j) * 2 by omega]
  exact this

/-- the cells, one behind the other -/
theorem flat_len (zs : List (Int × Int)) : (zs.flatMap encP).length = zs.length * 2 := by
  induction zs with
  | nil => rfl
  | cons x xs ih => rw [List.flatMap_cons, List.length_append, ih, List.length_cons]; show 2 + _ = _; omega
theorem flat_at (zs : List (Int × Int)) : ∀ i (h : i < zs.length), (zs.flatMap encP)[i * 2]? = some (.int .i64 zs[i].1) ∧ (zs.flatMap encP)[i * 2 + 1]? = some (.int .i64 zs[i].2) := by
  induction zs with
  | nil => intro i h; simp at h
  | cons x xs ih =>
    intro i h
    rw [List.flatMap_cons]
    match i with
    | 0 => exact ⟨rfl, rfl⟩
    | i + 1 =>
      have := ih i (by simpa using h)
      rw [show (i + 1) * 2 = i * 2 + 2 by omega]
      exact this
theorem flat_inv (zs : List (Int × Int)) (W : World) (b off : Nat) (h : RowP W b off zs) : ∀ j u, (zs.flatMap encP)[j]? = some u → W.cell? ⟨b, off + j, none⟩ = some u := by
  intro j u hu
  have hj : j < zs.length * 2 := by
    rw [← flat_len]
    exact (List.getElem?_eq_some_iff.1 hu).1
  rcases (show j = (j / 2) * 2 ∨ j = (j / 2) * 2 + 1 by omega) with e | e
  · have := flat_at zs (j / 2) (by omega)
    have hr := h (j / 2) (by omega)
    rw [e] at hu ⊢
    rw [this.1] at hu
    rw [← hu]; exact hr.1
  · have := flat_at zs (j / 2) (by omega)
    have hr := h (j / 2) (by omega)
    rw [e] at hu ⊢
    rw [this.2] at hu
    rw [← hu]; exact hr.2
theorem flat_one (zs : List (Int × Int)) : ∀ u ∈ zs.flatMap encP, u.oneCell' = true := by
  intro u hu
  obtain ⟨x, _, hx⟩ := List.mem_flatMap.1 hu
  simp [encP] at hx
  rcases hx with rfl | rfl <;> rfl
/-- a row of the call's own -/
theorem rowP_of_own {w : World} {base e g n c : Nat} {zs : List (Int × Int)} (h : w.ownsRow base e 2 (.slice (some ⟨g, 0, none⟩) n c) n (zs.flatMap encP)) : RowP w g 0 zs ∧ n = zs.length := by
  have hl : n = zs.length := by have := h.1; rw [flat_len] at this; omega
  refine ⟨fun j hj => ?_, hl⟩
  have f := flat_at zs j hj
  rw [Nat.zero_add]
  exact ⟨(h.cellAt (j * 2) (by omega)).trans f.1, (h.cellAt (j * 2 + 1) (by omega)).trans f.2⟩


/-- a new list, laid as a row of cells -/
theorem rowP_of_cells {w : World} {g off : Nat} {zs : List (Int × Int)} (h : ∀ j u, (zs.flatMap encP)[j]? = some u → w.cell? ⟨g, off + j, none⟩ = some u) : RowP w g off zs := fun j hj =>
  have f := flat_at zs j hj
  ⟨h _ _ f.1, h _ _ f.2⟩
theorem slP_of {w : World} {g off n : Nat} {zs : List (Int × Int)} (hn : n = zs.length) (hm : n ≤ maxLen) (hg : g < w.heap.size) (h : RowP w g off zs) : SlP w (some ⟨g, off, none⟩) n zs := ⟨hn, hm, fun _ => ⟨g, off, rfl, hg, h⟩⟩
theorem slP_nil (w : World) : SlP w none 0 [] := ⟨rfl, Nat.zero_le _, fun h => absurd h (by omega)⟩
theorem At2.dr8 {w : World} {b : Nat} {x y : Value} (h : At2 w b x y) : At2 w.drew b x y := h.keep (Below.refl _ _).drew
/-- a struct of four cells lies in block b -/
structure At4 (w : World) (b : Nat) (x y z t : Value) : Prop where
  c0 : w.cell? ⟨b, 0, none⟩ = some x
  c1 : w.cell? ⟨b, 1, none⟩ = some y
  c2 : w.cell? ⟨b, 2, none⟩ = some z
  c3 : w.cell? ⟨b, 3, none⟩ = some t
  f0 : w.frozen? ⟨b, 0, none⟩ = false
  f1 : w.frozen? ⟨b, 1, none⟩ = false
  f2 : w.frozen? ⟨b, 2, none⟩ = false
  f3 : w.frozen? ⟨b, 3, none⟩ = false
  lt : b < w.heap.size
theorem At4.keep {w w1 : World} {b : Nat} {x y z t : Value} (h : At4 w b x y z t) (hb : Below w.heap.size w w1) : At4 w1 b x y z t :=
  ⟨(hb.cell (p := ⟨b, 0, none⟩) h.lt).trans h.c0, (hb.cell (p := ⟨b, 1, none⟩) h.lt).trans h.c1, (hb.cell (p := ⟨b, 2, none⟩) h.lt).trans h.c2, (hb.cell (p := ⟨b, 3, none⟩) h.lt).trans h.c3,
   (hb.frozen (p := ⟨b, 0, none⟩) h.lt).trans h.f0, (hb.frozen (p := ⟨b, 1, none⟩) h.lt).trans h.f1, (hb.frozen (p := ⟨b, 2, none⟩) h.lt).trans h.f2, (hb.frozen (p := ⟨b, 3, none⟩) h.lt).trans h.f3, Nat.lt_of_lt_of_le h.lt hb.size⟩
theorem At4.new (w : World) (x y z t : Value) (T : Nat) : At4 (w.alloc (.cells #[x, y, z, t] T)) w.heap.size x y z t := by
  refine ⟨?_, ?_, ?_, ?_, ?_, ?_, ?_, ?_, by simp⟩
  · rw [World.cell?_alloc_new]; rfl
  · rw [World.cell?_alloc_new]; rfl
  · rw [World.cell?_alloc_new]; rfl
  · rw [World.cell?_alloc_new]; rfl
  · go_simp
  · go_simp
  · go_simp
  · go_simp
theorem At4.alloc {w : World} {b : Nat} {x y z t : Value} (h : At4 w b x y z t) (o : Obj) : At4 (w.alloc o) b x y z t := h.keep ((Below.refl _ _).alloc (Nat.le_refl _) o)
theorem At4.drp {w : World} {b : Nat} {x y z t : Value} (h : At4 w b x y z t) : At4 w.drew b x y z t := h.keep (Below.refl _ _).drew
theorem At4.bel {W : World} {b : Nat} {x y z t : Value} (q : At4 W b x y z t) : (∀ p : Bel W, p.w.cell? ⟨b, 0, none⟩ = some x) ∧ (∀ p : Bel W, p.w.cell? ⟨b, 1, none⟩ = some y) ∧ (∀ p : Bel W, p.w.cell? ⟨b, 2, none⟩ = some z) ∧ (∀ p : Bel W, p.w.cell? ⟨b, 3, none⟩ = some t) :=
  ⟨fun p => (q.keep p.h).c0, fun p => (q.keep p.h).c1, fun p => (q.keep p.h).c2, fun p => (q.keep p.h).c3⟩
/-- a block of four cells behind four stores -/
theorem At4.put {w : World} {b : Nat} {x y z t : Value} (h : At4 w b x y z t) (x' y' z' t' : Value) : At4 ((((w.setCell ⟨b, 0, none⟩ x').setCell ⟨b, 1, none⟩ y').setCell ⟨b, 2, none⟩ z').setCell ⟨b, 3, none⟩ t') b x' y' z' t' := by
  have o : ∀ (i j : Nat) (wx : World) (s : Value), i ≠ j → (wx.setCell ⟨b, j, none⟩ s).cell? ⟨b, i, none⟩ = wx.cell? ⟨b, i, none⟩ := fun i j wx s hij => World.cell?_setCell_other _ _ _ s (by simp; try omega)
  have f : ∀ (p q : Addr) (wx : World) (s : Value), (wx.setCell p s).frozen? q = wx.frozen? q := fun p q wx s => World.frozen?_setCell _ _ _ _
  have s0 := World.cell?_setCell_same w ⟨b, 0, none⟩ x' h.c0
  have s1 := World.cell?_setCell_same (w.setCell ⟨b, 0, none⟩ x') ⟨b, 1, none⟩ y' ((o 1 0 _ _ (by omega)).trans h.c1)
  have s2 := World.cell?_setCell_same ((w.setCell ⟨b, 0, none⟩ x').setCell ⟨b, 1, none⟩ y') ⟨b, 2, none⟩ z' ((o 2 1 _ _ (by omega)).trans ((o 2 0 _ _ (by omega)).trans h.c2))
  have s3 := World.cell?_setCell_same (((w.setCell ⟨b, 0, none⟩ x').setCell ⟨b, 1, none⟩ y').setCell ⟨b, 2, none⟩ z') ⟨b, 3, none⟩ t' ((o 3 2 _ _ (by omega)).trans ((o 3 1 _ _ (by omega)).trans ((o 3 0 _ _ (by omega)).trans h.c3)))
  exact ⟨(o 0 3 _ _ (by omega)).trans ((o 0 2 _ _ (by omega)).trans ((o 0 1 _ _ (by omega)).trans s0)), (o 1 3 _ _ (by omega)).trans ((o 1 2 _ _ (by omega)).trans s1), (o 2 3 _ _ (by omega)).trans s2, s3,
    by rw [f, f, f, f]; exact h.f0, by rw [f, f, f, f]; exact h.f1, by rw [f, f, f, f]; exact h.f2, by rw [f, f, f, f]; exact h.f3, by simpa [World.setCell] using h.lt⟩
theorem below_set4 {w w' : World} {n b : Nat} (h : Below n w w') (hn : n ≤ b) (x y z t : Value) : Below n w ((((w'.setCell ⟨b, 0, none⟩ x).setCell ⟨b, 1, none⟩ y).setCell ⟨b, 2, none⟩ z).setCell ⟨b, 3, none⟩ t) := (((h.setCell hn x).setCell hn y).setCell hn z).setCell hn t
/-- the variable of all longitudes -/
structure HasAll (w : World) : Prop where
  c0 : w.cell? ⟨0, 0, none⟩ = some (.int .i64 (-10800000))
  c1 : w.cell? ⟨0, 1, none⟩ = some (.int .i64 10800000)
theorem HasAll.below {w w' : World} (h : HasAll w) (hb : Below w.heap.size w w') : HasAll w' := by
  have k : ∀ i v, w.cell? ⟨0, i, none⟩ = some v → w'.cell? ⟨0, i, none⟩ = some v := by
    intro i v h0
    refine (hb.cell (p := ⟨0, i, none⟩) ?_).trans h0
    show 0 < w.heap.size
    refine Nat.lt_of_not_le fun hc => ?_
    have e : w.heap[0]? = none := Array.getElem?_eq_none hc
    simp [World.cell?, e] at h0
  exact ⟨k 0 _ h.c0, k 1 _ h.c1⟩
end Go.Proofs.YtndcjldnnfhedaaDoor
