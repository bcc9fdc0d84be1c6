/- The reader in memory, and the contracts of position and take. -/
import Derived.Test.YtjpjgohomajlpaaDoorTokA
import Derived.Deep.RegionHeld3
import Derived.Deep.RegionLaw
import Derived.Deep.AppendLies
import Derived.Deep.DrawnRows
namespace Go.Proofs.YtjpjgohomajlpaaDoor
open Go.RowKit
set_option linter.unusedVariables false
attribute [local go_sem ↓] Go.wp_at_zero Go.wp_at_succ

structure Tok where
  kind : Int
  text : List UInt8
  line : Int
  col : Int

def Tok.cells (t : Tok) : List Value := [.int .i64 t.kind, .string ⟨t.text.toArray⟩, .int .i64 t.line, .int .i64 t.col]

/-- the reader's block R, and the tokens that it owns -/
structure Rd (w : World) (R : Nat) (s : ByteArray) (at_ line ls : Int) (v : Value) (ts : List Tok) : Prop where
  c0 : w.cell? ⟨R, 0, none⟩ = some (.string s)
  c1 : w.cell? ⟨R, 1, none⟩ = some (.int .i64 at_)
  c2 : w.cell? ⟨R, 2, none⟩ = some (.int .i64 line)
  c3 : w.cell? ⟨R, 3, none⟩ = some (.int .i64 ls)
  c4 : w.cell? ⟨R, 4, none⟩ = some v
  f1 : w.frozen? ⟨R, 1, none⟩ = false
  f2 : w.frozen? ⟨R, 2, none⟩ = false
  f3 : w.frozen? ⟨R, 3, none⟩ = false
  f4 : w.frozen? ⟨R, 4, none⟩ = false
  own : w.ownsRow (R + 1) 30 4 v ts.length (ts.flatMap Tok.cells)

theorem Rd.lt {w : World} {R : Nat} {s : ByteArray} {a b c : Int} {v : Value} {ts : List Tok} (h : Rd w R s a b c v ts) : R < w.heap.size := World.block_lt_of_cell? _ _ h.c0

/-- a reader's state outlives whatever leaves the old blocks alone -/
theorem Rd.below {w w' : World} {R : Nat} {s : ByteArray} {a b c : Int} {v : Value} {ts : List Tok} (h : Rd w R s a b c v ts) (hb : Below w.heap.size w w') : Rd w' R s a b c v ts := by
  have hR := h.lt
  have hc : ∀ o, w'.cell? ⟨R, o, none⟩ = w.cell? ⟨R, o, none⟩ := fun o => hb.cell (p := ⟨R, o, none⟩) hR
  have hf : ∀ o, w'.frozen? ⟨R, o, none⟩ = w.frozen? ⟨R, o, none⟩ := fun o => hb.frozen (p := ⟨R, o, none⟩) hR
  exact ⟨(hc _).trans h.c0, (hc _).trans h.c1, (hc _).trans h.c2, (hc _).trans h.c3, (hc _).trans h.c4, (hf _).trans h.f1, (hf _).trans h.f2, (hf _).trans h.f3, (hf _).trans h.f4,
    h.own.kept (row := none) ⟨hb.os, hb.tape, hb.output, hb.size, fun k hk _ => hb.block k hk⟩ (by cases v <;> simp [Value.ownBlock]; split <;> simp)⟩

set_option maxRecDepth 100000 in
set_option maxHeartbeats 400000 in
theorem position_any (R : Nat) (s : ByteArray) (a line ls : Int) (v : Value) (ts : List Tok) (w : World) (h : Rd w R s a line ls v ts) (h0 : 0 ≤ ls) (h1 : ls ≤ a) (h2 : a ≤ 4611686018427387904) :
    Calls Tryd.prog 16 #[.pointer (some ⟨R, 0, none⟩)] w fun e w' => e = .returned (.agg #[.int .i64 line, .int .i64 (a - ls + 1)]) ∧ Below w.heap.size w w' := by
  have c1 := h.c1
  have c2 := h.c2
  have c3 := h.c3
  have hR := h.lt
  clear h
  go_enter Tryd.func16, Tryd.ntmps16
  go_wp2_with fail
  go_region
  all_goals go_wp2
  all_goals exact bodyPost_ret (v := .agg #[.int .i64 line, .int .i64 (a - ls + 1)]) (by simp [results, Tryd.results16, go_sem]) rfl ⟨rfl, ((Below.refl _ _).alloc (Nat.le_refl _) _).drew⟩


theorem alloc_cell (w : World) (o : Obj) (R i : Nat) (h : R < w.heap.size) : (w.alloc o).cell? ⟨R, i, none⟩ = w.cell? ⟨R, i, none⟩ := World.cell?_alloc_lt _ _ _ h
theorem alloc_frozen (w : World) (o : Obj) (R i : Nat) (h : R < w.heap.size) : (w.alloc o).frozen? ⟨R, i, none⟩ = w.frozen? ⟨R, i, none⟩ :=
  World.frozen?_of_block (w := w) (a := ⟨R, i, none⟩) (Below.heap_alloc w o R h)

theorem cell_set_ne (w : World) (R i j : Nat) (u : Value) (h : i ≠ j) : (w.setCell ⟨R, j, none⟩ u).cell? ⟨R, i, none⟩ = w.cell? ⟨R, i, none⟩ :=
  World.cell?_setCell_other _ _ _ _ (fun e => h (congrArg Addr.off e).symm)
theorem frozen_set (w : World) (R i j : Nat) (u : Value) : (w.setCell ⟨R, j, none⟩ u).frozen? ⟨R, i, none⟩ = w.frozen? ⟨R, i, none⟩ := by simp

theorem Rd.setAt {w : World} {R : Nat} {s : ByteArray} {a b c : Int} {v : Value} {ts : List Tok} (h : Rd w R s a b c v ts) (x : Int) : Rd (w.setCell ⟨R, 1, none⟩ (.int .i64 x)) R s x b c v ts := by
  constructor
  · rw [cell_set_ne _ _ _ _ _ (by omega)]; exact h.c0
  · exact World.cell?_setCell_same _ _ _ h.c1
  · rw [cell_set_ne _ _ _ _ _ (by omega)]; exact h.c2
  · rw [cell_set_ne _ _ _ _ _ (by omega)]; exact h.c3
  · rw [cell_set_ne _ _ _ _ _ (by omega)]; exact h.c4
  · rw [frozen_set]; exact h.f1
  · rw [frozen_set]; exact h.f2
  · rw [frozen_set]; exact h.f3
  · rw [frozen_set]; exact h.f4
  · exact ownsRow_setCell_below h.own (by show R < R + 1; omega) _

theorem take_end {w2 w3 : World} {R : Nat} {s : ByteArray} {a b c : Int} {v : Value} {ts : List Tok} {o : Obj} {g cap : Nat} (h : Rd w2 R s a b c v ts)
    (hgrow : (w2.alloc o).grownBy w3 v.ownBlock) {news : List Value} (hown : w3.ownsRow (R + 1) 30 4 (.slice (some ⟨g, 0, none⟩) (ts.length + 1) cap) (ts.length + 1) (ts.flatMap Tok.cells ++ news))
    (k : Int) (tx : List UInt8) (li co : Int) (hn : news = Tok.cells ⟨k, tx, li, co⟩ := by rfl) :
    Rd (w3.setCell ⟨R, 4, none⟩ (.slice (some ⟨g, 0, none⟩) (ts.length + 1) cap)) R s a b c (.slice (some ⟨g, 0, none⟩) (ts.length + 1) cap) (ts ++ [⟨k, tx, li, co⟩]) ∧ Below R w2 (w3.setCell ⟨R, 4, none⟩ (.slice (some ⟨g, 0, none⟩) (ts.length + 1) cap)) := by
  have hR := h.lt
  have hne : some R ≠ v.ownBlock := fun e => by have := (h.own.lt R e.symm).1; omega
  have hblk : w3.heap[R]? = w2.heap[R]? := (hgrow.block R (by simp; omega) hne).trans (Below.heap_alloc w2 o R hR)
  have hc : ∀ i, w3.cell? ⟨R, i, none⟩ = w2.cell? ⟨R, i, none⟩ := fun i => World.cell?_of_block (w := w2) (a := ⟨R, i, none⟩) hblk
  have hf : ∀ i, w3.frozen? ⟨R, i, none⟩ = w2.frozen? ⟨R, i, none⟩ := fun i => World.frozen?_of_block (w := w2) (a := ⟨R, i, none⟩) hblk
  constructor
  · constructor
    · rw [cell_set_ne _ _ _ _ _ (by omega), hc]; exact h.c0
    · rw [cell_set_ne _ _ _ _ _ (by omega), hc]; exact h.c1
    · rw [cell_set_ne _ _ _ _ _ (by omega), hc]; exact h.c2
    · rw [cell_set_ne _ _ _ _ _ (by omega), hc]; exact h.c3
    · exact World.cell?_setCell_same _ _ _ ((hc 4).trans h.c4)
    · rw [frozen_set, hf]; exact h.f1
    · rw [frozen_set, hf]; exact h.f2
    · rw [frozen_set, hf]; exact h.f3
    · rw [frozen_set, hf]; exact h.f4
    · have e : (ts ++ [(⟨k, tx, li, co⟩ : Tok)]).flatMap Tok.cells = ts.flatMap Tok.cells ++ news := by rw [hn]; simp
      rw [e, List.length_append]
      exact ownsRow_setCell_below hown (by show R < R + 1; omega) _
  · have hb1 : Below R w2 (w2.alloc o) := (Below.refl _ _).alloc (by omega) o
    have hb2 : Below R w2 w3 := hb1.grown hgrow (by simp; omega) (fun k hk => by have := (h.own.lt k hk).1; omega)
    exact hb2.setCell (Nat.le_refl _) _

theorem Tryd.infoTok : (Tryd.prog.info? 30).map (fun i => (i.zero, i.size, i.bytes)) = some (some (.agg #[.int .i64 0, .string ⟨#[]⟩, .int .i64 0, .int .i64 0]), 4, 40) := by kernel_rfl

set_option maxRecDepth 100000 in
set_option maxHeartbeats 1000000 in
theorem take_any (R : Nat) (s : ByteArray) (a en ls : Nat) (line kind : Int) (v : Value) (ts : List Tok) (w : World) (h : Rd w R s a line ls v ts) (h1 : ls ≤ a) (h2 : a ≤ en) (h3 : en ≤ s.size) (hs : s.size ≤ 65536) (ht : ts.length ≤ 65536) :
    Calls Tryd.prog 17 #[.pointer (some ⟨R, 0, none⟩), .int .i64 kind, .int .i64 (en : Int)] w fun e w' => e = .returned (.tuple #[]) ∧
      (∃ v', Rd w' R s en line ls v' (ts ++ [⟨kind, (s.extract a en).data.toList, line, (a : Int) - ls + 1⟩])) ∧ Below R w w' := by
  have c0 := h.c0
  have c1 := h.c1
  have hR := h.lt
  have b1 : (0 : Int) ≤ (a : Int) := by omega
  have b2 : (a : Int) ≤ (en : Int) := by omega
  have b3 : (en : Int) ≤ (s.size : Int) := by omega
  have hz : (s.extract a en).size ≤ 65536 := by simp; omega
  have CC := Lib.hid (fun wx => clone_any (s.extract a en) wx (by omega))
  have H := Lib.hid h
  clear h
  go_enter Tryd.func17, Tryd.ntmps17
  go_wp2_with fail
  go_region_held3 (fun w' => w'.cell? ⟨R, 0, none⟩ = some (.string s) ∧ w'.cell? ⟨R, 1, none⟩ = some (.int .i64 (a : Int))) (first | go_keep | exact ⟨(hb1.cell (p := ⟨R, 0, none⟩) (by simpa using hR)).trans (by simpa using c0), (hb1.cell (p := ⟨R, 1, none⟩) (by simpa using hR)).trans (by simpa using c1)⟩) (first | (go_at_call 39; refine (CC.out _).mono ?_; rintro e w1 ⟨rfl, hb1⟩))
  go_wp2_with fail
  have hbw : Below w.heap.size w w1 := by first | exact (Below.refl _ _).drew.trans hb1 | exact hb1
  have hr1 := H.out.below hbw
  have HB := Lib.hid hbw
  clear c0 c1 hb1 hbw
  have c4 := hr1.c4
  have f4 := hr1.f4
  have hR1 := hr1.lt
  have hown := Lib.hid hr1.own
  have HR1 := Lib.hid hr1
  clear hr1
  obtain ⟨i0, hi, hz0, hz1, hz2⟩ := info_parts Tryd.infoTok
  have hne : some R ≠ v.ownBlock := fun e => by have := (HR1.out.own.lt R e.symm).1; omega
  go_region_law (first | (go_simp; go_at_call 16; refine (position_any R s a line ls v ts _ ?_ (by omega) (by omega) (by omega)).mono ?_; (first | exact HR1.out | exact HR1.out.below (Below.refl _ _).drew); rintro e w2 ⟨rfl, hb2⟩; have hr2 : Rd w2 R s a line ls v ts := (by first | exact HR1.out.below hb2 | exact HR1.out.below ((Below.refl _ _).drew.trans hb2)); have c42 := hr2.c4; have f42 := hr2.f4; have hR2 := hr2.lt) | ((refine step_append_lies _ (by rfl) _ _ 23 (by rfl) (R + 1) 30 i0 _ 4 40 Tryd.underlying23 hi hz0 hz1 hz2 (by rfl) (by omega) v ts.length (ts.flatMap Tok.cells) (by rfl) (hr2.own.alloc _) ⟨w2.heap.size, 0, none⟩ 1 1 [.int .i64 kind, .string (s.extract a en), .int .i64 line, .int .i64 ((a : Int) - ls + 1)] (by rfl) (by rfl) (World.news_of_block (heap_alloc_new w2 _)) (by intro u hu; simp at hu; rcases hu with rfl | rfl | rfl | rfl <;> rfl) (by omega) (by unfold maxLen; omega) (by omega) (by have := hr2.lt; simp; omega) (w2.heap.size + 1) (by simp) ?_; intro g cap w3 hown3 hgrow hat hlt3; have c43 := hgrow.cell (a := ⟨R, 4, none⟩) ((alloc_cell w2 _ R 4 hr2.lt).trans hr2.c4) hne; have f43 : w3.frozen? ⟨R, 4, none⟩ = false := (World.frozen?_of_block (w := w2.alloc (.cells #[.int .i64 kind, .string (s.extract a en), .int .i64 line, .int .i64 ((a : Int) - ls + 1)] 30)) (hgrow.block R (by have := hr2.lt; simp; omega) hne)).trans ((alloc_frozen w2 _ R 4 hr2.lt).trans hr2.f4))))
  all_goals
    have hend := take_end hr2 hgrow hown3 kind (s.extract a en).data.toList line ((a : Int) - ls + 1)
    have hr4 := hend.1
    have hbe := (HB.out.mono (Nat.le_of_lt hR)).trans ((Below.mono (by first | exact hb2 | exact (Below.refl _ _).drew.trans hb2) (Nat.le_of_lt hR1)).trans hend.2)
    have d1 := hr4.c1
    have e1 := hr4.f1
    have HR4 := Lib.hid hr4
    have HBE := Lib.hid hbe
    clear hend hr4 hbe c43 f43 c42 f42 hr2 hown3 hgrow
    go_wp2
    go_end0
    exact ⟨rfl, ⟨_, HR4.out.setAt _⟩, HBE.out.setCell (Nat.le_refl _) _⟩


theorem Rd.setLine {w : World} {R : Nat} {s : ByteArray} {a b c : Int} {v : Value} {ts : List Tok} (h : Rd w R s a b c v ts) (x : Int) : Rd (w.setCell ⟨R, 2, none⟩ (.int .i64 x)) R s a x c v ts := by
  constructor
  · rw [cell_set_ne _ _ _ _ _ (by omega)]; exact h.c0
  · rw [cell_set_ne _ _ _ _ _ (by omega)]; exact h.c1
  · exact World.cell?_setCell_same _ _ _ h.c2
  · rw [cell_set_ne _ _ _ _ _ (by omega)]; exact h.c3
  · rw [cell_set_ne _ _ _ _ _ (by omega)]; exact h.c4
  · rw [frozen_set]; exact h.f1
  · rw [frozen_set]; exact h.f2
  · rw [frozen_set]; exact h.f3
  · rw [frozen_set]; exact h.f4
  · exact ownsRow_setCell_below h.own (by show R < R + 1; omega) _
theorem Rd.setStart {w : World} {R : Nat} {s : ByteArray} {a b c : Int} {v : Value} {ts : List Tok} (h : Rd w R s a b c v ts) (x : Int) : Rd (w.setCell ⟨R, 3, none⟩ (.int .i64 x)) R s a b x v ts := by
  constructor
  · rw [cell_set_ne _ _ _ _ _ (by omega)]; exact h.c0
  · rw [cell_set_ne _ _ _ _ _ (by omega)]; exact h.c1
  · rw [cell_set_ne _ _ _ _ _ (by omega)]; exact h.c2
  · exact World.cell?_setCell_same _ _ _ h.c3
  · rw [cell_set_ne _ _ _ _ _ (by omega)]; exact h.c4
  · rw [frozen_set]; exact h.f1
  · rw [frozen_set]; exact h.f2
  · rw [frozen_set]; exact h.f3
  · rw [frozen_set]; exact h.f4
  · exact ownsRow_setCell_below h.own (by show R < R + 1; omega) _

set_option maxRecDepth 100000 in
set_option maxHeartbeats 400000 in
theorem takeLine_any (R : Nat) (s : ByteArray) (a ls line : Nat) (v : Value) (ts : List Tok) (w : World) (h : Rd w R s a line ls v ts) (h1 : ls ≤ a) (h3 : a < s.size) (hs : s.size ≤ 65536) (ht : ts.length ≤ 65536) (hl : line ≤ 65537) :
    Calls Tryd.prog 31 #[.pointer (some ⟨R, 0, none⟩)] w fun e w' => e = .returned (.tuple #[]) ∧
      (∃ v', Rd w' R s ((a + 1 : Nat) : Int) ((line + 1 : Nat) : Int) ((a + 1 : Nat) : Int) v' (ts ++ [⟨4, [], line, (a : Int) - ls + 1⟩])) ∧ Below R w w' := by
  have c1 := h.c1
  have hR := h.lt
  have C := Lib.hid (take_any R s a a ls line 4 v ts w h h1 (Nat.le_refl _) (by omega) hs ht)
  have ez : (s.extract a a).data.toList = [] := by simp
  have EZ := Lib.hid ez
  clear h ez
  go_enter Tryd.func31, Tryd.ntmps31
  go_wp2_with fail
  refine C.out.mono ?_
  rintro e w1 ⟨rfl, ⟨v1, hr⟩, hb⟩
  rw [EZ.out] at hr
  have d1 := hr.c1
  have d2 := hr.c2
  have d3 := hr.c3
  have g1 := hr.f1
  have g2 := hr.f2
  have g3 := hr.f3
  have HR := Lib.hid hr
  have HB := Lib.hid hb
  clear hr hb c1
  go_wp2_with fail
  go_end0
  refine ⟨rfl, ⟨v1, ?_⟩, ((HB.out.setCell (Nat.le_refl _) _).setCell (Nat.le_refl _) _).setCell (Nat.le_refl _) _⟩
  have := ((HR.out.setAt ((a : Int) + 1)).setLine ((line : Int) + 1)).setStart ((a : Int) + 1)
  exact this

end Go.Proofs.YtjpjgohomajlpaaDoor
