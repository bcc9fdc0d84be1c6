/- (door seat) the walk of DecimalJoins, where the text has tokens. -/
import Derived.Test.YtjpjgohomajlpaaDoorAwake
import Derived.Test.YtjpjgohomajlpaaDoorJnD
import Derived.Test.YtjpjgohomajlpaaDoorJnE
namespace Go.Proofs.YtjpjgohomajlpaaDoor
open Go.RowKit
set_option linter.unusedVariables false

theorem isBuilder_alloc {T e : TypeId} {B b : Nat} {bs : List Value} {w : World} (h : Lib.IsBuilder T e B b bs w) (o : Obj) : Lib.IsBuilder T e B b bs (w.alloc o) := by
  have key : ∀ p, Lib.BuilderAt T e B b p bs w → Lib.BuilderAt T e B b p bs (w.alloc o) := by
    intro p h
    have hlt := h.lt
    obtain ⟨hB, v, hb, hown, hne⟩ := h
    exact ⟨hB, v, (Lib.alloc_old w o b hlt).trans hb, hown.alloc o, hne⟩
  exact h.elim (fun x => .inl (key _ x)) (fun x => .inr (key _ x))

theorem own_belowD {w w' : World} {B : Nat} {v : Value} {n : Nat} {xs : List Value} (h : w.ownsRow B 30 4 v n xs) (hb : Below w.heap.size w w') : w'.ownsRow B 30 4 v n xs :=
  h.kept (row := none) ⟨hb.os, hb.tape, hb.output, hb.size, fun k hk _ => hb.block k hk⟩ (by cases v <;> simp [Value.ownBlock]; split <;> simp)

theorem flat_atD (ts : List Tok) (k j : Nat) (h : k < ts.length) (hj : j < 4) : (ts.flatMap Tok.cells)[k * 4 + j]? = (ts[k].cells)[j]? := by
  induction ts generalizing k with
  | nil => cases h
  | cons t ts ih =>
    rw [List.flatMap_cons]
    cases k with
    | zero =>
      rw [List.getElem?_append_left (by show 0 * 4 + j < 4; omega), Nat.zero_mul, Nat.zero_add]; rfl
    | succ k =>
      rw [List.getElem?_append_right (by show 4 ≤ (k + 1) * 4 + j; omega)]
      have e : (k + 1) * 4 + j - t.cells.length = k * 4 + j := by show (k + 1) * 4 + j - 4 = _; omega
      rw [e, ih k (by simpa using h)]; rfl

theorem row_atD {w : World} {B g cap : Nat} {ts : List Tok} (h : w.ownsRow B 30 4 (.slice (some ⟨g, 0, none⟩) ts.length cap) ts.length (ts.flatMap Tok.cells)) (k : Nat) (hk : k < ts.length) :
    w.cell? ⟨g, k * 4, none⟩ = some (.int .i64 ts[k].kind) ∧ w.cell? ⟨g, k * 4 + 1, none⟩ = some (.string ⟨ts[k].text.toArray⟩) ∧ w.cell? ⟨g, k * 4 + 2, none⟩ = some (.int .i64 ts[k].line) ∧ w.cell? ⟨g, k * 4 + 3, none⟩ = some (.int .i64 ts[k].col) := by
  obtain ⟨-, h | ⟨g', cap', cur, hv, -, hg, h1, -, h3, h4⟩⟩ := h
  · omega
  cases hv
  have key : ∀ j, j < 4 → w.cell? ⟨g, k * 4 + j, none⟩ = (ts[k].cells)[j]? := by
    intro j hj
    rw [cell_of_row w g _ _ _ _ hg, ← flat_atD ts k j hk hj, ← h4]
    rw [List.getElem?_take, if_pos (by omega), Array.getElem?_toList]
  exact ⟨key 0 (by omega), key 1 (by omega), key 2 (by omega), key 3 (by omega)⟩

theorem hasPrefix_self (a r : List UInt8) : Lib.hasPrefix (a ++ r) a = true := by
  unfold Lib.hasPrefix
  simp

/-- what is at hand in loop 1: the tokens' row at block g, the lines' row at block q, the builder at b -/
structure J1 (s : ByteArray) (ts : List Tok) (g cap q b : Nat) (w : World) : Prop where
  row : ∃ B, w.ownsRow B 30 4 (.slice (some ⟨g, 0, none⟩) ts.length cap) ts.length (ts.flatMap Tok.cells)
  lines : ∃ ls : List ByteArray, ls.map (fun x => x.data.toList) = linesF s.data.toList ∧ w.heap[q]? = some (.cells (ls.map Value.string).toArray 9 (0, 0))
  gb : g < b
  qb : q < b

theorem J1.below {s : ByteArray} {ts : List Tok} {g cap q b : Nat} {w w' : World} (h : J1 s ts g cap q b w) (hw : b ≤ w.heap.size) (hb : Below b w w') : J1 s ts g cap q b w' := by
  obtain ⟨⟨B, h1⟩, ⟨ls, h2, h3⟩, h4, h5⟩ := h
  refine ⟨⟨B, ?_⟩, ⟨ls, h2, (hb.block q h5).trans h3⟩, h4, h5⟩
  obtain ⟨e, r | ⟨g', cap', cur, hv, hB, hg, r⟩⟩ := h1
  · exact ⟨e, .inl r⟩
  · cases hv
    exact ⟨e, .inr ⟨g, cap, cur, rfl, hB, (hb.block g h4).trans hg, r⟩⟩

/-- one token of loop 1: what its cells hold, and where it stands -/
theorem J1.at {s : ByteArray} {ts : List Tok} {g cap q b : Nat} {w : World} (h : J1 s ts g cap q b w) (hat : ∀ t ∈ ts, TokAt s.data.toList t) (k : Nat) (hk : k < ts.length) :
    ∃ (kind : Int) (tx y : ByteArray) (n c N : Nat), ts[k].kind = kind ∧ (⟨ts[k].text.toArray⟩ : ByteArray) = tx ∧
      w.cell? ⟨g, k * 4, none⟩ = some (.int .i64 kind) ∧ w.cell? ⟨g, k * 4 + 1, none⟩ = some (.string tx) ∧ w.cell? ⟨g, k * 4 + 2, none⟩ = some (.int .i64 ((n : Int) + 1)) ∧ w.cell? ⟨g, k * 4 + 3, none⟩ = some (.int .i64 ((c : Int) + 1)) ∧
      w.cell? ⟨q, n, none⟩ = some (.string y) ∧ n < N ∧ N = (linesF s.data.toList).length ∧ c ≤ y.size ∧ Lib.hasPrefix (y.extract c y.size).data.toList tx.data.toList = true := by
  obtain ⟨⟨B, h1⟩, ⟨ls, h2, h3⟩, h4, h5⟩ := h
  obtain ⟨r1, r2, r3, r4⟩ := row_atD h1 k hk
  obtain ⟨n, c, yl, e1, e2, e3, e4, r, e5⟩ := hat ts[k] (List.getElem_mem hk)
  rw [e1] at r3
  rw [e2] at r4
  have hn : n < (linesF s.data.toList).length := (List.getElem?_eq_some_iff.1 e3).1
  have hn2 : n < ls.length := by rw [← h2] at hn; simpa using hn
  have hy : ls[n].data.toList = yl := by
    rw [← h2, List.getElem?_map, List.getElem?_eq_getElem hn2] at e3
    simpa using e3
  refine ⟨_, _, ls[n], n, c, _, rfl, rfl, r1, r2, by simpa using r3, by simpa using r4, ?_, hn, rfl, ?_, ?_⟩
  · rw [cell_of_row w q n _ _ _ h3]; simp [hn2]
  · rw [Lib.size_eq, hy]; exact e4
  · rw [Lib.extract_to_end, hy, e5]
    exact hasPrefix_self _ _

theorem linesF_len (l : List UInt8) : (linesF l).length ≤ l.length + 1 := by
  induction l with
  | nil => exact Nat.le_refl _
  | cons c l ih =>
    unfold linesF
    split
    · simp; omega
    · simp; omega
theorem linesF_mem (l : List UInt8) : ∀ y ∈ linesF l, y.length ≤ l.length := by
  induction l with
  | nil => intro y hy; simp [linesF] at hy; simp [hy]
  | cons c l ih =>
    intro y hy
    have hne := linesF_ne l
    have hh : ((linesF l).headD []).length ≤ l.length := by
      cases h : linesF l with
      | nil => exact absurd h hne
      | cons a b => exact ih a (by rw [h]; exact List.mem_cons_self ..)
    unfold linesF at hy
    split at hy
    · rcases List.mem_cons.1 hy with rfl | hy
      · simp
      · have := ih y hy; simp; omega
    · rcases List.mem_cons.1 hy with rfl | hy
      · simp at *; omega
      · have := ih y (List.mem_of_mem_tail hy); simp; omega
theorem lines_size {s : ByteArray} {ts : List Tok} {g cap q b : Nat} {w : World} (h : J1 s ts g cap q b w) (n : Nat) (y : ByteArray) (hy : w.cell? ⟨q, n, none⟩ = some (.string y)) : y.size ≤ s.size := by
  obtain ⟨-, ⟨ls, h2, h3⟩, -, -⟩ := h
  rw [cell_of_row w q n _ _ _ h3] at hy
  have hm : y ∈ ls := by
    simp only [List.getElem?_toArray, List.getElem?_map, Option.map_eq_some_iff] at hy
    obtain ⟨z, hz, e⟩ := hy
    cases e
    exact List.mem_of_getElem? hz
  have := linesF_mem s.data.toList y.data.toList (by rw [← h2]; exact List.mem_map.2 ⟨y, hm, rfl⟩)
  rw [Lib.size_eq, Lib.size_eq]; exact this

end Go.Proofs.YtjpjgohomajlpaaDoor
