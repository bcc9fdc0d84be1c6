/- Place: arguments of four and of two numbers, opened and shut; the variable of all longitudes, as the listed datum lays it. -/
import Derived.Test.YtndcjldnnfhedaaDoorPcB
import Derived.Test.YtndcjldnnfhedaaDoorRows
import Derived.ProofKit
import Derived.Lib.LaidTab
import Derived.Stop.LaidErr
import Derived.Lib.SmallJoins
namespace Go.Proofs.YtndcjldnnfhedaaDoor
open Go.ChangeShapes Go.WideShapes Go.RowKit Go.Lib Go.Joins
set_option linter.unusedVariables false
set_option maxRecDepth 100000

theorem cellsArc8 : Tryd.prog.cellsOf 25 = 2 := by kernel_rfl
theorem cellsPlace8 : Tryd.prog.cellsOf 33 = 4 := by kernel_rfl
theorem cellsInt8 : Tryd.prog.cellsOf 3 = 1 := by kernel_rfl
def I8 (a : Int) : Prop := (Lit.int .i64 a).wf = true
theorem open_arc8 {H : Type} {enc : TypeId × Value → H} {w : World} {base : Nat} {spare : Nat → Bool} {held : Bool} {n : Nat} {c0 c1 : Value} {y : DataW H × List MemPlace} (h : DataW.trod enc Tryd.prog w base spare held n 25 [c0, c1] = some y) :
    ∃ a b : Int, c0 = .int .i64 a ∧ c1 = .int .i64 b ∧ y = (.agg [.lit (.int .i64 a), .lit (.int .i64 b)], []) ∧ I8 a ∧ I8 b := by
  obtain ⟨y0, y1, m, hx, _, h0, h1⟩ := trod_struct2 Tryd.underlying25 h
  simp only [cellsInt8, List.drop_zero, List.drop_succ_cons, List.take_succ_cons, List.take_zero] at h0 h1
  obtain ⟨a, e0, rfl, w0⟩ := DataW.trod_int Tryd.underlying3 h0
  obtain ⟨b, e1, rfl, w1⟩ := DataW.trod_int Tryd.underlying3 h1
  simp only [List.cons.injEq, and_true] at e0 e1
  exact ⟨a, b, e0, e1, by rw [hx]; rfl, w0, w1⟩
theorem open_place8 {H : Type} {enc : TypeId × Value → H} {w : World} {r : Reach} {b0 base : Nat} {spare : Nat → Bool} {held : Bool} {v : Value} {d : DataW H} {p : List MemPlace}
    (hv : Value.okWide Tryd.prog w r b0 33 v) (h : DataW.Trod enc Tryd.prog w base spare held 33 v d p) :
    ∃ a b c e : Int, v = .agg #[.int .i64 a, .int .i64 b, .int .i64 c, .int .i64 e] ∧ d = .agg [.agg [.lit (.int .i64 a), .lit (.int .i64 b)], .agg [.lit (.int .i64 c), .lit (.int .i64 e)]] ∧ p = [] ∧ (I8 a ∧ I8 b) ∧ I8 c ∧ I8 e := by
  obtain ⟨cs, rfl, hsz⟩ := okWide_struct Tryd.underlying33 hv
  obtain ⟨c0, c1, c2, c3, rfl⟩ := array4 (hsz.trans cellsPlace8)
  obtain ⟨fuel, hf⟩ := h
  obtain ⟨y0, y1, n, hx, _, h0, h1⟩ := trod_struct2 Tryd.underlying33 hf
  simp only [cellsArc8, Value.cells, List.drop_zero, List.drop_succ_cons, List.take_succ_cons, List.take_zero] at h0 h1
  obtain ⟨a, b, rfl, rfl, rfl, w0, w1⟩ := open_arc8 h0
  obtain ⟨c, e, rfl, rfl, rfl, w2, w3⟩ := open_arc8 h1
  simp only [Prod.mk.injEq] at hx
  exact ⟨a, b, c, e, rfl, hx.1, hx.2, ⟨w0, w1⟩, w2, w3⟩
theorem shut_arc8 {H : Type} {enc : TypeId × Value → H} {w : World} {base : Nat} {spare : Nat → Bool} {held : Bool} {a b : Int} (h0 : I8 a) (h1 : I8 b) :
    DataW.Trod enc Tryd.prog w base spare held 25 (.agg #[.int .i64 a, .int .i64 b]) (.agg [.lit (.int .i64 a), .lit (.int .i64 b)]) [] := by
  unfold I8 at h0 h1
  exact shut_agg2 (y0 := (.lit (.int .i64 a), [])) (y1 := (.lit (.int .i64 b), [])) Tryd.underlying25 (by kernel_rfl) cellsArc8 ⟨1, by simp [DataW.trod, Tryd.underlying3, h0]⟩ ⟨1, by simp [DataW.trod, Tryd.underlying3, h1]⟩
theorem shut_place8 {H : Type} {enc : TypeId × Value → H} {w : World} {base : Nat} {spare : Nat → Bool} {held : Bool} {a b c e : Int} (h0 : I8 a) (h1 : I8 b) (h2 : I8 c) (h3 : I8 e) :
    DataW.Trod enc Tryd.prog w base spare held 33 (.agg #[.int .i64 a, .int .i64 b, .int .i64 c, .int .i64 e]) (.agg [.agg [.lit (.int .i64 a), .lit (.int .i64 b)], .agg [.lit (.int .i64 c), .lit (.int .i64 e)]]) [] := by
  obtain ⟨n0, t0⟩ := shut_arc8 (enc := enc) (w := w) (base := base) (spare := spare) (held := held) h0 h1
  obtain ⟨n1, t1⟩ := shut_arc8 (enc := enc) (w := w) (base := base) (spare := spare) (held := held) h2 h3
  simp only [Value.cells] at t0 t1
  have ts := trod_struct2_mk (enc := enc) (w := w) (base := base) (spare := spare) (held := held) (n := max n0 n1) (cs := [.int .i64 a, .int .i64 b, .int .i64 c, .int .i64 e])
    (y0 := (.agg [.lit (.int .i64 a), .lit (.int .i64 b)], [])) (y1 := (.agg [.lit (.int .i64 c), .lit (.int .i64 e)], [])) Tryd.underlying33 (by simp [cellsPlace8])
    (by simpa [cellsArc8] using DataW.trod_le (Nat.le_max_left n0 n1) t0) (by simpa [cellsArc8] using DataW.trod_le (Nat.le_max_right n0 n1) t1)
  exact ⟨_, by simpa [Value.cells] using ts⟩
theorem allOf8 (W : World) (h : laidMet Tryd.prog [("almucantar/place.all", Rows.laid_almucantar_place_all)] W) : HasAll W := by
  obtain ⟨ps, ⟨g', t', cs, fuel, p, q, hg', ht', hvar, hd, _, _⟩, _⟩ := h
  obtain rfl := Option.some.inj ((show Tryd.prog.globalNamed "almucantar/place.all" = some 0 by kernel_rfl).symm.trans hg')
  obtain rfl := Option.some.inj ((show (Tryd.prog.globals[0]?).map (·.type) = some 25 by kernel_rfl).symm.trans ht')
  obtain ⟨y0, y1, n, hx, hl, h0, h1⟩ := trod_struct2 Tryd.underlying25 hd
  rw [cellsArc8] at hl
  obtain ⟨l⟩ := cs
  match l, hl with
  | [c0, c1], _ =>
    obtain ⟨a, b, rfl, rfl, e, -, -⟩ := open_arc8 hd
    unfold Rows.laid_almucantar_place_all at e
    simp only [Prod.mk.injEq, DataW.agg.injEq, List.cons.injEq, DataW.lit.injEq, Lit.int.injEq, and_true, true_and] at e
    obtain ⟨⟨rfl, rfl⟩, -⟩ := e
    refine ⟨?_, ?_⟩
    · rw [World.var?_cell (show Tryd.prog.globalNamed "almucantar/place.all" = some 0 by kernel_rfl) hvar 0]; rfl
    · rw [World.var?_cell (show Tryd.prog.globalNamed "almucantar/place.all" = some 0 by kernel_rfl) hvar 1]; rfl
end Go.Proofs.YtndcjldnnfhedaaDoor
