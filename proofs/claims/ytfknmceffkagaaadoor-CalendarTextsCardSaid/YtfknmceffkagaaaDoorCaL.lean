/- Calendar: dates as arguments, opened and shut; the table of lengths, as the listed datum lays it. -/
import Derived.Test.YtfknmceffkagaaaDoorCaB
import Derived.Test.YtfknmceffkagaaaDoorRows
import Derived.ProofKit
import Derived.Lib.LaidTab
import Derived.Lib.SmallJoins
import Derived.OpenShut
namespace Go.Proofs.YtfknmceffkagaaaDoor
open Go.ChangeShapes Go.WideShapes Go.RowKit Go.Lib Go.Joins
set_option linter.unusedVariables false
set_option maxRecDepth 100000

theorem cellsDate9 : Tryd.prog.cellsOf 23 = 3 := by kernel_rfl
def I9 (a : Int) : Prop := (Lit.int .i64 a).wf = true
theorem i9_in {a : Int} (h : I9 a) : -9223372036854775808 ≤ a ∧ a ≤ 9223372036854775807 := bounds_i64 h
theorem open_date9 {H : Type} {enc : TypeId × Value → H} {w : World} {r : Reach} {b0 base : Nat} {spare : Nat → Bool} {held : Bool} {v : Value} {d : DataW H} {p : List MemPlace}
    (hv : Value.okWide Tryd.prog w r b0 23 v) (h : DataW.Trod enc Tryd.prog w base spare held 23 v d p) :
    ∃ a b c : Int, v = .agg #[.int .i64 a, .int .i64 b, .int .i64 c] ∧ d = .agg [.lit (.int .i64 a), .lit (.int .i64 b), .lit (.int .i64 c)] ∧ p = [] ∧ I9 a ∧ I9 b ∧ I9 c := by
  obtain ⟨v0, v1, v2, y0, y1, y2, n, rfl, rfl, rfl, h0, h1, h2⟩ := open_agg3 Tryd.underlying23 (by kernel_rfl) cellsDate9 hv h
  obtain ⟨a, e0, rfl, w0⟩ := DataW.trod_int Tryd.underlying3 h0
  obtain ⟨b, e1, rfl, w1⟩ := DataW.trod_int Tryd.underlying3 h1
  obtain ⟨c, e2, rfl, w2⟩ := DataW.trod_int Tryd.underlying3 h2
  simp only [List.cons.injEq, and_true] at e0 e1 e2
  exact ⟨a, b, c, by rw [e0, e1, e2], rfl, rfl, w0, w1, w2⟩
theorem shut_date9 {H : Type} {enc : TypeId × Value → H} {w : World} {base : Nat} {spare : Nat → Bool} {held : Bool} {a b c : Int} (h0 : I9 a) (h1 : I9 b) (h2 : I9 c) :
    DataW.Trod enc Tryd.prog w base spare held 23 (.agg #[.int .i64 a, .int .i64 b, .int .i64 c]) (.agg [.lit (.int .i64 a), .lit (.int .i64 b), .lit (.int .i64 c)]) [] := by
  unfold I9 at h0 h1 h2
  exact shut_agg3 (y0 := (.lit (.int .i64 a), [])) (y1 := (.lit (.int .i64 b), [])) (y2 := (.lit (.int .i64 c), [])) Tryd.underlying23 (by kernel_rfl) cellsDate9 ⟨1, by simp [DataW.trod, Tryd.underlying3, h0]⟩ ⟨1, by simp [DataW.trod, Tryd.underlying3, h1]⟩ ⟨1, by simp [DataW.trod, Tryd.underlying3, h2]⟩
def lens : List Int := [31, 28, 31, 30, 31, 30, 31, 31, 30, 31, 30, 31]
theorem lens_dim : ∀ i : Nat, i < 12 → lens.getD i 0 = dim false ((i : Int) + 1) := by decide
theorem lenOf (W : World) (h : TabIs Tryd.prog W "almucantar/calendar.lengths" .i64 lens) : HasLen W :=
  ⟨fun i hi => by
    have := TabIs.cell (g := 0) h (by kernel_rfl) i (by show i < 12; exact hi)
    rw [lens_dim i hi] at this
    exact this⟩
theorem lenTab (W : World) (h : laidMet Tryd.prog [("almucantar/calendar.lengths", Rows.laid_almucantar_calendar_lengths)] W) : HasLen W := by
  have h1 : laidMet Tryd.prog [("almucantar/calendar.lengths", tabData .i64 lens)] W := h
  exact lenOf W (tabIs_of_head (g := 0) (by kernel_rfl) (by kernel_rfl) (t := 55) Tryd.underlying55 Tryd.underlying3 (by kernel_rfl) (by kernel_rfl) h1)
end Go.Proofs.YtfknmceffkagaaaDoor
