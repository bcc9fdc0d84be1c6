/- The closure of RatioMiddle: a fitting number between the list's least and greatest is within. -/
import Derived.Test.YtlcmnfhkicjclaaDoorRdP
namespace Go.Proofs.YtlcmnfhkicjclaaDoor
open Go.RowKit
set_option linter.unusedVariables false

/-- what the closure reads, in a world -/
structure Wi (w0 w : World) (B g c p : Nat) (x lo hi : Rat) : Prop where
  box : w.cell? ⟨B, 0, none⟩ = some (.slice (some ⟨g, 0, none⟩) (p + 1) c)
  a : At2 w w0.heap.size (.int .i64 x.num) (.int .i64 (x.den : Int))
  l0 : w.cell? ⟨g, 0, none⟩ = some (.int .i64 lo.num)
  l1 : w.cell? ⟨g, 1, none⟩ = some (.int .i64 (lo.den : Int))
  h0 : w.cell? ⟨g, p * 2, none⟩ = some (.int .i64 hi.num)
  h1 : w.cell? ⟨g, p * 2 + 1, none⟩ = some (.int .i64 (hi.den : Int))
  bl : B < w.heap.size
  gl : g < w.heap.size
  bel : Below w0.heap.size w0 w
theorem Wi.keep {w0 w w' : World} {B g c p : Nat} {x lo hi : Rat} (h : Wi w0 w B g c p x lo hi) (hb : Below w.heap.size w w') : Wi w0 w' B g c p x lo hi :=
  ⟨(hb.cell (p := ⟨B, 0, none⟩) h.bl).trans h.box, h.a.keep hb, (hb.cell (p := ⟨g, 0, none⟩) h.gl).trans h.l0, (hb.cell (p := ⟨g, 1, none⟩) h.gl).trans h.l1,
   (hb.cell (p := ⟨g, p * 2, none⟩) h.gl).trans h.h0, (hb.cell (p := ⟨g, p * 2 + 1, none⟩) h.gl).trans h.h1, Nat.lt_of_lt_of_le h.bl hb.size, Nat.lt_of_lt_of_le h.gl hb.size, bstep h.bel hb⟩

set_option maxRecDepth 100000 in
set_option maxHeartbeats 16000000 in
theorem within_ok (x lo hi : Rat) (B g c p : Nat) (w : World) (fx : rfit x = true) (fl : rfit lo = true) (fh : rfit hi = true) (hl : lo ≤ x) (hh : x ≤ hi) (hp : p ≤ 3000)
    (h : Wi w ((w.alloc (.cells #[.int .i64 x.num, .int .i64 (x.den : Int)] 24)).drew) B g c p x lo hi) :
    Calls Tryd.prog 43 #[.agg #[.int .i64 x.num, .int .i64 (x.den : Int)], .pointer (some ⟨B, 0, none⟩)] w fun e w' => e = .returned (.bool true) ∧ Below w.heap.size w w' := by
  have CV := Lib.hid (fun wx => rvalid_is x.num (x.den : Int) true (rok_of fx) wx)
  have C1 := Lib.hid (fun wx => rCmp lo x wx fl fx)
  have C2 := Lib.hid (fun wx => rCmp x hi wx fx fh)
  have r1 := (rcmp_le lo x).2 hl
  have r2 := (rcmp_le x hi).2 hh
  obtain ⟨q1, hq1⟩ : ∃ r, r = rcmp lo x := ⟨_, rfl⟩
  obtain ⟨q2, hq2⟩ : ∃ r, r = rcmp x hi := ⟨_, rfl⟩
  rw [← hq1] at C1 r1
  rw [← hq2] at C2 r2
  have T := Lib.hid h
  have uw : IntKind.i64.wrap (p : Int) = (p : Int) := IntWalk.i64_in _ (by omega)
  have v1 : (0 : Int) < (p : Int) + 1 := by omega
  have v2 : (p : Int) < (p : Int) + 1 := by omega
  have v3 : (0 : Int) ≤ (p : Int) := by omega
  have v4 : (p : Int) ≤ 3000 := by omega
  clear hq1 hq2 fx fl fh hl hh h hp
  go_enter Tryd.func43, Tryd.ntmps43
  obtain ⟨cb, ⟨a0, a1, -, -, -⟩, l0, l1, h0, h1, -, -, -⟩ := id T.out
  go_wp2_with fail
  go_region_with
    (first
    | (go_at_call 16; refine (CV.out _).mono ?_; rintro e w3 ⟨rfl, hb3⟩; have T := Lib.hid (T.out.keep hb3); clear hb3 cb a0 a1 l0 l1 h0 h1; obtain ⟨cb, ⟨a0, a1, -, -, -⟩, l0, l1, h0, h1, -, -, -⟩ := id T.out)
    | (go_at_call 30; (first | (with_reducible refine (C1.out _).mono ?_) | (with_reducible refine (C2.out _).mono ?_)); rintro e w3 ⟨rfl, hb3⟩; have T := Lib.hid (T.out.keep hb3); clear hb3 cb a0 a1 l0 l1 h0 h1; obtain ⟨cb, ⟨a0, a1, -, -, -⟩, l0, l1, h0, h1, -, -, -⟩ := id T.out))
  all_goals
    go_wp2_with fail
    go_ret
    exact ⟨rfl, T.out.bel⟩
end Go.Proofs.YtlcmnfhkicjclaaDoor
