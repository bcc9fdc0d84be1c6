/- The contract of Tokens. -/
import Derived.Test.YtjpjgohomajlpaaDoorTokD
namespace Go.Proofs.YtjpjgohomajlpaaDoor
open Go.RowKit
set_option linter.unusedVariables false

def TokPost (w : World) (l : List UInt8) (e : Ending) (w' : World) : Prop :=
  ∃ v, e = .returned (.tuple #[v, .agg #[.int .i64 (tokLine l), .int .i64 (tokCol l)], .int .i64 (tokErr l)]) ∧ w'.ownsRow w.heap.size 30 4 v (tokTs l).length ((tokTs l).flatMap Tok.cells) ∧ Below w.heap.size w w'

/-- the state of the loop of Tokens -/
def TLoop (w0 : World) (s : ByteArray) (n : Nat) (wr : World) : Prop :=
  ∃ st v, n = s.size - st.pos ∧ Inv s.data.toList st ∧ Rd wr (w0.heap.size + 1) s st.pos st.line st.ls v st.ts ∧ runF s.data.toList.length s.data.toList st = runF s.data.toList.length s.data.toList st0 ∧ Below w0.heap.size w0 wr ∧
    (∃ x y, wr.heap[w0.heap.size]? = some (.cells #[.int .i64 x, .int .i64 y] 25 (0, 0)))

set_option maxRecDepth 100000 in
set_option maxHeartbeats 1000000 in
theorem tokens_any (s : ByteArray) (w : World) (hs : s.size ≤ 65536) :
    Calls Tryd.prog 5 #[.string s] w (TokPost w s.data.toList) := by
  go_enter Tryd.func5, Tryd.ntmps5
  go_wp2_with fail
  go_loopg [] s.size (fun n wr => TLoop w s n wr)
  case atStart =>
    refine ⟨st0, .slice none 0 0, rfl, ⟨Nat.le_refl _, Nat.zero_le _, Nat.le_refl _, Nat.le_refl _⟩, ?_, rfl, ((Below.refl _ _).alloc (Nat.le_refl _) _).alloc (by simp) _, ?_⟩
    · constructor <;> first | (simp; done) | (simp [st0]; done) | exact World.ownsRow_nil _ _ _ _
    · exact ⟨0, 0, by rw [Below.heap_alloc _ _ _ (by simp)]; exact heap_alloc_new w _⟩
  case round =>
    obtain ⟨st, v, hn, hi, hr, hrun, hb, x, y, hx⟩ := hrel
    have c1 := hr.c1
    have hsz := Lib.size_eq s
    have hR := hr.lt
    have HR := Lib.hid hr
    have HI := Lib.hid hi
    have HB := Lib.hid hb
    have HX := Lib.hid hx
    have HRUN := Lib.hid hrun
    have HN := Lib.hid hn
    have hpl := hi.pos
    rw [← hsz] at hpl
    clear hr hi hb hx hrun hn
    by_cases hlt : st.pos < s.size
    · have hst := step_any (w.heap.size + 1) s st v wr HR.out HI.out hlt hs
      have hlt' : st.pos < s.data.toList.length := by rw [← hsz]; exact hlt
      unfold StepPost at hst
      cases hsf : stepF s.data.toList st with
      | some st' =>
        rw [hsf] at hst
        have hv := stepF_inv HI.out hlt' hsf
        have hrs := runF_step HI.out hlt' hsf
        have C := Lib.hid hst
        have HV := Lib.hid hv
        have HRS := Lib.hid hrs
        clear hst hsf hv hrs hsz hlt'
        go_wp2_with (go_at_call 15; refine C.out.mono ?_; rintro e w1 ⟨rfl, ⟨v1, hr1⟩, hb1⟩)
        go_roundg (s.size - st'.pos)
        case measure => have := HV.out.2; have h0 := HN.out; omega
        case rel =>
          refine ⟨st', v1, rfl, HV.out.1, hr1, HRS.out.symm.trans HRUN.out, HB.out.trans (hb1.mono (by omega)), x, y, ?_⟩
          rw [hb1.block _ (by omega)]; exact HX.out
      | none =>
        rw [hsf] at hst
        have hrs := (runF_stuck HI.out hlt' hsf).symm.trans HRUN.out
        have hpos := fun (v1 : Value) (w1 : World) (h : Rd w1 (w.heap.size + 1) s st.pos st.line st.ls v1 st.ts) => position_any (w.heap.size + 1) s st.pos st.line st.ls v1 st.ts w1 h (by omega) (by have := HI.out.ls; omega) (by omega)
        have C := Lib.hid hst
        have HRS := Lib.hid hrs
        have HP := Lib.hid hpos
        clear hst hsf hrs hsz hlt' hpos
        go_wp2_with (go_at_call 15; refine C.out.mono ?_; rintro e w1 ⟨rfl, ⟨v1, hr1⟩, hb1⟩)
        refine (HP.out v1 w1 hr1).mono ?_
        rintro e w2 ⟨rfl, hb2⟩
        have hR1 := hr1.lt
        have hx2 : w2.heap[w.heap.size]? = some (.cells #[.int .i64 x, .int .i64 y] 25 (0, 0)) := by
          rw [hb2.block _ (by omega), hb1.block _ (by omega)]; exact HX.out
        have d0 : w2.cell? ⟨w.heap.size, 0, none⟩ = some (.int .i64 x) := by rw [cell_of_row w2 w.heap.size 0 _ _ _ hx2]; rfl
        have d1 : w2.cell? ⟨w.heap.size, 1, none⟩ = some (.int .i64 y) := by rw [cell_of_row w2 w.heap.size 1 _ _ _ hx2]; rfl
        have e0 : w2.frozen? ⟨w.heap.size, 0, none⟩ = false := frozen_of_row w2 w.heap.size 0 _ _ hx2
        have e1 : w2.frozen? ⟨w.heap.size, 1, none⟩ = false := frozen_of_row w2 w.heap.size 1 _ _ hx2
        have hbe := Lib.hid ((HB.out.trans (hb1.mono (by omega))).trans (hb2.mono (by omega)))
        have hlt2 : w.heap.size < w2.heap.size := by have := hb2.size; omega
        clear hr1 hb1 hb2 hx2
        go_wp2_with fail
        refine bodyPost_ret (v := .tuple #[.slice none 0 0, .agg #[.int .i64 st.line, .int .i64 ((st.pos : Int) - st.ls + 1)], .int .i64 7]) (by simp [results, Tryd.results5, go_sem, d0, d1]) rfl ⟨.slice none 0 0, ?_, ?_, ?_⟩
        · unfold tokLine tokCol tokErr; rw [← HRS.out]; rfl
        · have : tokTs s.data.toList = [] := by unfold tokTs; rw [← HRS.out]; rfl
          rw [this]; exact World.ownsRow_nil _ _ _ _
        · exact (hbe.out.setCell (Nat.le_refl _) _).setCell (Nat.le_refl _) _
    · have hge : st.pos = s.size := by omega
      have hrs := (runF_end HI.out (by rw [← hsz]; omega)).symm.trans HRUN.out
      have hil := HI.out.ls
      have hit := HI.out.ts
      have C := Lib.hid (take_any (w.heap.size + 1) s st.pos st.pos st.ls st.line 5 v st.ts wr HR.out hil (Nat.le_refl _) (by omega) hs (by omega))
      have ez : Hid ((s.extract st.pos st.pos).data.toList = []) := by show _ = _; simp
      have HRS := Lib.hid hrs
      clear hrs hsz hge hil hit
      go_wp2_with fail
      refine C.out.mono ?_
      rintro e w2 ⟨rfl, ⟨v1, hr1⟩, hb1⟩
      rw [ez.out] at hr1
      have k4 := hr1.c4
      have hR1 := hr1.lt
      have hx2 : w2.heap[w.heap.size]? = some (.cells #[.int .i64 x, .int .i64 y] 25 (0, 0)) := by
        rw [hb1.block _ (by omega)]; exact HX.out
      have d0 : w2.cell? ⟨w.heap.size, 0, none⟩ = some (.int .i64 x) := by rw [cell_of_row w2 w.heap.size 0 _ _ _ hx2]; rfl
      have d1 : w2.cell? ⟨w.heap.size, 1, none⟩ = some (.int .i64 y) := by rw [cell_of_row w2 w.heap.size 1 _ _ _ hx2]; rfl
      have e0 : w2.frozen? ⟨w.heap.size, 0, none⟩ = false := frozen_of_row w2 w.heap.size 0 _ _ hx2
      have e1 : w2.frozen? ⟨w.heap.size, 1, none⟩ = false := frozen_of_row w2 w.heap.size 1 _ _ hx2
      have hbe := Lib.hid (HB.out.trans (hb1.mono (by omega)))
      have hlt2 : w.heap.size < w2.heap.size := by omega
      have HO := Lib.hid hr1.own
      clear hr1 hb1 hx2
      go_wp2_with fail
      refine bodyPost_ret (v := .tuple #[v1, .agg #[.int .i64 0, .int .i64 0], .int .i64 0]) (by simp [results, Tryd.results5, go_sem, d0, d1]) rfl ⟨v1, ?_, ?_, ?_⟩
      · unfold tokLine tokCol tokErr; rw [← HRS.out]; rfl
      · have : tokTs s.data.toList = st.ts ++ [⟨5, [], st.line, (st.pos : Int) - st.ls + 1⟩] := by unfold tokTs; rw [← HRS.out]; rfl
        rw [this]
        exact (ownsRow_setCell_below (ownsRow_setCell_below HO.out (by show w.heap.size < w.heap.size + 1 + 1; omega) _) (by show w.heap.size < w.heap.size + 1 + 1; omega) _).mono (by omega)
      · exact (hbe.out.setCell (Nat.le_refl _) _).setCell (Nat.le_refl _) _

end Go.Proofs.YtjpjgohomajlpaaDoor
