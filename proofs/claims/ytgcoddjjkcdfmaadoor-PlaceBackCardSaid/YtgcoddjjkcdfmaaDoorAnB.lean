/- Angle: contracts of the reference's Neg, Add, Sub, Hull, Meet, Turn. -/
import Derived.Test.YtgcoddjjkcdfmaaDoorAnA
namespace Go.Proofs.YtgcoddjjkcdfmaaDoor
open Go.RowKit
set_option linter.unusedVariables false

theorem rHull (a b c d : Int) (w : World) :
    Calls Tryd.prog 43 #[.agg #[.int .i64 a, .int .i64 b], .agg #[.int .i64 c, .int .i64 d]] w fun e w' => e = .returned (vI (min a c) (max b d)) ∧ Below w.heap.size w w' := by
  obtain ⟨A, B, C⟩ := At2.three w (.int .i64 a) (.int .i64 b) (.int .i64 c) (.int .i64 d) (.int .i64 0) (.int .i64 0) 23 23 23
  have HB := Lib.hid (below3 w (.cells #[.int .i64 a, .int .i64 b] 23) (.cells #[.int .i64 c, .int .i64 d] 23) (.cells #[.int .i64 0, .int .i64 0] 23))
  obtain ⟨a0, a1, af0, af1, alt⟩ := A
  obtain ⟨b0, b1, bf0, bf1, blt⟩ := B
  obtain ⟨c0, c1, cf0, cf1, clt⟩ := C
  unfold vI
  by_cases k1 : c < a
  · rw [show min a c = c by omega]
    by_cases k2 : d > b
    · rw [show max b d = d by omega]
      go_enter Tryd.func43, Tryd.ntmps43
      go_wp2_with fail
      refine bodyPost_ret (v := .agg #[.int .i64 (c), .int .i64 (d)]) (by simp [results, Tryd.results43, go_sem]) rfl ⟨rfl, ?_⟩
      exact below3 _ _ _ _
    · rw [show max b d = b by omega]
      go_enter Tryd.func43, Tryd.ntmps43
      go_wp2_with fail
      refine bodyPost_ret (v := .agg #[.int .i64 (c), .int .i64 (b)]) (by simp [results, Tryd.results43, go_sem]) rfl ⟨rfl, ?_⟩
      exact below3 _ _ _ _
  · rw [show min a c = a by omega]
    by_cases k2 : d > b
    · rw [show max b d = d by omega]
      go_enter Tryd.func43, Tryd.ntmps43
      go_wp2_with fail
      refine bodyPost_ret (v := .agg #[.int .i64 (a), .int .i64 (d)]) (by simp [results, Tryd.results43, go_sem]) rfl ⟨rfl, ?_⟩
      exact below3 _ _ _ _
    · rw [show max b d = b by omega]
      go_enter Tryd.func43, Tryd.ntmps43
      go_wp2_with fail
      refine bodyPost_ret (v := .agg #[.int .i64 (a), .int .i64 (b)]) (by simp [results, Tryd.results43, go_sem]) rfl ⟨rfl, ?_⟩
      exact below3 _ _ _ _
theorem rMeet (a b c d : Int) (w : World) :
    Calls Tryd.prog 41 #[.agg #[.int .i64 a, .int .i64 b], .agg #[.int .i64 c, .int .i64 d]] w fun e w' => e = .returned (vI (max a c) (min b d)) ∧ Below w.heap.size w w' := by
  obtain ⟨A, B, C⟩ := At2.three w (.int .i64 a) (.int .i64 b) (.int .i64 c) (.int .i64 d) (.int .i64 0) (.int .i64 0) 23 23 23
  have HB := Lib.hid (below3 w (.cells #[.int .i64 a, .int .i64 b] 23) (.cells #[.int .i64 c, .int .i64 d] 23) (.cells #[.int .i64 0, .int .i64 0] 23))
  obtain ⟨a0, a1, af0, af1, alt⟩ := A
  obtain ⟨b0, b1, bf0, bf1, blt⟩ := B
  obtain ⟨c0, c1, cf0, cf1, clt⟩ := C
  unfold vI
  by_cases k1 : c > a
  · rw [show max a c = c by omega]
    by_cases k2 : d < b
    · rw [show min b d = d by omega]
      go_enter Tryd.func41, Tryd.ntmps41
      go_wp2_with fail
      refine bodyPost_ret (v := .agg #[.int .i64 (c), .int .i64 (d)]) (by simp [results, Tryd.results41, go_sem]) rfl ⟨rfl, ?_⟩
      exact below3 _ _ _ _
    · rw [show min b d = b by omega]
      go_enter Tryd.func41, Tryd.ntmps41
      go_wp2_with fail
      refine bodyPost_ret (v := .agg #[.int .i64 (c), .int .i64 (b)]) (by simp [results, Tryd.results41, go_sem]) rfl ⟨rfl, ?_⟩
      exact below3 _ _ _ _
  · rw [show max a c = a by omega]
    by_cases k2 : d < b
    · rw [show min b d = d by omega]
      go_enter Tryd.func41, Tryd.ntmps41
      go_wp2_with fail
      refine bodyPost_ret (v := .agg #[.int .i64 (a), .int .i64 (d)]) (by simp [results, Tryd.results41, go_sem]) rfl ⟨rfl, ?_⟩
      exact below3 _ _ _ _
    · rw [show min b d = b by omega]
      go_enter Tryd.func41, Tryd.ntmps41
      go_wp2_with fail
      refine bodyPost_ret (v := .agg #[.int .i64 (a), .int .i64 (b)]) (by simp [results, Tryd.results41, go_sem]) rfl ⟨rfl, ?_⟩
      exact below3 _ _ _ _
end Go.Proofs.YtgcoddjjkcdfmaaDoor
