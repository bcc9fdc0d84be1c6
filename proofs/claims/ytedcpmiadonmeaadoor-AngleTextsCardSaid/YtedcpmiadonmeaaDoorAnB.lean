/- Angle: contracts of the reference's Neg, Add, Sub, Hull, Meet, Turn. -/
import Derived.Test.YtedcpmiadonmeaaDoorAnA
namespace Go.Proofs.YtedcpmiadonmeaaDoor
open Go.RowKit
set_option linter.unusedVariables false

theorem rNeg (a b : Int) (w : World) (h : aok a b = true) :
    Calls Tryd.prog 24 #[.agg #[.int .i64 a, .int .i64 b]] w fun e w' => e = .returned (vI (-b) (-a)) ∧ Below w.heap.size w w' := by
  obtain ⟨h1, h2, h3⟩ := (aok_iff _ _).1 h
  obtain ⟨A, B⟩ := At2.two w (.int .i64 a) (.int .i64 b) (.int .i64 0) (.int .i64 0) 23 23
  obtain ⟨a0, a1, af0, af1, alt⟩ := A
  obtain ⟨b0, b1, bf0, bf1, blt⟩ := B
  obtain ⟨s0, s1⟩ := set2 b0 b1 (.int .i64 (-b)) (.int .i64 (-a))
  have e1 : (0 : Int) - b = -b := by omega
  have e2 : (0 : Int) - a = -a := by omega
  clear h
  unfold vI
  go_enter Tryd.func24, Tryd.ntmps24
  go_wp2_with fail
  refine bodyPost_ret (v := .agg #[.int .i64 (-b), .int .i64 (-a)]) (by simp [results, Tryd.results24, go_sem]) rfl ⟨rfl, ?_⟩
  exact below2 _ _ _
theorem rAdd (a b c d : Int) (w : World) (h1 : -4611686018427387904 ≤ a ∧ a ≤ 4611686018427387904) (h2 : -4611686018427387904 ≤ b ∧ b ≤ 4611686018427387904) (h3 : -4611686018427387904 < c ∧ c < 4611686018427387904) (h4 : -4611686018427387904 < d ∧ d < 4611686018427387904) :
    Calls Tryd.prog 27 #[.agg #[.int .i64 a, .int .i64 b], .agg #[.int .i64 c, .int .i64 d]] w fun e w' => e = .returned (vI (a + c) (b + d)) ∧ Below w.heap.size w w' := by
  obtain ⟨h1, h1'⟩ := h1
  obtain ⟨h2, h2'⟩ := h2
  obtain ⟨h3, h3'⟩ := h3
  obtain ⟨h4, h4'⟩ := h4
  obtain ⟨A, B, C⟩ := At2.three w (.int .i64 a) (.int .i64 b) (.int .i64 c) (.int .i64 d) (.int .i64 0) (.int .i64 0) 23 23 23
  obtain ⟨a0, a1, af0, af1, alt⟩ := A
  obtain ⟨b0, b1, bf0, bf1, blt⟩ := B
  obtain ⟨c0, c1, cf0, cf1, clt⟩ := C
  unfold vI
  go_enter Tryd.func27, Tryd.ntmps27
  go_wp2_with fail
  refine bodyPost_ret (v := .agg #[.int .i64 (a + c), .int .i64 (b + d)]) (by simp [results, Tryd.results27, go_sem]) rfl ⟨rfl, ?_⟩
  exact below3 _ _ _ _
theorem rSub (a b c d : Int) (w : World) (h1 : -4611686018427387904 ≤ a ∧ a ≤ 4611686018427387904) (h2 : -4611686018427387904 ≤ b ∧ b ≤ 4611686018427387904) (h3 : -4611686018427387904 < c ∧ c < 4611686018427387904) (h4 : -4611686018427387904 < d ∧ d < 4611686018427387904) :
    Calls Tryd.prog 28 #[.agg #[.int .i64 a, .int .i64 b], .agg #[.int .i64 c, .int .i64 d]] w fun e w' => e = .returned (vI (a - d) (b - c)) ∧ Below w.heap.size w w' := by
  obtain ⟨h1, h1'⟩ := h1
  obtain ⟨h2, h2'⟩ := h2
  obtain ⟨h3, h3'⟩ := h3
  obtain ⟨h4, h4'⟩ := h4
  obtain ⟨A, B, C⟩ := At2.three w (.int .i64 a) (.int .i64 b) (.int .i64 c) (.int .i64 d) (.int .i64 0) (.int .i64 0) 23 23 23
  obtain ⟨a0, a1, af0, af1, alt⟩ := A
  obtain ⟨b0, b1, bf0, bf1, blt⟩ := B
  obtain ⟨c0, c1, cf0, cf1, clt⟩ := C
  unfold vI
  go_enter Tryd.func28, Tryd.ntmps28
  go_wp2_with fail
  refine bodyPost_ret (v := .agg #[.int .i64 (a - d), .int .i64 (b - c)]) (by simp [results, Tryd.results28, go_sem]) rfl ⟨rfl, ?_⟩
  exact below3 _ _ _ _
theorem rHull (a b c d : Int) (w : World) :
    Calls Tryd.prog 31 #[.agg #[.int .i64 a, .int .i64 b], .agg #[.int .i64 c, .int .i64 d]] w fun e w' => e = .returned (vI (min a c) (max b d)) ∧ Below w.heap.size w w' := by
  obtain ⟨A, B, C⟩ := At2.three w (.int .i64 a) (.int .i64 b) (.int .i64 c) (.int .i64 d) (.int .i64 0) (.int .i64 0) 23 23 23
  have HB := Lib.hid (below3 w (.cells #[.int .i64 a, .int .i64 b] 23) (.cells #[.int .i64 c, .int .i64 d] 23) (.cells #[.int .i64 0, .int .i64 0] 23))
  obtain ⟨a0, a1, af0, af1, alt⟩ := A
  obtain ⟨b0, b1, bf0, bf1, blt⟩ := B
  obtain ⟨c0, c1, cf0, cf1, clt⟩ := C
  unfold vI
  by_cases k1 : c < a
  · rw [show min a c = c by omega]
    by_cases k2 : d > b
    · rw [show max b d = d by omega]
      go_enter Tryd.func31, Tryd.ntmps31
      go_wp2_with fail
      refine bodyPost_ret (v := .agg #[.int .i64 (c), .int .i64 (d)]) (by simp [results, Tryd.results31, go_sem]) rfl ⟨rfl, ?_⟩
      exact below3 _ _ _ _
    · rw [show max b d = b by omega]
      go_enter Tryd.func31, Tryd.ntmps31
      go_wp2_with fail
      refine bodyPost_ret (v := .agg #[.int .i64 (c), .int .i64 (b)]) (by simp [results, Tryd.results31, go_sem]) rfl ⟨rfl, ?_⟩
      exact below3 _ _ _ _
  · rw [show min a c = a by omega]
    by_cases k2 : d > b
    · rw [show max b d = d by omega]
      go_enter Tryd.func31, Tryd.ntmps31
      go_wp2_with fail
      refine bodyPost_ret (v := .agg #[.int .i64 (a), .int .i64 (d)]) (by simp [results, Tryd.results31, go_sem]) rfl ⟨rfl, ?_⟩
      exact below3 _ _ _ _
    · rw [show max b d = b by omega]
      go_enter Tryd.func31, Tryd.ntmps31
      go_wp2_with fail
      refine bodyPost_ret (v := .agg #[.int .i64 (a), .int .i64 (b)]) (by simp [results, Tryd.results31, go_sem]) rfl ⟨rfl, ?_⟩
      exact below3 _ _ _ _
theorem rMeet (a b c d : Int) (w : World) :
    Calls Tryd.prog 33 #[.agg #[.int .i64 a, .int .i64 b], .agg #[.int .i64 c, .int .i64 d]] w fun e w' => e = .returned (vI (max a c) (min b d)) ∧ Below w.heap.size w w' := by
  obtain ⟨A, B, C⟩ := At2.three w (.int .i64 a) (.int .i64 b) (.int .i64 c) (.int .i64 d) (.int .i64 0) (.int .i64 0) 23 23 23
  have HB := Lib.hid (below3 w (.cells #[.int .i64 a, .int .i64 b] 23) (.cells #[.int .i64 c, .int .i64 d] 23) (.cells #[.int .i64 0, .int .i64 0] 23))
  obtain ⟨a0, a1, af0, af1, alt⟩ := A
  obtain ⟨b0, b1, bf0, bf1, blt⟩ := B
  obtain ⟨c0, c1, cf0, cf1, clt⟩ := C
  unfold vI
  by_cases k1 : c > a
  · rw [show max a c = c by omega]
    by_cases k2 : d < b
    · rw [show min b d = d by omega]
      go_enter Tryd.func33, Tryd.ntmps33
      go_wp2_with fail
      refine bodyPost_ret (v := .agg #[.int .i64 (c), .int .i64 (d)]) (by simp [results, Tryd.results33, go_sem]) rfl ⟨rfl, ?_⟩
      exact below3 _ _ _ _
    · rw [show min b d = b by omega]
      go_enter Tryd.func33, Tryd.ntmps33
      go_wp2_with fail
      refine bodyPost_ret (v := .agg #[.int .i64 (c), .int .i64 (b)]) (by simp [results, Tryd.results33, go_sem]) rfl ⟨rfl, ?_⟩
      exact below3 _ _ _ _
  · rw [show max a c = a by omega]
    by_cases k2 : d < b
    · rw [show min b d = d by omega]
      go_enter Tryd.func33, Tryd.ntmps33
      go_wp2_with fail
      refine bodyPost_ret (v := .agg #[.int .i64 (a), .int .i64 (d)]) (by simp [results, Tryd.results33, go_sem]) rfl ⟨rfl, ?_⟩
      exact below3 _ _ _ _
    · rw [show min b d = b by omega]
      go_enter Tryd.func33, Tryd.ntmps33
      go_wp2_with fail
      refine bodyPost_ret (v := .agg #[.int .i64 (a), .int .i64 (b)]) (by simp [results, Tryd.results33, go_sem]) rfl ⟨rfl, ?_⟩
      exact below3 _ _ _ _
theorem rTurn (a b : Int) (w : World) (h : aok a b = true) :
    Calls Tryd.prog 36 #[.agg #[.int .i64 a, .int .i64 b]] w fun e w' => e = .returned (vI (trL a b) (trH a b)) ∧ Below w.heap.size w w' := by
  obtain ⟨h1, h2, h3⟩ := (aok_iff _ _).1 h
  obtain ⟨A, B⟩ := At2.two w (.int .i64 a) (.int .i64 b) (.int .i64 0) (.int .i64 0) 23 23
  have HB := Lib.hid (below2 w (.cells #[.int .i64 a, .int .i64 b] 23) (.cells #[.int .i64 0, .int .i64 0] 23))
  have CW := Lib.hid (fun wx => rWrap a wx)
  have wi := wrapN_in a
  obtain ⟨a0, a1, af0, af1, alt⟩ := A
  obtain ⟨b0, b1, bf0, bf1, blt⟩ := B
  clear h
  unfold vI
  by_cases k : b - a ≥ 21600000
  · rw [show trL a b = 0 from if_pos k, show trH a b = 21600000 from if_pos k]
    go_enter Tryd.func36, Tryd.ntmps36
    go_wp2_with fail
    refine bodyPost_ret (v := .agg #[.int .i64 (0), .int .i64 (21600000)]) (by simp [results, Tryd.results36, go_sem]) rfl ⟨rfl, ?_⟩
    exact below2 _ _ _
  · rw [show trL a b = wrapN a from if_neg k, show trH a b = wrapN a + (b - a) from if_neg k]
    generalize wrapN a = v at *
    obtain ⟨wi, wi'⟩ := wi
    go_enter Tryd.func36, Tryd.ntmps36
    go_wp2_with fail
    refine (CW.out _).mono ?_
    rintro e w1 ⟨rfl, rfl⟩
    go_wp2_with fail
    refine bodyPost_ret (v := .agg #[.int .i64 (v), .int .i64 (v + (b - a))]) (by simp [results, Tryd.results36, go_sem]) rfl ⟨rfl, ?_⟩
    exact below2 _ _ _
end Go.Proofs.YtedcpmiadonmeaaDoor
