/- ArctrigBearings' walk: the program and the reference give the same arcs. -/
import Derived.Test.YtndcjldnnfhedaaDoorArYn
import Derived.Test.YtndcjldnnfhedaaDoorArd
namespace Go.Proofs.YtndcjldnnfhedaaDoor
open Go.RowKit
set_option linter.unusedVariables false
set_option maxRecDepth 100000

theorem rBearing (a b c d : Int) (w : World) :
    Calls Tryd.prog 7 #[.agg #[.int .i64 a, .int .i64 b], .agg #[.int .i64 c, .int .i64 d]] w fun e w' => e = .returned (tAr (beL a b c d) (beH a b c d) (beE a b c d)) ∧ Below w.heap.size w w' := by
  unfold tAr beL beH beE
  rcases Bool.eq_false_or_eq_true (fok a b) with h | h
  · rcases Bool.eq_false_or_eq_true (fok c d) with k | k
    · have hk : (fok a b && fok c d) = true := by rw [h, k]; rfl
      rw [if_pos hk, if_pos hk, if_pos hk]
      rcases Bool.eq_false_or_eq_true (zI a b && zI c d) with z | z
      · rw [if_pos z, if_pos z]
        exact wd2.rbear_zero a b c d w h k z
      · have zn : ¬ (zI a b && zI c d) = true := by rw [z]; exact Bool.false_ne_true
        rw [if_neg zn, if_neg zn]
        obtain ⟨i1, i2⟩ := fl7_in h k
        obtain ⟨o1, o2⟩ := fl7_off h k z
        have C1 := fun wx => wd2.rAngle (fC a b c d) o1 i1 wx
        have C2 := fun wx => wd2.rAngle (lC a b c d) o2 i2 wx
        obtain ⟨u1, u2, u3, u4, u5⟩ := an_in o2
        have ux := wd2.anU_x (lC a b c d)
        have hx : (wd2.anX (lC a b c d) = true ∧ anU (lC a b c d) = anD (lC a b c d)) ∨ (wd2.anX (lC a b c d) = false ∧ anU (lC a b c d) = anD (lC a b c d) + 1) := by
          rcases Bool.eq_false_or_eq_true (wd2.anX (lC a b c d)) with q | q
          · rw [if_pos q] at ux; exact .inl ⟨q, ux⟩
          · rw [if_neg (by rw [q]; exact Bool.false_ne_true)] at ux; exact .inr ⟨q, ux⟩
        refine wd2.rbear_main a b c d w h k z _ _ _ _ _ _ C1 C2 u1 u2 hx ?_
        by_cases hc : anU (lC a b c d) < anD (fC a b c d)
        · exact .inl ⟨hc, by rw [if_pos hc]⟩
        · exact .inr ⟨hc, by rw [if_neg hc]⟩
    · have hk : ¬ (fok a b && fok c d) = true := by rw [k, Bool.and_false]; exact Bool.false_ne_true
      rw [if_neg hk, if_neg hk, if_neg hk]
      exact wd2.rbear_bad2 a b c d w h k
  · have hk : ¬ (fok a b && fok c d) = true := by rw [h, Bool.false_and]; exact Bool.false_ne_true
    rw [if_neg hk, if_neg hk, if_neg hk]
    exact wd2.rbear_bad1 a b c d w h
theorem bearings7_walk (w : World) (H : Held w) (a b c d : Int) (h1 : I64 a) (h2 : I64 b) (h3 : I64 c) (h4 : I64 d) :
    Calls Tryd.prog 3 #[.agg #[.int .i64 a, .int .i64 b], .agg #[.int .i64 c, .int .i64 d]] w fun e w' => e = .returned (.bool true) ∧ Below w.heap.size w w' := by
  have AW := Lib.hid (fun wx (hb : Below w.heap.size w wx) => awake7 w (arProg w H) wx hb)
  have C1 := Lib.hid (fun wx (hb : Below w.heap.size w wx) => pBearing a b c d wx (H.keep hb))
  have C2 := Lib.hid (fun wx => rBearing a b c d wx)
  unfold tAr at C1 C2
  obtain ⟨P, Q⟩ := At2.two w (.int .i64 a) (.int .i64 b) (.int .i64 c) (.int .i64 d) 23 23
  have HB := Lib.hid (below2 w (.cells #[.int .i64 a, .int .i64 b] 23) (.cells #[.int .i64 c, .int .i64 d] 23))
  generalize beL a b c d = l at *
  generalize beH a b c d = h at *
  generalize beE a b c d = er at *
  obtain ⟨P0, P1, -, -, -⟩ := id P
  obtain ⟨Q0, Q1, -, -, -⟩ := id Q
  clear h1 h2 h3 h4 H
  go_enter Tryd.func3, Tryd.ntmps3
  go_wp2_with fail
  refine (AW.out _ HB.out).mono ?_
  rintro e w1 ⟨rfl, hb⟩
  clear P0 P1 Q0 Q1
  have P := P.keep hb
  have Q := Q.keep hb
  have HB := Lib.hid (bstep HB.out hb)
  clear hb
  obtain ⟨P0, P1, -, -, -⟩ := id P
  obtain ⟨Q0, Q1, -, -, -⟩ := id Q
  go_wp2_with fail
  refine (C1.out _ HB.out).mono ?_
  rintro e w2 ⟨rfl, hb⟩
  clear P0 P1 Q0 Q1
  have N0 := At2.new w2 (.int .i64 l) (.int .i64 h) 25
  have n := below1 w2 (.cells #[.int .i64 l, .int .i64 h] 25)
  have P0' := P.keep hb
  have Q0' := Q.keep hb
  obtain ⟨P0, P1, -, -, Pl⟩ := id P0'
  obtain ⟨Q0, Q1, -, -, Ql⟩ := id Q0'
  have HB := Lib.hid (bstep (bstep HB.out hb) n)
  clear hb n P Q
  go_wp2_with fail
  refine (C2.out _).mono ?_
  rintro e w3 ⟨rfl, hb⟩
  clear P0 P1 Q0 Q1 P0' Q0'
  have N := N0.keep hb
  have HB := Lib.hid (bstep HB.out hb)
  have n := below1 w3 (.cells #[.int .i64 l, .int .i64 h] 25)
  have HB := Lib.hid (bstep HB.out n)
  clear hb n N0
  obtain ⟨N1, N2, -, -, Nl⟩ := id N
  go_wp2_with fail
  go_ret
  exact ⟨rfl, HB.out⟩
end Go.Proofs.YtndcjldnnfhedaaDoor
