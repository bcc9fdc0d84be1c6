/- Place: PlaceTurned: the law. -/
import Derived.Test.YtndcjldnnfhedaaDoorPcTv
namespace Go.Proofs.YtndcjldnnfhedaaDoor
open Go.RowKit
set_option linter.unusedVariables false
set_option maxRecDepth 100000

set_option maxHeartbeats 4000000 in
theorem turned8 (a b c d e f g h x y t : Int) (w : World) (H : Pc8 w) (t1 : -2147483648 ≤ t) (t2 : t ≤ 2147483647) :
    Calls Tryd.prog 4 #[.agg #[.int .i64 a, .int .i64 b, .int .i64 c, .int .i64 d], .agg #[.int .i64 e, .int .i64 f, .int .i64 g, .int .i64 h], .agg #[.int .i64 x, .int .i64 y], .int .i32 t] w fun r w' => r = .returned (.bool true) ∧ Below w.heap.size w w' := by
  have CW := Lib.hid (fun wx (Hx : Pc8 wx) => awake8 wx Hx)
  have V1 := Lib.hid (fun wx (Hx : HasAll wx) => pPlValid a b c d wx Hx)
  have V2 := Lib.hid (fun wx (Hx : HasAll wx) => pPlValid e f g h wx Hx)
  have VP := Lib.hid (fun wx => pPtValid x y wx)
  cases hv : (plOk a b c d && (plOk e f g h && ptOk x y))
  · exact turned_bad a b c d e f g h x y t _ _ _ w H hv CW V1 V2 VP
  · obtain ⟨h1, h23⟩ := Bool.and_eq_true_iff.1 hv
    obtain ⟨h2, h3⟩ := Bool.and_eq_true_iff.1 h23
    obtain ⟨la1, lo1⟩ := (plOk_iff _ _ _ _).1 h1
    obtain ⟨la2, lo2⟩ := (plOk_iff _ _ _ _).1 h2
    obtain ⟨p1, p2, p3, p4⟩ := (ptOk_iff _ _).1 h3
    have h4 : plOk a b (mvL c d t) (mvH c d t) = true := (plOk_iff _ _ _ _).2 ⟨la1, mv_lon lo1 t⟩
    have h5 : plOk e f (mvL g h t) (mvH g h t) = true := (plOk_iff _ _ _ _).2 ⟨la2, mv_lon lo2 t⟩
    have mi := mv_in (y + t)
    have h6 : ptOk x (mv (y + t)) = true := (ptOk_iff _ _).2 ⟨p1, p2, mi.1, mi.2.1⟩
    have e1 : insB a b (mvL c d t) (mvH c d t) e f (mvL g h t) (mvH g h t) = insB a b c d e f g h := by
      unfold insB; rw [h1, h2, h4, h5, mv_part lo1 lo2]
    have e2 : conV a b (mvL c d t) (mvH c d t) x (mv (y + t)) = conB a b c d x y := by
      unfold conV conB; rw [h4, h6, mv_point lo1 ⟨p3, p4⟩]; simp
    have e3 : conV a b c d x y = conB a b c d x y := by unfold conV; rw [h1, h3]; simp
    have e4 : conE a b c d x y = 0 := by unfold conE; rw [if_pos ⟨h3, h1⟩]
    have e5 : conE a b (mvL c d t) (mvH c d t) x (mv (y + t)) = 0 := by unfold conE; rw [if_pos ⟨h6, h4⟩]
    have hw := mv_wid lo1 lo2 t
    obtain ⟨k1, k2, k3, -, k5⟩ := lon_bd (arnd_ok [(c, d), (g, h)])
    obtain ⟨j1, j2, j3, -, j5⟩ := lon_bd (arnd_ok [(mvL c d t, mvH c d t), (mvL g h t, mvH g h t)])
    rw [h1] at V1
    rw [h2] at V2
    rw [h3] at VP
    have H1 := Lib.hid (fun wx (Hx : HasAll wx) => toldV ((if_pos (Bool.and_eq_true_iff.2 ⟨h1, h2⟩)).trans rfl) (pPlHull a b c d e f g h wx Hx))
    have H2 := Lib.hid (fun wx (Hx : HasAll wx) => toldV ((if_pos (Bool.and_eq_true_iff.2 ⟨h4, h5⟩)).trans rfl) (pPlHull a b (mvL c d t) (mvH c d t) e f (mvL g h t) (mvH g h t) wx Hx))
    exact turned_walk a b c d e f g h x y t (mvL c d t) (mvH c d t) (mvL g h t) (mvH g h t) (mv (y + t)) (min a e) (max b f)
      (arnd [(c, d), (g, h)]).1 (arnd [(c, d), (g, h)]).2
      (arnd [(mvL c d t, mvH c d t), (mvL g h t, mvH g h t)]).1 (arnd [(mvL c d t, mvH c d t), (mvL g h t, mvH g h t)]).2
      (insB a b c d e f g h) (conB a b c d x y) w H t1 t2 p3 p4 ⟨by omega, by omega⟩ ⟨by omega, by omega⟩ ⟨k3, j3⟩ hw.symm
      CW V1 V2 VP
      (Lib.hid fun wx => pMoved a b c d t wx lo1 t1 t2) (Lib.hid fun wx => pMoved e f g h t wx lo2 t1 t2) (Lib.hid fun wx => pMv (y + t) wx (by omega) (by omega))
      (Lib.hid fun wx Hx => toldV (congrArg Value.bool h4) (pPlValid _ _ _ _ wx Hx)) (Lib.hid fun wx Hx => toldV (congrArg Value.bool h5) (pPlValid _ _ _ _ wx Hx)) (Lib.hid fun wx => toldV (congrArg Value.bool h6) (pPtValid _ _ wx))
      (Lib.hid fun wx Hx => pPlInside a b c d e f g h wx Hx) (Lib.hid fun wx Hx => toldV (congrArg Value.bool e1) (pPlInside _ _ _ _ _ _ _ _ wx Hx))
      (Lib.hid fun wx Hx => toldV (by rw [e3, e4]) (pContains a b c d x y wx Hx)) (Lib.hid fun wx Hx => toldV (by rw [e2, e5]) (pContains _ _ _ _ _ _ wx Hx))
      H1 H2
end Go.Proofs.YtndcjldnnfhedaaDoor
