/- TrigTurns: the law over the program's contracts. -/
import Derived.Test.YtglmkpnnbgkndaaDoorTrP
import Derived.Test.YtglmkpnnbgkndaaDoorTrL
namespace Go.Proofs.YtglmkpnnbgkndaaDoor
open Go.RowKit
set_option linter.unusedVariables false
set_option maxRecDepth 100000

abbrev tU (l h : Int) : Value := .tuple #[.agg #[.int .i64 l, .int .i64 h], .int .i64 0]
theorem told_sin (w : World) (P : TrProg w) {a b l h : Int} (k : aok a b = true) (e : L6.sL a b = l ∧ L6.sH a b = h) (wx : World) (hb : Below w.heap.size w wx) :
    Calls Tryd.prog 13 #[.agg #[.int .i64 a, .int .i64 b]] wx fun e w' => e = .returned (tU l h) ∧ Below wx.heap.size wx w' := by
  obtain ⟨k1, k2, k3⟩ := (aok_iff _ _).1 k
  have c := P.sin a b wx hb ⟨by omega, by omega⟩ ⟨by omega, by omega⟩
  rw [vTr_yes _ _ k, e.1, e.2] at c
  exact c
theorem told_cos (w : World) (P : TrProg w) {a b l h : Int} (k : aok a b = true) (e : L6.sL (a + 5400000) (b + 5400000) = l ∧ L6.sH (a + 5400000) (b + 5400000) = h) (wx : World) (hb : Below w.heap.size w wx) :
    Calls Tryd.prog 14 #[.agg #[.int .i64 a, .int .i64 b]] wx fun e w' => e = .returned (tU l h) ∧ Below wx.heap.size wx w' := by
  obtain ⟨k1, k2, k3⟩ := (aok_iff _ _).1 k
  have c := P.cos a b wx hb ⟨by omega, by omega⟩ ⟨by omega, by omega⟩
  rw [vTr_yes _ _ k, e.1, e.2] at c
  exact c
theorem told_hav (w : World) (P : TrProg w) {a b l h : Int} (k : aok a b = true) (e : hL a b = l ∧ hH a b = h) (wx : World) (hb : Below w.heap.size w wx) :
    Calls Tryd.prog 18 #[.agg #[.int .i64 a, .int .i64 b]] wx fun e w' => e = .returned (tU l h) ∧ Below wx.heap.size wx w' := by
  obtain ⟨k1, k2, k3⟩ := (aok_iff _ _).1 k
  have c := P.hav a b wx hb ⟨by omega, by omega⟩ ⟨by omega, by omega⟩
  rw [vTr_yes _ _ k, e.1, e.2] at c
  exact c
theorem turns_walk (w : World) (P : TrProg w) (a b k : Int) (k1 : -128 ≤ k) (k2 : k ≤ 127) :
    Calls Tryd.prog 6 #[.agg #[.int .i64 a, .int .i64 b], .int .i8 k] w fun e w' => e = .returned (.bool true) ∧ Below w.heap.size w w' := by
  cases hr : rok a b
  · exact turns_out w P a b k hr
  · obtain ⟨r1, r2, r3⟩ := (rok_iff a b).1 hr
    have g : Arc38 a b := ⟨r3, r1, r2⟩
    have bd := part_sin (a := a) (b := b) (p := a) (q := a) ⟨by omega, by omega⟩ (by omega) (by omega) (by omega)
    have x1 := bd.least
    have x2 := bd.most
    have x3 := bd.order
    exact turns_in w a b k (-b) (-a) (L6.sL a b) (L6.sH a b) (L6.sL (a + 5400000) (b + 5400000)) (L6.sH (a + 5400000) (b + 5400000)) (hL a b) (hH a b) (-L6.sL a b) (-L6.sH a b)
      (a + 5400000) (b + 5400000) (a + 10800000) (b + 10800000) (k * 21600000) (a + k * 21600000) (b + k * 21600000)
      rfl rfl rfl rfl rfl rfl rfl rfl rfl (by omega) (by omega) (by omega) (by omega) k1 k2 rfl rfl (by omega) (by omega) (by omega) (by omega)
      (fun wx hb => awake_any w P wx hb) (fun wx => right_is a b true hr wx)
      (told_sin w P (aok_mk (by omega) (by omega) (by omega)) ⟨rfl, rfl⟩) (told_cos w P (aok_mk (by omega) (by omega) (by omega)) ⟨rfl, rfl⟩) (told_hav w P (aok_mk (by omega) (by omega) (by omega)) ⟨rfl, rfl⟩)
      (told_sin w P (aok_mk (by omega) (by omega) (by omega)) (turn_back a b g)) (told_cos w P (aok_mk (by omega) (by omega) (by omega)) (turn_cback a b g)) (told_hav w P (aok_mk (by omega) (by omega) (by omega)) (turn_hback a b g))
      (told_sin w P (aok_mk (by omega) (by omega) (by omega)) ⟨rfl, rfl⟩) (told_sin w P (aok_mk (by omega) (by omega) (by omega)) (turn_half a b g))
      (told_sin w P (aok_mk (by omega) (by omega) (by omega)) (turn_whole a b k)) (told_cos w P (aok_mk (by omega) (by omega) (by omega)) (turn_cwhole a b k)) (told_hav w P (aok_mk (by omega) (by omega) (by omega)) (turn_hwhole a b k))
end Go.Proofs.YtglmkpnnbgkndaaDoor
