/- TrigParts: the law's walk, from what is asked of the program. -/
import Derived.Test.YtglmkpnnbgkndaaDoorTrR
import Derived.Test.YtglmkpnnbgkndaaDoorTrL
namespace Go.Proofs.YtglmkpnnbgkndaaDoor
open Go.RowKit
set_option linter.unusedVariables false
set_option maxRecDepth 100000

theorem rnd_of {w : World} {f : Nat} {m a b p q d : Int} {F G : Int → Int → Int} (hd : b - a = d)
    (ta : ∀ wx, Below w.heap.size w wx → Calls Tryd.prog f #[.agg #[.int .i64 a, .int .i64 b]] wx fun e w' => e = .returned (tU (F a b) (G a b)) ∧ Below wx.heap.size wx w')
    (tp : ∀ wx, Below w.heap.size w wx → Calls Tryd.prog f #[.agg #[.int .i64 p, .int .i64 q]] wx fun e w' => e = .returned (tU (F p q) (G p q)) ∧ Below wx.heap.size wx w')
    (tn : ∀ wx, Below w.heap.size w wx → Calls Tryd.prog f #[.agg #[.int .i64 p, .int .i64 p]] wx fun e w' => e = .returned (tU (F p p) (G p p)) ∧ Below wx.heap.size wx w')
    (h : Part m (F a b) (G a b) (F p q) (G p q) (F p p) (G p p)) (full : 21600000 ≤ b - a → F a b = m ∧ G a b = 1073741824) : Rnd w f m a b p q d := by
  obtain ⟨h1, h2, h3, h4, h5, h6, h7, h8, h9⟩ := h
  refine ⟨⟨F a b, G a b, F p q, G p q, F p p, G p p, ta, tp, tn, decide_eq_false (by omega), decide_eq_false (by omega), decide_eq_false (by omega), decide_eq_false (by omega), decide_eq_false (by omega), decide_eq_false (by omega), decide_eq_false (by omega), G p p - F p p, rfl, decide_eq_false (by omega), decide_eq_false (by omega), by omega, by omega, ?_⟩⟩
  by_cases c : 21600000 ≤ b - a
  · obtain ⟨e1, e2⟩ := full c
    exact .inr ⟨decide_eq_true (by omega), e1.symm, e2.symm⟩
  · exact .inl (decide_eq_false (by omega))
theorem parts_walk (w : World) (P : TrProg w) (a b i k : Int) (i1 : 0 ≤ i) (i2 : i ≤ 4294967295) (k1 : 0 ≤ k) (k2 : k ≤ 4294967295) :
    Calls Tryd.prog 7 #[.agg #[.int .i64 a, .int .i64 b], .int .u32 i, .int .u32 k] w fun e w' => e = .returned (.bool true) ∧ Below w.heap.size w w' := by
  cases hr : rok a b
  · exact parts_out w P a b i k hr
  · obtain ⟨a1, b2, ab⟩ := (rok_iff a b).1 hr
    have r1 : i.tmod (b - a + 1) = i % (b - a + 1) := Int.tmod_eq_emod_of_nonneg i1
    have r2 : k.tmod (b - a + 1) = k % (b - a + 1) := Int.tmod_eq_emod_of_nonneg k1
    have r3 := Int.emod_nonneg i (show b - a + 1 ≠ 0 by omega)
    have r4 := Int.emod_lt_of_pos i (show 0 < b - a + 1 by omega)
    have r5 := Int.emod_nonneg k (show b - a + 1 ≠ 0 by omega)
    have r6 := Int.emod_lt_of_pos k (show 0 < b - a + 1 by omega)
    rw [← r1] at r3 r4
    rw [← r2] at r5 r6
    obtain ⟨r, hr'⟩ : ∃ r, i.tmod (b - a + 1) = r := ⟨_, rfl⟩
    obtain ⟨s, hs'⟩ : ∃ s, k.tmod (b - a + 1) = s := ⟨_, rfl⟩
    rw [hr'] at r3 r4
    rw [hs'] at r5 r6
    have p1 : a ≤ min (a + r) (a + s) := by omega
    have p2 : min (a + r) (a + s) ≤ max (a + r) (a + s) := by omega
    have p3 : max (a + r) (a + s) ≤ b := by omega
    have g : Arc38 a b := ⟨by omega, by omega⟩
    have g39 : Arc39 a b := ⟨by omega, by omega⟩
    refine parts_in w a b i k (b - a) (b - a + 1) r s (a + r) (a + s) rfl rfl hr' hs' rfl rfl a1 b2 ab i1 i2 k1 k2 (by omega) (by omega) (by omega) (by omega)
      (fun wx hb => awake_any w P wx hb) (fun wx => right_is a b true hr wx) ?_ ?_ ?_
    · exact rnd_of (F := L6.sL) (G := L6.sH) rfl (told_sin w P (aok_mk (by omega) (by omega) (by omega)) ⟨rfl, rfl⟩) (told_sin w P (aok_mk (by omega) (by omega) (by omega)) ⟨rfl, rfl⟩) (told_sin w P (aok_mk (by omega) (by omega) (by omega)) ⟨rfl, rfl⟩) (part_sin g39 p1 p2 p3) full_sin
    · exact rnd_of (F := fun a b => L6.sL (a + 5400000) (b + 5400000)) (G := fun a b => L6.sH (a + 5400000) (b + 5400000)) rfl (told_cos w P (aok_mk (by omega) (by omega) (by omega)) ⟨rfl, rfl⟩) (told_cos w P (aok_mk (by omega) (by omega) (by omega)) ⟨rfl, rfl⟩) (told_cos w P (aok_mk (by omega) (by omega) (by omega)) ⟨rfl, rfl⟩) (part_cos g p1 p2 p3) (fun h => full_sin (by omega))
    · exact rnd_of (F := hL) (G := hH) rfl (told_hav w P (aok_mk (by omega) (by omega) (by omega)) ⟨rfl, rfl⟩) (told_hav w P (aok_mk (by omega) (by omega) (by omega)) ⟨rfl, rfl⟩) (told_hav w P (aok_mk (by omega) (by omega) (by omega)) ⟨rfl, rfl⟩) (part_hav g p1 p2 p3) full_hav
end Go.Proofs.YtglmkpnnbgkndaaDoor
