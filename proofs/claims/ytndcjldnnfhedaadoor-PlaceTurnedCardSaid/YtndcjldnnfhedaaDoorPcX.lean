/- Place: PlaceBoxes and PlaceHolds: the walks. -/
import Derived.Test.YtndcjldnnfhedaaDoorPcW
namespace Go.Proofs.YtndcjldnnfhedaaDoor
open Go.RowKit
set_option linter.unusedVariables false
set_option maxRecDepth 100000

/-- the meet's answer, written out -/
theorem mt_form (a b c d e f g h : Int) : ∃ m1 m2 m3 m4 me : Int, mtV a b c d e f g h = .tuple #[.agg #[.int .i64 m1, .int .i64 m2, .int .i64 m3, .int .i64 m4], .int .i64 me] := by
  unfold mtV vPE
  split
  · exact ⟨_, _, _, _, _, rfl⟩
  · exact ⟨_, _, _, _, _, rfl⟩
theorem mt_bad {a b c d e f g h : Int} (hv : (plOk a b c d && plOk e f g h) = false) : mtV a b c d e f g h = .tuple #[.agg #[.int .i64 0, .int .i64 0, .int .i64 0, .int .i64 0], .int .i64 1] := by
  have e1 : mtE a b c d e f g h = 1 := by unfold mtE; rw [hv]; simp
  unfold mtV
  rw [e1, if_neg (by decide)]; rfl
theorem bool_and4 {p q r s : Prop} : True := trivial
/-- the hull's answer does not depend on the order -/
theorem hull_swap (a b c d e f g h : Int) : (if (plOk e f g h && plOk a b c d) = true then vPE (min e a) (max f b) (arnd [(g, h), (c, d)]).1 (arnd [(g, h), (c, d)]).2 0 else vPE 0 0 0 0 1) = (if (plOk a b c d && plOk e f g h) = true then vPE (min a e) (max b f) (arnd [(c, d), (g, h)]).1 (arnd [(c, d), (g, h)]).2 0 else vPE 0 0 0 0 1) := by
  rw [Bool.and_comm, Int.min_comm, Int.max_comm, hull_comm]
theorem mt_swap (a b c d e f g h : Int) : mtV e f g h a b c d = mtV a b c d e f g h := by
  obtain ⟨m1, m2⟩ := meet_comm c d g h
  have am : ameets e f a b = ameets a b e f := by unfold ameets; rw [Bool.eq_iff_iff, decide_eq_true_iff, decide_eq_true_iff]; omega
  have ee : mtE e f g h a b c d = mtE a b c d e f g h := by
    unfold mtE
    rw [Bool.and_comm (plOk e f g h), am]
    have : decide (pieces g h c d = []) = decide (pieces c d g h = []) := by rw [Bool.eq_iff_iff, decide_eq_true_iff, decide_eq_true_iff]; exact m2.symm
    rw [this]
  unfold mtV
  rw [ee, Int.max_comm e, Int.min_comm f, ← m1]
theorem pole_lat {x a b : Int} (h : decide (a ≤ x ∧ x ≤ b) = true) : a ≤ x ∧ x ≤ b := of_decide_eq_true h
theorem con_iff (a b c d x y : Int) : conB a b c d x y = true ↔ (a ≤ x ∧ x ≤ b) ∧ (poleB x = true ∨ partB y y c d = true) := by
  unfold conB
  rw [Bool.and_eq_true, Bool.or_eq_true, decide_eq_true_iff]
/-- what is in one of two places is in the hull -/
theorem hold1 {a b c d e f g h x y : Int} (h1 : plOk a b c d = true) (h2 : plOk e f g h = true) (k : conB a b c d x y = true ∨ conB e f g h x y = true) :
    conB (min a e) (max b f) (arnd [(c, d), (g, h)]).1 (arnd [(c, d), (g, h)]).2 x y = true := by
  obtain ⟨l1, n1⟩ := (plOk_iff _ _ _ _).1 h1
  obtain ⟨l2, n2⟩ := (plOk_iff _ _ _ _).1 h2
  obtain ⟨i1, i2⟩ := hull_in8 n1 n2
  have o := arnd_ok [(c, d), (g, h)]
  rw [con_iff, con_iff] at k
  rw [con_iff]
  rcases k with ⟨k1, k2⟩ | ⟨k1, k2⟩
  · exact ⟨by omega, k2.elim .inl (fun q => .inr (part_trans n1 o q i1))⟩
  · exact ⟨by omega, k2.elim .inl (fun q => .inr (part_trans n2 o q i2))⟩
theorem hull_ok8 {a b c d e f g h : Int} (h1 : plOk a b c d = true) (h2 : plOk e f g h = true) :
    plOk (min a e) (max b f) (arnd [(c, d), (g, h)]).1 (arnd [(c, d), (g, h)]).2 = true ∧ insB a b c d (min a e) (max b f) (arnd [(c, d), (g, h)]).1 (arnd [(c, d), (g, h)]).2 = true ∧ insB e f g h (min a e) (max b f) (arnd [(c, d), (g, h)]).1 (arnd [(c, d), (g, h)]).2 = true := by
  obtain ⟨l1, n1⟩ := (plOk_iff _ _ _ _).1 h1
  obtain ⟨l2, n2⟩ := (plOk_iff _ _ _ _).1 h2
  obtain ⟨i1, i2⟩ := hull_in8 n1 n2
  have o := arnd_ok [(c, d), (g, h)]
  have q1 := (latOk_iff _ _).1 l1
  have q2 := (latOk_iff _ _).1 l2
  have p : plOk (min a e) (max b f) (arnd [(c, d), (g, h)]).1 (arnd [(c, d), (g, h)]).2 = true := (plOk_iff _ _ _ _).2 ⟨(latOk_iff _ _).2 (by omega), o⟩
  refine ⟨p, ?_, ?_⟩
  · unfold insB
    rw [h1, p, i1, decide_eq_true (show min a e ≤ a ∧ b ≤ max b f by omega)]; rfl
  · unfold insB
    rw [h2, p, i2, decide_eq_true (show min a e ≤ e ∧ f ≤ max b f by omega)]; rfl
/-- what both contain is in the meet, but for poles -/
theorem hold2 {a b c d e f g h x y : Int} (h1 : plOk a b c d = true) (h2 : plOk e f g h = true) (hp : ptOk x y = true) (m1 m2 m3 m4 me : Int) (hm : mtV a b c d e f g h = .tuple #[.agg #[.int .i64 m1, .int .i64 m2, .int .i64 m3, .int .i64 m4], .int .i64 me]) :
    (me = 23 ∧ (poleB x = true ∨ conB a b c d x y = false ∨ conB e f g h x y = false)) ∨ (me = 0 ∧ plOk m1 m2 m3 m4 = true ∧ conE m1 m2 m3 m4 x y = 0 ∧ (poleB x = true ∨ conB a b c d x y = false ∨ conB e f g h x y = false ∨ conV m1 m2 m3 m4 x y = true)) := by
  obtain ⟨l1, n1⟩ := (plOk_iff _ _ _ _).1 h1
  obtain ⟨l2, n2⟩ := (plOk_iff _ _ _ _).1 h2
  have q1 := (latOk_iff _ _).1 l1
  have q2 := (latOk_iff _ _).1 l2
  have kp := (ptOk_iff _ _).1 hp
  have both : conB a b c d x y = true → conB e f g h x y = true → poleB x = false → ameets a b e f = true ∧ pieces c d g h ≠ [] ∧ conB (max a e) (min b f) (arnd (pieces c d g h)).1 (arnd (pieces c d g h)).2 x y = true := by
    intro k1 k2 k3
    rw [con_iff] at k1 k2 ⊢
    rw [k3] at k1 k2
    have j1 := k1.2.resolve_left (by decide)
    have j2 := k2.2.resolve_left (by decide)
    obtain ⟨z1, z2⟩ := meet_has n1 n2 ⟨kp.2.2.1, kp.2.2.2⟩ j1 j2
    exact ⟨decide_eq_true (by omega), z1, by omega, .inr z2⟩
  have em : mtE a b c d e f g h = if (ameets a b e f && !(decide (pieces c d g h = []))) = true then 0 else 23 := by unfold mtE; rw [h1, h2]; rfl
  by_cases hz : (ameets a b e f && !(decide (pieces c d g h = []))) = true
  · rw [if_pos hz] at em
    have ev : mtV a b c d e f g h = vPE (max a e) (min b f) (arnd (pieces c d g h)).1 (arnd (pieces c d g h)).2 0 := by unfold mtV; rw [em, if_pos rfl]
    rw [ev] at hm
    unfold vPE at hm
    simp only [Value.tuple.injEq, Value.agg.injEq, Value.int.injEq, Array.mk.injEq, List.cons.injEq, and_true, true_and] at hm
    obtain ⟨⟨rfl, rfl, rfl, rfl⟩, rfl⟩ := hm
    have am : a ≤ f ∧ e ≤ b := of_decide_eq_true (Bool.and_eq_true_iff.1 hz).1
    have pm : plOk (max a e) (min b f) (arnd (pieces c d g h)).1 (arnd (pieces c d g h)).2 = true := (plOk_iff _ _ _ _).2 ⟨(latOk_iff _ _).2 (by omega), arnd_ok _⟩
    refine .inr ⟨rfl, pm, if_pos ⟨hp, pm⟩, ?_⟩
    have ec : conV (max a e) (min b f) (arnd (pieces c d g h)).1 (arnd (pieces c d g h)).2 x y = conB (max a e) (min b f) (arnd (pieces c d g h)).1 (arnd (pieces c d g h)).2 x y := by unfold conV; rw [hp, pm]; simp
    rw [ec]
    cases p1 : poleB x
    · cases p2 : conB a b c d x y
      · exact .inr (.inl rfl)
      · cases p3 : conB e f g h x y
        · exact .inr (.inr (.inl rfl))
        · exact .inr (.inr (.inr (both p2 p3 p1).2.2))
    · exact .inl rfl
  · rw [if_neg hz] at em
    have ev : mtV a b c d e f g h = vPE 0 0 0 0 23 := by unfold mtV; rw [em, if_neg (by decide)]
    rw [ev] at hm
    unfold vPE at hm
    simp only [Value.tuple.injEq, Value.agg.injEq, Value.int.injEq, Array.mk.injEq, List.cons.injEq, and_true, true_and] at hm
    obtain ⟨-, rfl⟩ := hm
    refine .inl ⟨rfl, ?_⟩
    cases p1 : poleB x
    · cases p2 : conB a b c d x y
      · exact .inr (.inl rfl)
      · cases p3 : conB e f g h x y
        · exact .inr (.inr rfl)
        · obtain ⟨z1, z2, -⟩ := both p2 p3 p1
          exact absurd (by rw [z1]; simp [z2]) hz
    · exact .inl rfl
end Go.Proofs.YtndcjldnnfhedaaDoor
