/- Angle: the program's way of reading a text, and its answer in plain words. No run of the model here. -/
import Derived.Test.YtndcjldnnfhedaaDoorAnY
import Derived.Lib.CutLaws
import Derived.Lib.Strings
namespace Go.Proofs.YtndcjldnnfhedaaDoor
set_option linter.unusedVariables false

theorem idx_hit (b : UInt8) : ∀ (X Y : List UInt8), (∀ c ∈ X, c ≠ b) → Lib.index (X ++ b :: Y) [b] = (X.length : Int)
  | [], Y, _ => by rw [List.nil_append, Lib.index, if_pos (by simp [List.isPrefixOf])]; rfl
  | c :: X, Y, h => by
    have hb : c ≠ b := h c (List.mem_cons_self ..)
    have ih := idx_hit b X Y (fun d hd => h d (List.mem_cons_of_mem _ hd))
    rw [List.cons_append, Lib.index, if_neg (by simp [List.isPrefixOf]; exact fun e => hb e.symm), ih, if_neg (by simp)]
    simp
theorem idx_no (b : UInt8) : ∀ (X : List UInt8), (∀ c ∈ X, c ≠ b) → Lib.index X [b] = -1
  | [], _ => by rw [Lib.index]; rfl
  | c :: X, h => by
    have hb : c ≠ b := h c (List.mem_cons_self ..)
    have ih := idx_no b X (fun d hd => h d (List.mem_cons_of_mem _ hd))
    rw [Lib.index, ih, if_neg (by simp [List.isPrefixOf]; exact fun e => hb e.symm)]
    rfl
theorem cut_cases (b : UInt8) (u : List UInt8) : (∃ X Y, u = X ++ b :: Y ∧ (∀ c ∈ X, c ≠ b) ∧ Lib.cut u [b] = (X, Y, true)) ∨ ((∀ c ∈ u, c ≠ b) ∧ Lib.cut u [b] = (u, [], false)) := by
  by_cases h : b ∈ u
  · obtain ⟨X, Y, e, hn⟩ := List.eq_append_cons_of_mem h
    have hX : ∀ c ∈ X, c ≠ b := fun c hc e => hn (e ▸ hc)
    refine .inl ⟨X, Y, e, hX, ?_⟩
    rw [e]
    unfold Lib.cut
    rw [idx_hit b X Y hX, if_pos (by omega)]
    simp
  · have hX : ∀ c ∈ u, c ≠ b := fun c hc e => h (e ▸ hc)
    refine .inr ⟨hX, ?_⟩
    unfold Lib.cut
    rw [idx_no b u hX, if_neg (by omega)]
theorem mnP_ne (c : UInt8) (R : List UInt8) (h : c ≠ 45) : mnP (c :: R) = none := by
  match R with
  | [] => rfl
  | [x] => rfl
  | x :: y :: T => rw [mnP_cons, if_neg (fun k => h k.1)]
theorem dg_46 : isDig 46 = false := by decide
theorem dg_45 : isDig 45 = false := by decide
def zs (F : List UInt8) : List UInt8 := List.replicate (3 - F.length) 48
theorem less60 (x y : UInt8) (hy : 48 ≤ y.toNat) : Op.bytesLess [x, y] [54, 48] = decide (x.toNat ≤ 53) := by
  show (decide (x < 54) || (x == 54 && (decide (y < 48) || (y == 48 && false)))) = _
  have e : ¬ y < 48 := by
    rw [UInt8.lt_iff_toNat_lt]
    show ¬ y.toNat < 48
    omega
  have e2 : (x < 54) ↔ x.toNat ≤ 53 := by
    rw [UInt8.lt_iff_toNat_lt]
    show x.toNat < 54 ↔ _
    omega
  rw [decide_eq_false e, Bool.and_false, Bool.or_false, Bool.and_false, Bool.or_false]
  exact decide_eq_decide.2 e2
theorem mnB_two (x y : UInt8) : mnB [x, y] = true ↔ (isDig x = true ∧ isDig y = true ∧ x.toNat ≤ 53) := by
  unfold mnB dgB
  simp only [List.all_cons, List.all_nil, Bool.and_true, List.length_cons, List.length_nil, Bool.and_eq_true, decide_eq_true_eq]
  constructor
  · rintro ⟨⟨⟨-, h1, h2⟩, -⟩, h3⟩
    refine ⟨h1, h2, ?_⟩
    have hy := of_decide_eq_true h2
    rw [less60 x y hy.1] at h3
    exact of_decide_eq_true h3
  · rintro ⟨h1, h2, h3⟩
    have hy := of_decide_eq_true h2
    refine ⟨⟨⟨by simp, h1, h2⟩, trivial⟩, ?_⟩
    rw [less60 x y hy.1]
    exact decide_eq_true h3
theorem mnB_len {l : List UInt8} (h : mnB l = true) : l.length = 2 := by
  unfold mnB at h
  simp only [Bool.and_eq_true, decide_eq_true_eq] at h
  exact h.1.2
theorem val_two (x y : UInt8) : val [x, y] = 10 * (x.toNat - 48) + (y.toNat - 48) := by unfold val; simp
theorem mn_two (x y : UInt8) (T : List UInt8) : mnP (45 :: x :: y :: T) = if mnB [x, y] = true then (frP T).map (fun f => (val [x, y], f)) else none := by
  rw [mnP_cons, val_two]
  by_cases h : mnB [x, y] = true
  · rw [if_pos h, if_pos ⟨rfl, (mnB_two x y).1 h⟩]
  · rw [if_neg h, if_neg (fun k => h ((mnB_two x y).2 k.2))]
theorem frP_ne (c : UInt8) (F : List UInt8) (h : c ≠ 46) : frP (c :: F) = none := by rw [frP_cons, if_neg (fun k => h k.1)]
theorem frP_46 (F : List UInt8) : frP (46 :: F) = if frcB F = true then some (val (F ++ zs F)) else none := by
  rw [frP_cons]
  have e : ((46 : UInt8) = 46 ∧ 1 ≤ F.length ∧ F.length ≤ 3 ∧ F.all isDig = true) ↔ frcB F = true := by
    unfold frcB dgB
    simp only [Bool.and_eq_true, decide_eq_true_eq, true_and]
    have : 1 ≤ F.length ↔ F ≠ [] := by cases F <;> simp
    rw [this]
    constructor
    · rintro ⟨h1, h2, h3⟩; exact ⟨⟨h1, h3⟩, h2⟩
    · rintro ⟨⟨h1, h3⟩, h2⟩; exact ⟨h1, h2, h3⟩
  by_cases h : frcB F = true
  · rw [if_pos h, if_pos (e.2 h)]; rfl
  · rw [if_neg h, if_neg (fun k => h (e.1 k))]
/-- the minutes, and what stands behind them -/
def mnF (M : List UInt8) : Bool := mnB (Lib.cut M [46]).1 && (!(Lib.cut M [46]).2.2 || frcB (Lib.cut M [46]).2.1)
theorem mn_parts (M : List UInt8) : mnP (45 :: M) = if mnF M = true then some (val (Lib.cut M [46]).1, val ((Lib.cut M [46]).2.1 ++ zs (Lib.cut M [46]).2.1)) else none := by
  have nd : ∀ (l : List UInt8), l.length ≠ 2 → mnB l = false := by
    intro l h
    cases hb : mnB l
    · rfl
    · exact absurd (mnB_len hb) h
  rcases cut_cases 46 M with ⟨W, F, e, hW, hc⟩ | ⟨hW, hc⟩
  · unfold mnF
    rw [hc]
    subst e
    match W, hW with
    | [], _ =>
      rw [nd [] (by simp), Bool.false_and, if_neg (by simp), List.nil_append]
      match F with
      | [] => rfl
      | y :: T => rw [mn_two, if_neg (by rw [mnB_two]; intro k; exact absurd k.1 (by rw [dg_46]; simp))]
    | [x], _ =>
      rw [nd [x] (by simp), Bool.false_and, if_neg (by simp)]
      show mnP (45 :: x :: 46 :: F) = none
      rw [mn_two, if_neg (by rw [mnB_two]; intro k; exact absurd k.2.1 (by rw [dg_46]; simp))]
    | [x, y], _ =>
      show mnP (45 :: x :: y :: 46 :: F) = _
      rw [mn_two, frP_46]
      cases h1 : mnB [x, y] <;> cases h2 : frcB F <;> simp
    | x :: y :: z :: W', hW =>
      rw [nd (x :: y :: z :: W') (by simp), Bool.false_and, if_neg (by simp)]
      show mnP (45 :: x :: y :: z :: (W' ++ 46 :: F)) = none
      have hz : z ≠ 46 := hW z (by simp)
      rw [mn_two, frP_ne z _ hz]
      split <;> rfl
  · unfold mnF
    rw [hc]
    match M, hW with
    | [], _ => rw [nd [] (by simp)]; rfl
    | [x], _ => rw [nd [x] (by simp)]; rfl
    | [x, y], _ =>
      rw [mn_two]
      cases h1 : mnB [x, y]
      · simp
      · simp
        rfl
    | x :: y :: z :: W', hW =>
      rw [nd (x :: y :: z :: W') (by simp), Bool.false_and, if_neg (by simp)]
      have hz : z ≠ 46 := hW z (by simp)
      rw [mn_two, frP_ne z _ hz]
      split <;> rfl
/-- what the program reads of a text without its sign -/
def bdF (u : List UInt8) : Bool := dgrB (Lib.cut u [45]).1 && mnF (Lib.cut u [45]).2.1
theorem bo_parts (u : List UInt8) : boP u = if bdF u = true then some (val (Lib.cut u [45]).1, val (Lib.cut (Lib.cut u [45]).2.1 [46]).1, val ((Lib.cut (Lib.cut u [45]).2.1 [46]).2.1 ++ zs (Lib.cut (Lib.cut u [45]).2.1 [46]).2.1)) else none := by
  have dz : ∀ D : List UInt8, D.all isDig = true → (¬ (D = [] ∨ (1 < D.length ∧ D.head? = some 48)) ↔ dgrB D = true) := by
    intro D hD
    unfold dgrB dgB
    rw [hD, Bool.and_true, Bool.and_eq_true, Bool.or_eq_true, decide_eq_true_eq, decide_eq_true_eq, decide_eq_true_eq]
    have : D = [] ∨ D.length = 1 ∨ 1 < D.length := by cases D with | nil => exact .inl rfl | cons a l => right; simp; cases l <;> simp
    constructor
    · intro h
      refine ⟨fun k => h (.inl k), ?_⟩
      rcases this with k | k | k
      · exact absurd (.inl k) h
      · exact .inl k
      · exact .inr (fun q => h (.inr ⟨k, q⟩))
    · rintro ⟨h1, h2⟩ (k | ⟨k1, k2⟩)
      · exact h1 k
      · rcases h2 with h2 | h2
        · omega
        · exact h2 k2
  have nodig : ∀ D : List UInt8, D.all isDig = false → dgrB D = false := by
    intro D h; unfold dgrB dgB; rw [h, Bool.and_false, Bool.false_and]
  have split : ∀ (D : List UInt8), D.all isDig = false → ∃ c R, D.dropWhile isDig = c :: R ∧ c ∈ D := by
    intro D
    induction D with
    | nil => intro h; simp at h
    | cons a l ih =>
      intro h
      rw [List.dropWhile_cons]
      cases ha : isDig a
      · exact ⟨a, l, by simp, by simp⟩
      · rw [List.all_cons, ha, Bool.true_and] at h
        obtain ⟨c, R, e, m⟩ := ih h
        exact ⟨c, R, by simpa using e, List.mem_cons_of_mem _ m⟩
  have none_of : ∀ c R, u.dropWhile isDig = c :: R → c ≠ 45 → boP u = none := by
    intro c R h1 h2
    unfold boP
    rw [h1, mnP_ne c R h2]
    split <;> rfl
  rcases cut_cases 45 u with ⟨D, M, e, hD, hc⟩ | ⟨hD, hc⟩
  · unfold bdF
    rw [hc]
    show boP u = if (dgrB D && mnF M) = true then some (val D, val (Lib.cut M [46]).1, val ((Lib.cut M [46]).2.1 ++ zs (Lib.cut M [46]).2.1)) else none
    cases hal : D.all isDig
    · rw [nodig D hal, Bool.false_and, if_neg (by simp)]
      obtain ⟨c, R, e2, m⟩ := split D hal
      refine none_of c (R ++ 45 :: M) ?_ (hD c m)
      rw [e, List.dropWhile_append, e2]
      simp
    · have hA := List.all_eq_true.1 hal
      have t : u.takeWhile isDig = D := by
        rw [e, List.takeWhile_append_of_pos hA, List.takeWhile_cons, if_neg (by rw [dg_45]; simp), List.append_nil]
      have d : u.dropWhile isDig = 45 :: M := by
        rw [e, List.dropWhile_append_of_pos hA, List.dropWhile_cons, if_neg (by rw [dg_45]; simp)]
      unfold boP
      rw [t, d, mn_parts]
      cases h1 : dgrB D
      · rw [if_pos (by have := mt (dz D hal).1; rw [h1] at this; exact Classical.not_not.1 (this (by simp))), Bool.false_and, if_neg (by simp)]
      · rw [if_neg ((dz D hal).2 h1), Bool.true_and]
        cases mnF M <;> rfl
  · have hf : bdF u = false := by
      unfold bdF
      rw [hc]
      show (dgrB u && mnF []) = false
      rw [show mnF [] = false by decide, Bool.and_false]
    rw [hf, if_neg (by simp)]
    cases hd : u.dropWhile isDig with
    | nil =>
      unfold boP
      rw [hd]
      split <;> rfl
    | cons c R =>
      have m : c ∈ u := (List.dropWhile_sublist (l := u) isDig).subset (by rw [hd]; simp)
      exact none_of c R hd (hD c m)
end Go.Proofs.YtndcjldnnfhedaaDoor
