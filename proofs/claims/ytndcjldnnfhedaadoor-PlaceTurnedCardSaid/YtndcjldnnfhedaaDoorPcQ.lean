/- Place: texts of points as plain functions of bytes: how they are made, and read. No run of the model here. -/
import Derived.Test.YtndcjldnnfhedaaDoorAnM
import Derived.Test.YtndcjldnnfhedaaDoorAnS
import Derived.Test.YtndcjldnnfhedaaDoorPcP
namespace Go.Proofs.YtndcjldnnfhedaaDoor
set_option linter.unusedVariables false

/-- the text of a coordinate, of a point -/
def coT (n : Int) (p m : UInt8) : List UInt8 := textT (n.natAbs : Int) ++ [if n < 0 then m else p]
def ptT (x y : Int) : List UInt8 := coT x 78 83 ++ 32 :: coT y 69 87
/-- how a coordinate is read: the error, the number -/
def coE (u : List UInt8) (p m : UInt8) : Int :=
  if u.getLast? = some p ∨ u.getLast? = some m then (if u.head? = some 45 then 7 else paE u.dropLast) else 7
def coV (u : List UInt8) (p m : UInt8) : Int :=
  if u.getLast? = some p ∨ u.getLast? = some m then (if u.head? = some 45 then 0 else if u.getLast? = some p then paV u.dropLast else -paV u.dropLast) else 0
def rdE (l : List UInt8) : Int :=
  if coE (Lib.cut l [32]).1 78 83 = 7 ∨ coE (Lib.cut l [32]).2.1 69 87 = 7 then 7
  else if coE (Lib.cut l [32]).1 78 83 = 0 ∧ coE (Lib.cut l [32]).2.1 69 87 = 0 ∧ ptOk (coV (Lib.cut l [32]).1 78 83) (coV (Lib.cut l [32]).2.1 69 87) = true then 0 else 2
def rdX (l : List UInt8) : Int := if rdE l = 0 then coV (Lib.cut l [32]).1 78 83 else 0
def rdY (l : List UInt8) : Int := if rdE l = 0 then coV (Lib.cut l [32]).2.1 69 87 else 0
theorem paE_or (l : List UInt8) : paE l = 7 ∨ paE l = 5 ∨ paE l = 0 := by
  unfold paE
  cases boP (unP l) with
  | none => exact .inl rfl
  | some x =>
    obtain ⟨d, m, f⟩ := x
    simp only
    split
    · exact .inr (.inl rfl)
    · exact .inr (.inr rfl)
theorem paV_zero (l : List UInt8) (h : paE l ≠ 0) : paV l = 0 := by
  unfold paE at h
  unfold paV
  cases e : boP (unP l) with
  | none => rfl
  | some x =>
    obtain ⟨d, m, f⟩ := x
    rw [e] at h
    simp only at h ⊢
    split at h
    · rw [if_pos (by assumption)]
    · exact absurd rfl h
theorem paV_bd (l : List UInt8) : -1099511627776 ≤ paV l ∧ paV l ≤ 1099511627776 := by
  unfold paV
  cases e : boP (unP l) with
  | none => simp
  | some x =>
    obtain ⟨d, m, f⟩ := x
    simp only
    split
    · omega
    · split <;> omega
theorem coE_or (u : List UInt8) (p m : UInt8) : coE u p m = 7 ∨ coE u p m = 5 ∨ coE u p m = 0 := by
  unfold coE
  split
  · split
    · exact .inl rfl
    · exact paE_or _
  · exact .inl rfl
theorem coV_bd (u : List UInt8) (p m : UInt8) : -1099511627776 ≤ coV u p m ∧ coV u p m ≤ 1099511627776 := by
  have := paV_bd u.dropLast
  unfold coV
  split
  · split
    · omega
    · split <;> omega
  · omega
theorem rdE_or (l : List UInt8) : rdE l = 7 ∨ rdE l = 2 ∨ (rdE l = 0 ∧ ptOk (rdX l) (rdY l) = true) := by
  by_cases h : rdE l = 0
  · refine .inr (.inr ⟨h, ?_⟩)
    unfold rdX rdY
    rw [if_pos h, if_pos h]
    unfold rdE at h
    split at h
    · exact absurd h (by decide)
    · split at h
      · rename_i k; exact k.2.2
      · exact absurd h (by decide)
  · unfold rdE at h ⊢
    split
    · exact .inl rfl
    · split
      · rename_i g k; rw [if_neg g, if_pos k] at h; exact absurd rfl h
      · exact .inr (.inl rfl)
theorem co_last (n : Int) (p m : UInt8) : (coT n p m).getLast? = some (if n < 0 then m else p) ∧ (coT n p m).dropLast = textT (n.natAbs : Int) := by
  unfold coT; simp
theorem co_head (n : Int) (p m : UInt8) (h : n.natAbs ≤ 1099511627776) (hp : p ≠ 45) (hm : m ≠ 45) : (coT n p m).head? ≠ some 45 := by
  have b := bodyT_head n.natAbs h
  have e : textT (n.natAbs : Int) = bodyT n.natAbs := by unfold textT; rw [if_neg (by omega), show ((n.natAbs : Int)).natAbs = n.natAbs by omega]
  unfold coT
  rw [e]
  unfold sgP at b
  rw [decide_eq_false_iff_not] at b
  generalize bodyT n.natAbs = B at *
  cases B with
  | nil => simp only [List.nil_append, List.head?_cons, ne_eq, Option.some.injEq]; split <;> assumption
  | cons c B => exact b
theorem co_back (n : Int) (p m : UInt8) (h : n.natAbs ≤ 1099511627776) (hp : p ≠ 45) (hm : m ≠ 45) (hpm : p ≠ m) : coE (coT n p m) p m = 0 ∧ coV (coT n p m) p m = n := by
  obtain ⟨l1, l2⟩ := co_last n p m
  have hh := co_head n p m h hp hm
  obtain ⟨t1, t2⟩ := text_back (n.natAbs : Int) ((inA_iff _).2 (by omega))
  unfold coE coV
  rw [l1, l2, t1, t2, if_neg hh, if_neg hh]
  by_cases k : n < 0
  · rw [if_pos k, if_pos (.inr rfl), if_pos (.inr rfl), if_neg (by simpa using fun e => hpm e.symm)]
    exact ⟨rfl, by omega⟩
  · rw [if_neg k, if_pos (.inl rfl), if_pos (.inl rfl), if_pos rfl]
    exact ⟨rfl, by omega⟩
theorem co_32 (n : Int) (p m : UInt8) (hp : p ≠ 32) (hm : m ≠ 32) : ∀ b ∈ coT n p m, b ≠ 32 := by
  intro b hb
  unfold coT at hb
  rw [List.mem_append] at hb
  rcases hb with hb | hb
  · exact text_32 _ b hb
  · rw [List.mem_singleton] at hb; subst hb; split <;> assumption
theorem cut_at (X Y : List UInt8) (h : ∀ c ∈ X, c ≠ 32) : Lib.cut (X ++ 32 :: Y) [32] = (X, Y, true) := by
  unfold Lib.cut
  rw [idx_hit 32 X Y h, if_pos (by omega)]
  simp
theorem pt_back (x y : Int) (h : ptOk x y = true) : rdE (ptT x y) = 0 ∧ rdX (ptT x y) = x ∧ rdY (ptT x y) = y := by
  have k := (ptOk_iff _ _).1 h
  have c := cut_at (coT x 78 83) (coT y 69 87) (co_32 x 78 83 (by decide) (by decide))
  obtain ⟨a1, a2⟩ := co_back x 78 83 (by omega) (by decide) (by decide) (by decide)
  obtain ⟨b1, b2⟩ := co_back y 69 87 (by omega) (by decide) (by decide) (by decide)
  have e : rdE (ptT x y) = 0 := by
    unfold rdE ptT
    rw [c, a1, a2, b1, b2, if_neg (by decide), if_pos ⟨rfl, rfl, h⟩]
  refine ⟨e, ?_, ?_⟩
  · unfold rdX; rw [if_pos e]; unfold ptT; rw [c]; exact a2
  · unfold rdY; rw [if_pos e]; unfold ptT; rw [c]; exact b2
theorem pt_inj {x y u v : Int} (h : ptOk x y = true) (k : ptOk u v = true) (e : ptT x y = ptT u v) : x = u ∧ y = v := by
  have a := pt_back x y h
  have b := pt_back u v k
  rw [e] at a
  exact ⟨a.2.1.symm.trans b.2.1, a.2.2.symm.trans b.2.2⟩
theorem coT_len (n : Int) (p m : UInt8) : (coT n p m).length ≤ 32 := by
  have := textT_len (n.natAbs : Int)
  unfold coT; simp only [List.length_append, List.length_cons, List.length_nil]; omega
theorem ptT_len (x y : Int) : (ptT x y).length ≤ 65 := by
  have := coT_len x 78 83; have := coT_len y 69 87
  unfold ptT; simp only [List.length_append, List.length_cons]; omega
theorem pt_example : ba (ptT 2045500 (-7095000)) = ⟨#[51, 52, 45, 48, 53, 46, 53, 78, 32, 49, 49, 56, 45, 49, 53, 46, 48, 87]⟩ := by decide +kernel
end Go.Proofs.YtndcjldnnfhedaaDoor
