/- Trig: plain facts for TrigSquares and TrigSums: the enclosures meet. -/
import Derived.Test.YtglmkpnnbgkndaaDoorTrM
namespace Go.Proofs.YtglmkpnnbgkndaaDoor
open Go.RowKit
set_option linter.unusedVariables false
set_option maxRecDepth 100000

theorem b30 (n : Int) : B30 (L6.lo n) (L6.hi n) := by have := lo_in n; exact ⟨this.1, this.2.1, this.2.2.2⟩
/-- whole numbers: an error below 1 is none -/
theorem int_of {a b : Int} {x : Rat} (h1 : (a : Rat) - 1 / 4 ≤ x) (h2 : x ≤ (b : Rat) + 1 / 4) : a ≤ b := L6.int_le_of (by grind)
theorem dd_q : dd = 1 / 64 := rfl
/-- the squares of sine and cosine -/
theorem squares_one (n : Int) (h : L6.Ok n) (h' : L6.Ok (n + 5400000)) :
    mulL (L6.lo n) (L6.hi n) (L6.lo n) (L6.hi n) + mulL (L6.lo (n + 5400000)) (L6.hi (n + 5400000)) (L6.lo (n + 5400000)) (L6.hi (n + 5400000)) ≤ 1152921504606846976 ∧
    1152921504606846976 ≤ mulH (L6.lo n) (L6.hi n) (L6.lo n) (L6.hi n) + mulH (L6.lo (n + 5400000)) (L6.hi (n + 5400000)) (L6.lo (n + 5400000)) (L6.hi (n + 5400000)) := by
  obtain ⟨s1, s2⟩ := prod_in (in_s n h) (in_s n h) (b30 n) (b30 n)
  obtain ⟨c1, c2⟩ := prod_in (in_c n h') (in_c n h') (b30 _) (b30 _)
  have e := L6.cs_one n
  have d := dd_q
  have u : ((1152921504606846976 : Int) : Rat) = 1152921504606846976 := rfl
  generalize mulL (L6.lo n) (L6.hi n) (L6.lo n) (L6.hi n) = p1 at *
  generalize mulH (L6.lo n) (L6.hi n) (L6.lo n) (L6.hi n) = p2 at *
  generalize mulL (L6.lo (n + 5400000)) (L6.hi (n + 5400000)) (L6.lo (n + 5400000)) (L6.hi (n + 5400000)) = q1 at *
  generalize mulH (L6.lo (n + 5400000)) (L6.hi (n + 5400000)) (L6.lo (n + 5400000)) (L6.hi (n + 5400000)) = q2 at *
  generalize L6.cz n = c at *
  generalize L6.sz n = s at *
  rw [d] at s1 s2 c1 c2
  constructor
  · refine int_of (x := 1152921504606846976) ?_ ?_
    · rw [Rat.intCast_add]; grind
    · rw [u]; grind
  · refine int_of (x := 1152921504606846976) ?_ ?_
    · rw [u]; grind
    · rw [Rat.intCast_add]; grind
/-- the haversine and the cosine -/
theorem squares_half (n : Int) : 2 * hL n n ≤ 1073741824 - L6.lo (n + 5400000) ∧ 1073741824 - L6.hi (n + 5400000) ≤ 2 * hH n n := by
  have := lo_in (n + 5400000)
  rw [hL_eq, hH_eq, sL_one, sH_one]
  omega
/-- the haversine of the double angle -/
theorem squares_double (n : Int) (h : L6.Ok n) (h' : L6.Ok (n + n + 5400000)) :
    1073741824 * hL (n + n) (n + n) ≤ mulH (L6.lo n) (L6.hi n) (L6.lo n) (L6.hi n) ∧ mulL (L6.lo n) (L6.hi n) (L6.lo n) (L6.hi n) ≤ 1073741824 * hH (n + n) (n + n) := by
  obtain ⟨s1, s2⟩ := prod_in (in_s n h) (in_s n h) (b30 n) (b30 n)
  obtain ⟨c1, c2⟩ := in_c (n + n) h'
  have e := L6.cs_one n
  have z := (L6.z_add n n).1
  have d := dd_q
  have g := dd_ok.2.1
  have g0 := ee_ok.2.2.2.1
  rw [hL_eq, hH_eq, sL_one, sH_one]
  generalize L6.cz (n + n) = C at *
  generalize L6.lo (n + n + 5400000) = l at *
  generalize L6.hi (n + n + 5400000) = k at *
  generalize mulL (L6.lo n) (L6.hi n) (L6.lo n) (L6.hi n) = p1 at *
  generalize mulH (L6.lo n) (L6.hi n) (L6.lo n) (L6.hi n) = p2 at *
  generalize L6.cz n = c at *
  generalize L6.sz n = s at *
  rw [d] at s1 s2 g
  generalize ee = e at *
  obtain ⟨q, hq⟩ : ∃ q, (1073741824 - k) / 2 = q := ⟨_, rfl⟩
  obtain ⟨r, hr⟩ : ∃ r, (1073741824 - l + 1) / 2 = r := ⟨_, rfl⟩
  rw [hq, hr]
  have i1 : 2 * q + k ≤ 1073741824 := by omega
  have i2 : 1073741824 ≤ 2 * r + l := by omega
  have j1 := Rat.intCast_le_intCast.2 i1
  have j2 := Rat.intCast_le_intCast.2 i2
  have u : ((1073741824 : Int) : Rat) = 1073741824 := rfl
  have v : ((2 : Int) : Rat) = 2 := rfl
  rw [Rat.intCast_add, Rat.intCast_mul, u, v] at j1 j2
  constructor
  · refine int_of (x := 1073741824 * (1073741824 * (s * s))) ?_ ?_
    · rw [Rat.intCast_mul, u]; grind
    · grind
  · refine int_of (x := 1073741824 * (1073741824 * (s * s))) ?_ ?_
    · grind
    · rw [Rat.intCast_mul, u]; grind
/-- the formulas for sums -/
theorem sums_sin (a b : Int) (ha : L6.Ok a) (hb : L6.Ok b) (ha' : L6.Ok (a + 5400000)) (hb' : L6.Ok (b + 5400000)) (h : L6.Ok (a + b)) :
    1073741824 * L6.lo (a + b) ≤ mulH (L6.lo a) (L6.hi a) (L6.lo (b + 5400000)) (L6.hi (b + 5400000)) + mulH (L6.lo (a + 5400000)) (L6.hi (a + 5400000)) (L6.lo b) (L6.hi b) ∧
    mulL (L6.lo a) (L6.hi a) (L6.lo (b + 5400000)) (L6.hi (b + 5400000)) + mulL (L6.lo (a + 5400000)) (L6.hi (a + 5400000)) (L6.lo b) (L6.hi b) ≤ 1073741824 * L6.hi (a + b) := by
  obtain ⟨s1, s2⟩ := prod_in (in_s a ha) (in_c b hb') (b30 _) (b30 _)
  obtain ⟨c1, c2⟩ := prod_in (in_c a ha') (in_s b hb) (b30 _) (b30 _)
  obtain ⟨t1, t2⟩ := in_s (a + b) h
  have z := (L6.z_add a b).2
  have d := dd_q
  have g := dd_ok.2.1
  generalize L6.sz (a + b) = S at *
  generalize mulL (L6.lo a) (L6.hi a) (L6.lo (b + 5400000)) (L6.hi (b + 5400000)) = p1 at *
  generalize mulH (L6.lo a) (L6.hi a) (L6.lo (b + 5400000)) (L6.hi (b + 5400000)) = p2 at *
  generalize mulL (L6.lo (a + 5400000)) (L6.hi (a + 5400000)) (L6.lo b) (L6.hi b) = q1 at *
  generalize mulH (L6.lo (a + 5400000)) (L6.hi (a + 5400000)) (L6.lo b) (L6.hi b) = q2 at *
  generalize L6.lo (a + b) = l at *
  generalize L6.hi (a + b) = k at *
  generalize L6.cz a = ca at *
  generalize L6.sz a = sa at *
  generalize L6.cz b = cb at *
  generalize L6.sz b = sb at *
  rw [d] at s1 s2 c1 c2 g
  generalize ee = e at *
  have u : ((1073741824 : Int) : Rat) = 1073741824 := rfl
  constructor
  · refine int_of (x := 1073741824 * (1073741824 * S)) ?_ ?_
    · rw [Rat.intCast_mul, u]; grind
    · rw [Rat.intCast_add]; grind
  · refine int_of (x := 1073741824 * (1073741824 * S)) ?_ ?_
    · rw [Rat.intCast_add]; grind
    · rw [Rat.intCast_mul, u]; grind
theorem sums_cos (a b : Int) (ha : L6.Ok a) (hb : L6.Ok b) (ha' : L6.Ok (a + 5400000)) (hb' : L6.Ok (b + 5400000)) (h : L6.Ok (a + b + 5400000)) :
    1073741824 * L6.lo (a + b + 5400000) ≤ mulH (L6.lo (a + 5400000)) (L6.hi (a + 5400000)) (L6.lo (b + 5400000)) (L6.hi (b + 5400000)) - mulL (L6.lo a) (L6.hi a) (L6.lo b) (L6.hi b) ∧
    mulL (L6.lo (a + 5400000)) (L6.hi (a + 5400000)) (L6.lo (b + 5400000)) (L6.hi (b + 5400000)) - mulH (L6.lo a) (L6.hi a) (L6.lo b) (L6.hi b) ≤ 1073741824 * L6.hi (a + b + 5400000) := by
  obtain ⟨s1, s2⟩ := prod_in (in_s a ha) (in_s b hb) (b30 _) (b30 _)
  obtain ⟨c1, c2⟩ := prod_in (in_c a ha') (in_c b hb') (b30 _) (b30 _)
  obtain ⟨t1, t2⟩ := in_c (a + b) h
  have z := (L6.z_add a b).1
  have d := dd_q
  have g := dd_ok.2.1
  generalize L6.cz (a + b) = C at *
  generalize mulL (L6.lo a) (L6.hi a) (L6.lo b) (L6.hi b) = p1 at *
  generalize mulH (L6.lo a) (L6.hi a) (L6.lo b) (L6.hi b) = p2 at *
  generalize mulL (L6.lo (a + 5400000)) (L6.hi (a + 5400000)) (L6.lo (b + 5400000)) (L6.hi (b + 5400000)) = q1 at *
  generalize mulH (L6.lo (a + 5400000)) (L6.hi (a + 5400000)) (L6.lo (b + 5400000)) (L6.hi (b + 5400000)) = q2 at *
  generalize L6.lo (a + b + 5400000) = l at *
  generalize L6.hi (a + b + 5400000) = k at *
  generalize L6.cz a = ca at *
  generalize L6.sz a = sa at *
  generalize L6.cz b = cb at *
  generalize L6.sz b = sb at *
  rw [d] at s1 s2 c1 c2 g
  generalize ee = e at *
  have u : ((1073741824 : Int) : Rat) = 1073741824 := rfl
  constructor
  · refine int_of (x := 1073741824 * (1073741824 * C)) ?_ ?_
    · rw [Rat.intCast_mul, u]; grind
    · rw [Rat.intCast_sub]; grind
  · refine int_of (x := 1073741824 * (1073741824 * C)) ?_ ?_
    · rw [Rat.intCast_sub]; grind
    · rw [Rat.intCast_mul, u]; grind
end Go.Proofs.YtglmkpnnbgkndaaDoor
