/- Calendar: plain numbers: leap years, the days before a month and a year, the number of a date. -/
namespace Go.Proofs.YtfknmceffkagaaaDoor
set_option linter.unusedVariables false

def leapB (y : Int) : Bool := (y.tmod 4 == 0 && y.tmod 100 != 0) || y.tmod 400 == 0
/-- the days of a month -/
def dim (l : Bool) (m : Int) : Int := if m = 2 then (if l = true then 29 else 28) else if m = 4 ∨ m = 6 ∨ m = 9 ∨ m = 11 then 30 else 31
/-- the days of a year before a month -/
def cum (l : Bool) (m : Int) : Int :=
  if m ≤ 1 then 0 else if m = 2 then 31 else (if l = true then 1 else 0) +
    (if m = 3 then 59 else if m = 4 then 90 else if m = 5 then 120 else if m = 6 then 151 else if m = 7 then 181 else if m = 8 then 212 else if m = 9 then 243 else if m = 10 then 273 else if m = 11 then 304 else if m = 12 then 334 else 365)
def ylen (l : Bool) : Int := if l = true then 366 else 365
/-- the days before a year -/
def bef (y : Int) : Int := 365 * (y - 1) + (y - 1) / 4 - (y - 1) / 100 + (y - 1) / 400
def num (y m d : Int) : Int := bef y + cum (leapB y) m + d - 730120
def okD (y m d : Int) : Bool := decide (1 ≤ y ∧ y ≤ 9999 ∧ 1 ≤ m ∧ m ≤ 12 ∧ 1 ≤ d ∧ d ≤ dim (leapB y) m)
theorem okD_iff {y m d : Int} : okD y m d = true ↔ (1 ≤ y ∧ y ≤ 9999 ∧ 1 ≤ m ∧ m ≤ 12 ∧ 1 ≤ d ∧ d ≤ dim (leapB y) m) := by unfold okD; simp
theorem okD_not {y m d : Int} : okD y m d = false ↔ ¬ (1 ≤ y ∧ y ≤ 9999 ∧ 1 ≤ m ∧ m ≤ 12 ∧ 1 ≤ d ∧ d ≤ dim (leapB y) m) := by unfold okD; rw [decide_eq_false_iff_not]

theorem dim_in (l : Bool) (m : Int) : 28 ≤ dim l m ∧ dim l m ≤ 31 := by
  unfold dim
  cases l <;> simp <;> split <;> (try split) <;> omega
theorem months {m : Int} (h1 : 1 ≤ m) (h2 : m ≤ 12) : m = 1 ∨ m = 2 ∨ m = 3 ∨ m = 4 ∨ m = 5 ∨ m = 6 ∨ m = 7 ∨ m = 8 ∨ m = 9 ∨ m = 10 ∨ m = 11 ∨ m = 12 := by omega
theorem cum_one (l : Bool) : cum l 1 = 0 := by cases l <;> rfl
theorem cum_end (l : Bool) : cum l 13 = ylen l := by cases l <;> rfl
theorem cum_succ (l : Bool) {m : Int} (h1 : 1 ≤ m) (h2 : m ≤ 12) : cum l (m + 1) = cum l m + dim l m := by
  rcases months h1 h2 with h | h | h | h | h | h | h | h | h | h | h | h <;> subst h <;> cases l <;> rfl
theorem cum_mono (l : Bool) {m n : Int} (h1 : 1 ≤ m) (h2 : m < n) (h3 : n ≤ 13) : cum l m + dim l m ≤ cum l n := by
  rw [← cum_succ l h1 (by omega)]
  obtain ⟨k, hk⟩ : ∃ k : Nat, n = m + 1 + k := ⟨(n - m - 1).toNat, by omega⟩
  subst hk
  clear h2
  induction k with
  | zero => simp
  | succ k ih =>
    have := ih (by omega)
    have e := cum_succ l (m := m + 1 + (k : Int)) (by omega) (by omega)
    have := (dim_in l (m + 1 + (k : Int))).1
    rw [show m + 1 + ((k + 1 : Nat) : Int) = m + 1 + (k : Int) + 1 by omega, e]
    omega
theorem cum_in (l : Bool) {m : Int} (h1 : 1 ≤ m) (h2 : m ≤ 12) : 0 ≤ cum l m ∧ cum l m + dim l m ≤ ylen l := by
  constructor
  · rcases months h1 h2 with h | h | h | h | h | h | h | h | h | h | h | h <;> subst h <;> cases l <;> decide
  · rw [← cum_end l]; exact cum_mono l h1 (by omega) (by omega)
theorem ylen_in (l : Bool) : 365 ≤ ylen l ∧ ylen l ≤ 366 := by cases l <;> decide
theorem leapB_nat {y : Int} (h : 0 ≤ y) : leapB y = decide ((y % 4 = 0 ∧ y % 100 ≠ 0) ∨ y % 400 = 0) := by
  unfold leapB
  rw [Int.tmod_eq_emod_of_nonneg h, Int.tmod_eq_emod_of_nonneg h, Int.tmod_eq_emod_of_nonneg h]
  rw [Bool.eq_iff_iff]
  simp
theorem bef_succ {y : Int} (h : 1 ≤ y) : bef (y + 1) = bef y + ylen (leapB y) := by
  rw [leapB_nat (by omega)]
  unfold bef ylen
  have a : (y + 1 - 1) / 4 = (y - 1) / 4 + (if y % 4 = 0 then 1 else 0) := by split <;> omega
  have b : (y + 1 - 1) / 100 = (y - 1) / 100 + (if y % 100 = 0 then 1 else 0) := by split <;> omega
  have c : (y + 1 - 1) / 400 = (y - 1) / 400 + (if y % 400 = 0 then 1 else 0) := by split <;> omega
  rw [a, b, c]
  have d1 : y % 400 = 0 → y % 100 = 0 := by omega
  have d2 : y % 100 = 0 → y % 4 = 0 := by omega
  by_cases h4 : y % 4 = 0
  · by_cases h1 : y % 100 = 0
    · by_cases h0 : y % 400 = 0
      · simp [h4, h1, h0]; omega
      · simp [h4, h1, h0]; omega
    · have h0 : ¬ y % 400 = 0 := fun k => h1 (d1 k)
      simp [h4, h1, h0]; omega
  · have h1 : ¬ y % 100 = 0 := fun k => h4 (d2 k)
    have h0 : ¬ y % 400 = 0 := fun k => h1 (d1 k)
    simp [h4, h1, h0]; omega
theorem bef_le {a b : Int} (h : a ≤ b) : bef a ≤ bef b := by unfold bef; omega
theorem bef_one : bef 1 = 0 := by decide
theorem bef_last : bef 10000 = 3652059 := by decide
theorem num_in {y m d : Int} (h : okD y m d = true) : bef y - 730119 ≤ num y m d ∧ num y m d ≤ bef (y + 1) - 730120 ∧ 1 ≤ cum (leapB y) m + d ∧ cum (leapB y) m + d ≤ ylen (leapB y) := by
  obtain ⟨h1, h2, h3, h4, h5, h6⟩ := okD_iff.1 h
  have := cum_in (leapB y) h3 h4
  rw [bef_succ h1]
  unfold num
  omega
theorem num_range {y m d : Int} (h : okD y m d = true) : -730119 ≤ num y m d ∧ num y m d ≤ 2921939 := by
  obtain ⟨h1, h2, h3, h4, h5, h6⟩ := okD_iff.1 h
  have a := num_in h
  have b := bef_le h1
  have c := bef_le (show y + 1 ≤ 10000 by omega)
  rw [bef_one] at b
  rw [bef_last] at c
  omega
/-- before, in the order of the calendar -/
def lexB (y m d y' m' d' : Int) : Bool := decide (y < y' ∨ (y = y' ∧ (m < m' ∨ (m = m' ∧ d < d'))))
theorem num_lt {y m d y' m' d' : Int} (h : okD y m d = true) (h' : okD y' m' d' = true) (hl : y < y' ∨ (y = y' ∧ (m < m' ∨ (m = m' ∧ d < d')))) : num y m d < num y' m' d' := by
  obtain ⟨h1, h2, h3, h4, h5, h6⟩ := okD_iff.1 h
  obtain ⟨g1, g2, g3, g4, g5, g6⟩ := okD_iff.1 h'
  rcases hl with hl | ⟨rfl, hl | ⟨rfl, hl⟩⟩
  · have a := num_in h
    have b := num_in h'
    have c := bef_le (show y + 1 ≤ y' by omega)
    omega
  · have := cum_mono (leapB y) h3 hl (by omega)
    unfold num
    omega
  · unfold num
    omega
theorem lex_tri (y m d y' m' d' : Int) : (y < y' ∨ (y = y' ∧ (m < m' ∨ (m = m' ∧ d < d')))) ∨ (y = y' ∧ m = m' ∧ d = d') ∨ (y' < y ∨ (y' = y ∧ (m' < m ∨ (m' = m ∧ d' < d)))) := by omega
theorem num_inj {y m d y' m' d' : Int} (h : okD y m d = true) (h' : okD y' m' d' = true) (e : num y m d = num y' m' d') : y = y' ∧ m = m' ∧ d = d' := by
  rcases lex_tri y m d y' m' d' with k | k | k
  · have := num_lt h h' k; omega
  · exact k
  · have := num_lt h' h k; omega
/-- the year of a number -/
theorem year_of {n : Int} (h1 : -730119 ≤ n) (h2 : n ≤ 2921939) : ∃ y, 1 ≤ y ∧ y ≤ 9999 ∧ bef y - 730119 ≤ n ∧ n < bef (y + 1) - 730119 := by
  have key : ∀ k : Nat, k ≤ 9999 → n < bef ((k : Int) + 1) - 730119 → ∃ y, 1 ≤ y ∧ y ≤ 9999 ∧ bef y - 730119 ≤ n ∧ n < bef (y + 1) - 730119 := by
    intro k
    induction k with
    | zero => intro _ h; have := bef_one; rw [show ((0 : Nat) : Int) + 1 = 1 by rfl, this] at h; omega
    | succ k ih =>
      intro hk h
      by_cases c : n < bef ((k : Int) + 1) - 730119
      · exact ih (by omega) c
      · refine ⟨(k : Int) + 1, by omega, by omega, by omega, ?_⟩
        rw [show ((k + 1 : Nat) : Int) + 1 = (k : Int) + 1 + 1 by omega] at h
        exact h
  exact key 9999 (by omega) (by show n < bef 10000 - 730119; rw [bef_last]; omega)
/-- the month of a day of the year -/
theorem month_of (l : Bool) {k : Int} (h1 : 1 ≤ k) (h2 : k ≤ ylen l) : ∃ m, 1 ≤ m ∧ m ≤ 12 ∧ cum l m + 1 ≤ k ∧ k ≤ cum l m + dim l m := by
  have key : ∀ j : Nat, j ≤ 12 → k ≤ cum l ((j : Int) + 1) → ∃ m, 1 ≤ m ∧ m ≤ 12 ∧ cum l m + 1 ≤ k ∧ k ≤ cum l m + dim l m := by
    intro j
    induction j with
    | zero => intro _ h; have := cum_one l; rw [show ((0 : Nat) : Int) + 1 = 1 by rfl, this] at h; omega
    | succ j ih =>
      intro hk h
      by_cases c : k ≤ cum l ((j : Int) + 1)
      · exact ih (by omega) c
      · refine ⟨(j : Int) + 1, by omega, by omega, by omega, ?_⟩
        rw [← cum_succ l (by omega) (by omega)]
        rw [show ((j + 1 : Nat) : Int) + 1 = (j : Int) + 1 + 1 by omega] at h
        exact h
  exact key 12 (by omega) (by show k ≤ cum l 13; rw [cum_end]; exact h2)
theorem date_ex {n : Int} (h1 : -730119 ≤ n) (h2 : n ≤ 2921939) : ∃ y m d, okD y m d = true ∧ num y m d = n := by
  obtain ⟨y, y1, y2, y3, y4⟩ := year_of h1 h2
  rw [bef_succ y1] at y4
  obtain ⟨m, m1, m2, m3, m4⟩ := month_of (leapB y) (k := n - (bef y - 730119) + 1) (by omega) (by omega)
  refine ⟨y, m, n - (bef y - 730119) + 1 - cum (leapB y) m, okD_iff.2 ⟨y1, y2, m1, m2, by omega, by omega⟩, ?_⟩
  unfold num
  omega
/-- which year -/
theorem year_is {n y m d : Int} (h : okD y m d = true) (e : num y m d = n) : bef y - 730119 ≤ n ∧ n < bef (y + 1) - 730119 := by
  have := num_in h; omega
end Go.Proofs.YtfknmceffkagaaaDoor
