/- Plain numbers: digits of base 2^28, the least one first: no run of the model here. -/
import Derived.Test.YtpneahdbiikonaaDoorRows
namespace Go.Proofs.YtpneahdbiikonaaDoor
set_option linter.unusedVariables false

/-- powers of the base -/
def pw : Nat → Nat
  | 0 => 1
  | k + 1 => 268435456 * pw k
theorem pw_pos (k : Nat) : 0 < pw k := by induction k with | zero => exact Nat.one_pos | succ n ih => unfold pw; omega
theorem pw_add (a b : Nat) : pw (a + b) = pw a * pw b := by
  induction a with
  | zero => rw [Nat.zero_add]; show pw b = 1 * pw b; rw [Nat.one_mul]
  | succ n ih => rw [Nat.add_right_comm]; show 268435456 * pw (n + b) = 268435456 * pw n * pw b; rw [ih, Nat.mul_assoc]
theorem pw_mono {a b : Nat} (h : a ≤ b) : pw a ≤ pw b := by
  obtain ⟨c, rfl⟩ : ∃ c, b = a + c := ⟨b - a, by omega⟩
  rw [pw_add]; exact Nat.le_mul_of_pos_right _ (pw_pos c)
theorem pw_lt_base {a b : Nat} (h : pw a < pw b) : a < b := by
  rcases Nat.lt_or_ge a b with h1 | h1
  · exact h1
  · have := pw_mono h1; omega
/-- the value of digits -/
def val : List Nat → Nat
  | [] => 0
  | d :: l => d + 268435456 * val l
/-- digits are less than the base -/
def Dok (l : List Nat) : Prop := ∀ d ∈ l, d < 268435456
theorem Dok.cons {d : Nat} {l : List Nat} : Dok (d :: l) ↔ d < 268435456 ∧ Dok l := by unfold Dok; simp
theorem Dok.nil : Dok [] := by intro d h; simp at h
theorem Dok.append {l m : List Nat} : Dok (l ++ m) ↔ Dok l ∧ Dok m := by
  unfold Dok; constructor
  · intro h; exact ⟨fun d hd => h d (by simp [hd]), fun d hd => h d (by simp [hd])⟩
  · rintro ⟨h1, h2⟩ d hd; rcases List.mem_append.1 hd with h | h; exact h1 d h; exact h2 d h
theorem Dok.take {l : List Nat} (h : Dok l) (k : Nat) : Dok (l.take k) := fun d hd => h d (List.mem_of_mem_take hd)
theorem Dok.drop {l : List Nat} (h : Dok l) (k : Nat) : Dok (l.drop k) := fun d hd => h d (List.mem_of_mem_drop hd)
theorem Dok.get {l : List Nat} (h : Dok l) (k : Nat) : l.getD k 0 < 268435456 := by
  rw [List.getD_eq_getElem?_getD]
  rcases Nat.lt_or_ge k l.length with hk | hk
  · rw [List.getElem?_eq_getElem hk]; exact h _ (List.getElem_mem hk)
  · rw [List.getElem?_eq_none hk]; simp
theorem val_append (l m : List Nat) : val (l ++ m) = val l + pw l.length * val m := by
  induction l with
  | nil => simp [val, pw]
  | cons d t ih => simp only [List.cons_append, val, List.length_cons, pw, ih, Nat.mul_add, Nat.mul_assoc]; omega
theorem val_snoc (l : List Nat) (d : Nat) : val (l ++ [d]) = val l + pw l.length * d := by rw [val_append]; simp [val]
theorem val_lt {l : List Nat} (h : Dok l) : val l < pw l.length := by
  induction l with
  | nil => simp [val, pw]
  | cons d t ih =>
    rw [Dok.cons] at h
    have := ih h.2
    simp only [val, List.length_cons, pw]; omega
theorem val_take_succ (l : List Nat) (k : Nat) (h : k < l.length) : val (l.take (k + 1)) = val (l.take k) + pw k * l.getD k 0 := by
  rw [List.take_succ_eq_append_getElem h, val_snoc, List.length_take, Nat.min_eq_left (by omega), List.getD_eq_getElem?_getD, List.getElem?_eq_getElem h]; rfl
theorem val_take_all (l : List Nat) (k : Nat) (h : l.length ≤ k) : val (l.take k) = val l := by rw [List.take_of_length_le h]
theorem val_take_drop (l : List Nat) (k : Nat) (h : k ≤ l.length) : val l = val (l.take k) + pw k * val (l.drop k) := by
  conv => lhs; rw [← List.take_append_drop k l]
  rw [val_append, List.length_take, Nat.min_eq_left h]
theorem val_drop_succ (l : List Nat) (k : Nat) (h : k < l.length) : val (l.drop k) = l.getD k 0 + 268435456 * val (l.drop (k + 1)) := by
  rw [List.drop_eq_getElem_cons h, List.getD_eq_getElem?_getD, List.getElem?_eq_getElem h]; rfl
theorem val_take_mono (l : List Nat) (k : Nat) : val (l.take k) ≤ val l := by
  rcases Nat.le_total k l.length with h | h
  · have := val_take_drop l k h; omega
  · rw [val_take_all l k h]; exact Nat.le_refl _
theorem val_set (l : List Nat) (p x : Nat) (h : p < l.length) : val (l.set p x) + pw p * l.getD p 0 = val l + pw p * x := by
  induction l generalizing p with
  | nil => simp at h
  | cons d t ih =>
    cases p with
    | zero => simp [val, pw]; omega
    | succ q =>
      have hq : q < t.length := by simpa using h
      have := ih q hq
      simp only [List.set_cons_succ, val, pw, List.getD_cons_succ, Nat.mul_assoc]
      omega
theorem Dok.set {l : List Nat} (h : Dok l) (p : Nat) {x : Nat} (hx : x < 268435456) : Dok (l.set p x) := by
  intro d hd
  rcases List.mem_or_eq_of_mem_set hd with h1 | h1
  · exact h d h1
  · rw [h1]; exact hx

/-- the digits of a number, without zeros at the end -/
def dgs (n : Nat) : List Nat := if h : n = 0 then [] else (n % 268435456) :: dgs (n / 268435456)
termination_by n
decreasing_by exact Nat.div_lt_self (Nat.pos_of_ne_zero h) (by omega)
theorem dgs_zero : dgs 0 = [] := by rw [dgs]; rfl
theorem dgs_pos (n : Nat) (h : n ≠ 0) : dgs n = (n % 268435456) :: dgs (n / 268435456) := by rw [dgs, dif_neg h]
/-- digits without zeros at the end -/
structure Can (l : List Nat) : Prop where
  ok : Dok l
  top : l = [] ∨ pw (l.length - 1) ≤ val l
theorem can_nil : Can [] := ⟨Dok.nil, .inl rfl⟩
theorem dgs_spec (n : Nat) : Can (dgs n) ∧ val (dgs n) = n := by
  induction n using Nat.strongRecOn with
  | ind n ih =>
    by_cases h : n = 0
    · subst h; rw [dgs_zero]; exact ⟨can_nil, rfl⟩
    · obtain ⟨c, e⟩ := ih (n / 268435456) (Nat.div_lt_self (Nat.pos_of_ne_zero h) (by omega))
      rw [dgs_pos n h]
      have ev : val (n % 268435456 :: dgs (n / 268435456)) = n := by simp only [val, e]; omega
      refine ⟨⟨Dok.cons.2 ⟨Nat.mod_lt _ (by omega), c.ok⟩, .inr ?_⟩, ev⟩
      rw [ev]
      rcases c.top with h1 | h1
      · rw [h1]; simp [pw]; omega
      · rw [e] at h1
        simp only [List.length_cons, Nat.add_sub_cancel]
        rcases hl : dgs (n / 268435456) with _ | ⟨d, t⟩
        · simp [pw]; omega
        · rw [hl] at h1
          simp only [List.length_cons, Nat.add_sub_cancel] at h1
          simp only [List.length_cons, pw]
          omega
theorem val_dgs (n : Nat) : val (dgs n) = n := (dgs_spec n).2
theorem can_dgs (n : Nat) : Can (dgs n) := (dgs_spec n).1
theorem can_unique (l : List Nat) (c : Can l) : l = dgs (val l) := by
  induction l with
  | nil => rw [show val [] = 0 from rfl, dgs_zero]
  | cons d t ih =>
    have hd := Dok.cons.1 c.ok
    have hp : 0 < val (d :: t) := by
      rcases c.top with h | h
      · simp at h
      · exact Nat.lt_of_lt_of_le (pw_pos _) h
    rw [dgs_pos _ (by omega)]
    have e1 : val (d :: t) % 268435456 = d := by have := hd.1; simp only [val]; omega
    have e2 : val (d :: t) / 268435456 = val t := by have := hd.1; simp only [val]; omega
    rw [e1, e2]
    have ct : Can t := by
      refine ⟨hd.2, ?_⟩
      rcases t with _ | ⟨x, s⟩
      · exact .inl rfl
      · right
        rcases c.top with h | h
        · simp at h
        · have := hd.1
          simp only [List.length_cons, Nat.add_sub_cancel, pw] at h ⊢
          simp only [val] at h ⊢
          omega
    rw [← ih ct]
theorem can_eq {l : List Nat} (c : Can l) {n : Nat} (h : val l = n) : l = dgs n := by rw [← h]; exact can_unique l c
/-- lengths tell the order -/
theorem can_len_lt {l m : List Nat} (cl : Can l) (cm : Can m) (h : l.length < m.length) : val l < val m := by
  have h1 := val_lt cl.ok
  rcases cm.top with h2 | h2
  · rw [h2] at h; simp at h
  · have := pw_mono (show l.length ≤ m.length - 1 by omega); omega
theorem can_pos {l : List Nat} (c : Can l) (h : l ≠ []) : 0 < val l := by
  rcases c.top with h2 | h2
  · exact absurd h2 h
  · exact Nat.lt_of_lt_of_le (pw_pos _) h2
theorem dgs_len_le (n k : Nat) (h : n < pw k) : (dgs n).length ≤ k := by
  rcases (can_dgs n).top with h1 | h1
  · rw [h1]; simp
  · rw [val_dgs] at h1
    have := pw_lt_base (Nat.lt_of_le_of_lt h1 h); omega
/-- a prefix whose last digit is not 0 is without zeros at the end -/
theorem can_take {l : List Nat} (h : Dok l) (k : Nat) (hk : k ≤ l.length) (hz : k = 0 ∨ l.getD (k - 1) 0 ≠ 0) : Can (l.take k) := by
  refine ⟨h.take k, ?_⟩
  rcases Nat.eq_zero_or_pos k with h0 | h0
  · subst h0; left; simp
  · right
    rcases hz with h1 | hz
    · omega
    · obtain ⟨j, rfl⟩ : ∃ j, k = j + 1 := ⟨k - 1, by omega⟩
      rw [val_take_succ l j (by omega), List.length_take, Nat.min_eq_left hk]
      simp only [Nat.add_sub_cancel] at hz ⊢
      have : pw j * 1 ≤ pw j * l.getD j 0 := Nat.mul_le_mul_left _ (Nat.pos_of_ne_zero hz)
      omega
end Go.Proofs.YtpneahdbiikonaaDoor
