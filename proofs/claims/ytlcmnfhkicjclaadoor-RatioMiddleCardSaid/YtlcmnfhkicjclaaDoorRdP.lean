/- Medians and means of fitting numbers lie between the least and the greatest; how many are less or greater than the median: no run of the model here. -/
import Derived.Test.YtlcmnfhkicjclaaDoorRsD
namespace Go.Proofs.YtlcmnfhkicjclaaDoor
open Go.RowKit
set_option linter.unusedVariables false

theorem less_le (s : List Rat) (hp : s.Pairwise (· ≤ ·)) (k : Nat) (hk : k < s.length) (m : Rat) (hm : m ≤ s[k]) : s.countP (fun x => decide (x < m)) ≤ k := by
  have e : s = s.take k ++ s.drop k := (List.take_append_drop k s).symm
  rw [e, List.countP_append]
  have h1 : (s.take k).countP (fun x => decide (x < m)) ≤ k := Nat.le_trans List.countP_le_length (by simp; omega)
  have h2 : (s.drop k).countP (fun x => decide (x < m)) = 0 := by
    rw [List.countP_eq_zero]
    intro x hx
    rw [decide_eq_true_eq]
    obtain ⟨j, hj, rfl⟩ := List.mem_iff_getElem.1 hx
    rw [List.getElem_drop]
    have : s[k] ≤ s[k + j]'(by simp at hj; omega) := by
      by_cases h0 : j = 0
      · subst h0; exact Rat.le_refl
      · exact List.pairwise_iff_getElem.1 hp k (k + j) hk (by simp at hj; omega) (by omega)
    grind
  omega
theorem more_le (s : List Rat) (hp : s.Pairwise (· ≤ ·)) (k : Nat) (hk : k < s.length) (m : Rat) (hm : s[k] ≤ m) : s.countP (fun x => decide (m < x)) ≤ s.length - (k + 1) := by
  have e : s = s.take (k + 1) ++ s.drop (k + 1) := (List.take_append_drop (k + 1) s).symm
  have h2 : (s.take (k + 1)).countP (fun x => decide (m < x)) = 0 := by
    rw [List.countP_eq_zero]
    intro x hx
    rw [decide_eq_true_eq]
    obtain ⟨j, hj, rfl⟩ := List.mem_iff_getElem.1 hx
    rw [List.getElem_take]
    have hj' : j ≤ k := by simp at hj; omega
    have : s[j]'(by omega) ≤ s[k] := by
      by_cases h0 : j = k
      · subst h0; exact Rat.le_refl
      · exact List.pairwise_iff_getElem.1 hp j k (by omega) hk (by omega)
    grind
  have h1 : (s.drop (k + 1)).countP (fun x => decide (m < x)) ≤ s.length - (k + 1) := Nat.le_trans List.countP_le_length (by simp)
  have h3 := List.countP_append (p := fun x => decide (m < x)) (l₁ := s.take (k + 1)) (l₂ := s.drop (k + 1))
  rw [← e] at h3
  omega
theorem sum_bd (lo hi : Rat) : ∀ (xs : List Rat) (s t : Rat) (k : Nat), (∀ x ∈ xs, lo ≤ x ∧ x ≤ hi) → lo * ((k : Int) : Rat) ≤ s → s ≤ hi * ((k : Int) : Rat) → sumE s xs = some t → lo * (((k + xs.length : Nat) : Int) : Rat) ≤ t ∧ t ≤ hi * (((k + xs.length : Nat) : Int) : Rat)
  | [], s, t, k, h, h1, h2, he => by
    have : s = t := Option.some.inj he
    subst this
    exact ⟨h1, h2⟩
  | x :: xs, s, t, k, h, h1, h2, he => by
    have hx := h x (List.mem_cons_self ..)
    have he2 : sumE (s + x) xs = some t := by
      cases hf : rfit (s + x)
      · rw [sumE_big hf] at he; cases he
      · rw [sumE_fit hf] at he; exact he
    have ec : (((k + 1 : Nat) : Int) : Rat) = ((k : Int) : Rat) + 1 := by
      rw [show ((k + 1 : Nat) : Int) = (k : Int) + 1 by omega, Rat.intCast_add]; rfl
    have := sum_bd lo hi xs (s + x) t (k + 1) (fun y hy => h y (List.mem_cons_of_mem _ hy)) (by rw [ec]; grind) (by rw [ec]; grind) he2
    rw [show k + (x :: xs).length = k + 1 + xs.length by simp; omega]
    exact this
theorem mnQ_bd (lo hi t : Rat) (n : Nat) (hn : 0 < n) (h1 : lo * ((n : Int) : Rat) ≤ t) (h2 : t ≤ hi * ((n : Int) : Rat)) : lo ≤ mnQ t n ∧ mnQ t n ≤ hi := by
  have hp : (0 : Rat) < ((n : Int) : Rat) := by
    rw [show (0 : Rat) = ((0 : Int) : Rat) from rfl, Rat.intCast_lt_intCast]; omega
  unfold mnQ
  constructor
  · rw [← Rat.not_lt, Rat.div_lt_iff hp, Rat.not_lt]; exact h1
  · rw [← Rat.not_lt, Rat.lt_div_iff hp, Rat.not_lt]; exact h2

/-- what is asked of a median's and a mean's answer -/
theorem mean_in {qs : List Rat} (hf : FitAll qs) (n : Nat) (hn : n = qs.length) (h1 : 1 ≤ n) (lo hi : Rat) (hb : ∀ x ∈ qs, lo ≤ x ∧ x ≤ hi) (he : mnE (mean qs) n = 0) :
    ∃ q : Rat, rfit q = true ∧ lo ≤ q ∧ q ≤ hi ∧ mnN (mean qs) n = q.num ∧ mnD (mean qs) n = (q.den : Int) := by
  cases ho : mean qs with
  | none => rw [ho] at he; exact absurd (show (5 : Int) = 0 from he) (by decide)
  | some s =>
    rw [ho] at he
    have hr : rfit (mnQ s n) = true := by
      cases hq : rfit (mnQ s n)
      · have : rE (mnQ s n) = 0 := he
        rw [rE_big hq] at this; cases this
      · rfl
    have hs : lo * (((n : Nat) : Int) : Rat) ≤ s ∧ s ≤ hi * (((n : Nat) : Int) : Rat) := by
      match qs, hn with
      | [], hn => simp at hn; omega
      | q :: r, hn =>
        have hq := hb q (List.mem_cons_self ..)
        have e1 : (((1 : Nat) : Int) : Rat) = 1 := rfl
        have := sum_bd lo hi r q s 1 (fun y hy => hb y (List.mem_cons_of_mem _ hy)) (by rw [e1, Rat.mul_one]; exact hq.1) (by rw [e1, Rat.mul_one]; exact hq.2) ho
        rw [show 1 + r.length = n by simp at hn; omega] at this
        exact this
    have hm := mnQ_bd lo hi s n (by omega) hs.1 hs.2
    exact ⟨mnQ s n, hr, hm.1, hm.2, rN_fit hr, rD_fit hr⟩
/-- the median, where there is one -/
theorem median_in {qs : List Rat} (hf : FitAll qs) (n : Nat) (hn : n = qs.length) (h1 : 1 ≤ n) (he : medE (sortQ qs) = 0) :
    ∃ q : Rat, rfit q = true ∧ medN (sortQ qs) = q.num ∧ medD (sortQ qs) = (q.den : Int) ∧ (sortQ qs).getD 0 0 ≤ q ∧ q ≤ (sortQ qs).getD (n - 1) 0 ∧
      2 * qs.countP (fun x => decide (x < q)) ≤ n ∧ 2 * qs.countP (fun x => decide (q < x)) ≤ n := by
  obtain ⟨s, hs⟩ : ∃ s, s = sortQ qs := ⟨_, rfl⟩
  have hp := sortQ_sorted qs
  have hl := sortQ_len qs
  have hft := sortQ_fit hf
  have hperm := sortQ_perm qs
  rw [← hs] at hp hl hft hperm he ⊢
  have gd : ∀ k, k < s.length → s.getD k 0 = s[k]! := by
    intro k hk
    rw [List.getD_eq_getElem?_getD, List.getElem?_eq_getElem hk, getElem!_pos s k hk]; rfl
  have mono : ∀ a b, a ≤ b → b < s.length → s.getD a 0 ≤ s.getD b 0 := by
    intro a b hab hb
    rw [gd a (by omega), gd b hb, getElem!_pos s a (by omega), getElem!_pos s b hb]
    by_cases h0 : a = b
    · subst h0; exact Rat.le_refl
    · exact List.pairwise_iff_getElem.1 hp a b (by omega) hb (by omega)
  have key : ∀ (q : Rat) (a b : Nat), a < s.length → b < s.length → 2 * a ≤ n → n ≤ 2 * b + 2 → (n % 2 = 1 → 2 * b + 1 = n) → q ≤ s.getD a 0 → s.getD b 0 ≤ q → (2 * qs.countP (fun x => decide (x < q)) ≤ n ∧ 2 * qs.countP (fun x => decide (q < x)) ≤ n) := by
    intro q a b ha hb h2a h2b hodd hqa hqb
    rw [gd a ha, getElem!_pos s a ha] at hqa
    rw [gd b hb, getElem!_pos s b hb] at hqb
    have c1 := less_le s hp a ha q hqa
    have c2 := more_le s hp b hb q hqb
    rw [hperm.countP_eq] at c1 c2
    omega
  by_cases ho : s.length % 2 = 1
  · have hk : s.length / 2 < s.length := by omega
    refine ⟨s.getD (s.length / 2) 0, ?_, ?_, ?_, mono _ _ (Nat.zero_le _) hk, mono _ _ (by omega) (by omega), key _ (s.length / 2) (s.length / 2) hk hk (by omega) (by omega) (by omega) Rat.le_refl Rat.le_refl⟩
    · rw [gd _ hk, getElem!_pos s _ hk]; exact hft _ (List.getElem_mem _)
    · unfold medN; rw [if_pos ho]
    · unfold medD; rw [if_pos ho]
  · have hk : s.length / 2 < s.length := by omega
    obtain ⟨u, hu⟩ : ∃ u, u = s.getD (s.length / 2 - 1) 0 := ⟨_, rfl⟩
    obtain ⟨v, hv⟩ : ∃ v, v = s.getD (s.length / 2) 0 := ⟨_, rfl⟩
    have huv : u ≤ v := by rw [hu, hv]; exact mono _ _ (by omega) hk
    have hf2 : FitAll [u, v] := by
      intro q hq
      have g : ∀ k, k < s.length → rfit (s.getD k 0) = true := fun k hk => by
        rw [gd _ hk, getElem!_pos s _ hk]; exact hft _ (List.getElem_mem _)
      rcases List.mem_cons.1 hq with rfl | hq
      · rw [hu]; exact g _ (by omega)
      · rcases List.mem_cons.1 hq with rfl | hq
        · rw [hv]; exact g _ hk
        · simp at hq
    have he2 : mnE (mean [u, v]) 2 = 0 := by
      unfold medE at he; rw [if_neg ho, ← hu, ← hv] at he; exact he
    obtain ⟨q, q1, q2, q3, q4, q5⟩ := mean_in hf2 2 rfl (by omega) u v (by
      intro x hx
      rcases List.mem_cons.1 hx with rfl | hx
      · exact ⟨Rat.le_refl, huv⟩
      · rcases List.mem_cons.1 hx with rfl | hx
        · exact ⟨huv, Rat.le_refl⟩
        · simp at hx) he2
    refine ⟨q, q1, ?_, ?_, Rat.le_trans (mono 0 (s.length / 2 - 1) (by omega) (by omega)) (hu ▸ q2), Rat.le_trans q3 (hv ▸ mono (s.length / 2) (n - 1) (by omega) (by omega)), key q (s.length / 2) (s.length / 2 - 1) hk (by omega) (by omega) (by omega) (by omega) (hv ▸ q3) (hu ▸ q2)⟩
    · unfold medN; rw [if_neg ho, ← hu, ← hv]; exact q4
    · unfold medD; rw [if_neg ho, ← hu, ← hv]; exact q5
theorem sortQ_bd (qs : List Rat) (n : Nat) (hn : n = qs.length) : ∀ x ∈ qs, (sortQ qs).getD 0 0 ≤ x ∧ x ≤ (sortQ qs).getD (n - 1) 0 := by
  intro x hx
  obtain ⟨s, hs⟩ : ∃ s, s = sortQ qs := ⟨_, rfl⟩
  have hp := sortQ_sorted qs
  have hl := sortQ_len qs
  have hm := (sortQ_perm qs).mem_iff.2 hx
  rw [← hs] at hp hl hm ⊢
  obtain ⟨j, hj, rfl⟩ := List.mem_iff_getElem.1 hm
  have gd : ∀ k (hk : k < s.length), s.getD k 0 = s[k] := by
    intro k hk
    rw [List.getD_eq_getElem?_getD, List.getElem?_eq_getElem hk]; rfl
  rw [gd 0 (by omega), gd (n - 1) (by omega)]
  constructor
  · by_cases h0 : 0 = j
    · subst h0; exact Rat.le_refl
    · exact List.pairwise_iff_getElem.1 hp 0 j (by omega) hj (by omega)
  · by_cases h0 : j = n - 1
    · subst h0; exact Rat.le_refl
    · exact List.pairwise_iff_getElem.1 hp j (n - 1) hj (by omega) (by omega)
theorem sortQ_congr {qs ys : List Rat} (h : ys.Perm qs) : sortQ ys = sortQ qs :=
  sortQ_unique ((sortQ_perm ys).trans h) (sortQ_sorted ys)
end Go.Proofs.YtlcmnfhkicjclaaDoor
