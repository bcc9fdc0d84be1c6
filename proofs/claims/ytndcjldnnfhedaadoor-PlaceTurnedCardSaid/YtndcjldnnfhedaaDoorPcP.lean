/- Place: longitudes as plain functions of integers: no run of the model here. -/
import Derived.Test.YtndcjldnnfhedaaDoorAnU
namespace Go.Proofs.YtndcjldnnfhedaaDoor
set_option linter.unusedVariables false

abbrev Ar := Int × Int
def latOk (a b : Int) : Bool := decide (-5400000 ≤ a ∧ a ≤ b ∧ b ≤ 5400000)
def allB (a b : Int) : Bool := decide (a = -10800000 ∧ b = 10800000)
def lonOk (a b : Int) : Bool := decide ((a = -10800000 ∧ b = 10800000) ∨ (-10800000 ≤ a ∧ a < 10800000 ∧ a ≤ b ∧ b < a + 21600000))
def plOk (a b c d : Int) : Bool := latOk a b && lonOk c d
def ptOk (x y : Int) : Bool := decide (-5400000 ≤ x ∧ x ≤ 5400000 ∧ -10800000 ≤ y ∧ y < 10800000)
theorem latOk_iff (a b : Int) : latOk a b = true ↔ (-5400000 ≤ a ∧ a ≤ b ∧ b ≤ 5400000) := by unfold latOk; simp
theorem lonOk_iff (a b : Int) : lonOk a b = true ↔ ((a = -10800000 ∧ b = 10800000) ∨ (-10800000 ≤ a ∧ a < 10800000 ∧ a ≤ b ∧ b < a + 21600000)) := by unfold lonOk; simp
theorem ptOk_iff (x y : Int) : ptOk x y = true ↔ (-5400000 ≤ x ∧ x ≤ 5400000 ∧ -10800000 ≤ y ∧ y < 10800000) := by unfold ptOk; simp
theorem plOk_iff (a b c d : Int) : plOk a b c d = true ↔ (latOk a b = true ∧ lonOk c d = true) := by unfold plOk; simp
theorem latOk_not (a b : Int) : latOk a b = false ↔ ¬ (-5400000 ≤ a ∧ a ≤ b ∧ b ≤ 5400000) := by unfold latOk; rw [decide_eq_false_iff_not]
theorem lonOk_not (a b : Int) : lonOk a b = false ↔ ¬ ((a = -10800000 ∧ b = 10800000) ∨ (-10800000 ≤ a ∧ a < 10800000 ∧ a ≤ b ∧ b < a + 21600000)) := by unfold lonOk; rw [decide_eq_false_iff_not]
theorem ptOk_not (x y : Int) : ptOk x y = false ↔ ¬ (-5400000 ≤ x ∧ x ≤ 5400000 ∧ -10800000 ≤ y ∧ y < 10800000) := by unfold ptOk; rw [decide_eq_false_iff_not]
theorem lon_bd {a b : Int} (h : lonOk a b = true) : -10800000 ≤ a ∧ a < 10800000 ∧ a ≤ b ∧ b ≤ a + 21600000 ∧ b < 32400000 := by rw [lonOk_iff] at h; omega

/-- how far some arcs go to the east of a longitude -/
def far (x : Int) : List Ar → Int → Int
  | [], m => m
  | a :: l, m => far x l (max m ((a.1 - x) % 21600000 + (a.2 - a.1)))
def stepL (l : List Ar) (best f : Ar) : Ar :=
  if far f.1 l 0 < best.2 - best.1 ∨ (far f.1 l 0 = best.2 - best.1 ∧ signN f.1 < best.1) then (signN f.1, signN f.1 + far f.1 l 0) else best
def arndG (l : List Ar) : List Ar → Ar → Ar
  | [], b => b
  | f :: r, b => arndG l r (stepL l b f)
/-- the least longitudes around some arcs -/
def arnd (l : List Ar) : Ar := arndG l l (-10800000, 10800000)
theorem far_ge (x : Int) (l : List Ar) : ∀ m, m ≤ far x l m := by
  induction l with
  | nil => intro m; exact Int.le_refl _
  | cons a l ih => intro m; exact Int.le_trans (by omega) (ih _)
theorem far_mem (x : Int) (l : List Ar) : ∀ m, ∀ p ∈ l, (p.1 - x) % 21600000 + (p.2 - p.1) ≤ far x l m := by
  induction l with
  | nil => intro m p hp; cases hp
  | cons a l ih =>
    intro m p hp
    rcases List.mem_cons.1 hp with rfl | hp
    · exact Int.le_trans (by omega) (far_ge x l _)
    · exact ih _ p hp
theorem far_le (x B : Int) (l : List Ar) : (∀ p ∈ l, p.2 - p.1 ≤ B) → ∀ m, m ≤ 21600000 + B → 0 ≤ B → far x l m ≤ 21600000 + B := by
  induction l with
  | nil => intro _ m h _; exact h
  | cons a l ih =>
    intro hl m h hB
    have := hl a List.mem_cons_self
    exact ih (fun p hp => hl p (List.mem_cons_of_mem _ hp)) _ (by omega) hB
theorem far_max (x : Int) (l : List Ar) : ∀ m n, far x l (max m n) = max (far x l m) n := by
  induction l with
  | nil => intro m n; rfl
  | cons a l ih =>
    intro m n
    show far x l (max (max m n) _) = max (far x l (max m _)) n
    rw [show max (max m n) ((a.1 - x) % 21600000 + (a.2 - a.1)) = max (max m ((a.1 - x) % 21600000 + (a.2 - a.1))) n by omega]
    exact ih _ _
theorem far_x {x y : Int} (h : x % 21600000 = y % 21600000) (l : List Ar) : ∀ m, far x l m = far y l m := by
  induction l with
  | nil => intro m; rfl
  | cons a l ih =>
    intro m
    show far x l (max m _) = far y l (max m _)
    rw [ih, show (a.1 - x) % 21600000 = (a.1 - y) % 21600000 by omega]
theorem signN_eq {x y : Int} (h : x % 21600000 = y % 21600000) : signN x = signN y := by unfold signN; rw [h]
theorem signN_mod (x : Int) : signN x % 21600000 = x % 21600000 := by unfold signN; split <;> omega
theorem signN_lon {x : Int} (h : -10800000 ≤ x) (k : x < 10800000) : signN x = x := by unfold signN; split <;> omega

/-- what is found so far: all longitudes, or those from the beginning of an arc -/
def Found (l : List Ar) (b : Ar) : Prop := b = (-10800000, 10800000) ∨ (-10800000 ≤ b.1 ∧ b.1 < 10800000 ∧ b.2 = b.1 + far b.1 l 0 ∧ far b.1 l 0 < 21600000)
theorem found_step {l : List Ar} {b : Ar} (h : Found l b) (f : Ar) : Found l (stepL l b f) := by
  unfold stepL
  split
  · rename_i k
    have s := signN_in f.1
    have e := far_x (signN_mod f.1) l 0
    refine .inr ⟨s.1, s.2, by show signN f.1 + _ = signN f.1 + _; rw [e], ?_⟩
    show far (signN f.1) l 0 < _
    rw [e]
    rcases h with rfl | ⟨h1, h2, h3, h4⟩
    · simp only at k; omega
    · omega
  · exact h
theorem found_all {l : List Ar} : ∀ (r : List Ar) (b : Ar), Found l b → Found l (arndG l r b) := by
  intro r
  induction r with
  | nil => intro b h; exact h
  | cons f r ih => intro b h; exact ih _ (found_step h f)
theorem arnd_found (l : List Ar) : Found l (arnd l) := found_all l _ (.inl rfl)
theorem arnd_ok (l : List Ar) : lonOk (arnd l).1 (arnd l).2 = true := by
  rw [lonOk_iff]
  have g := far_ge (arnd l).1 l 0
  rcases arnd_found l with h | ⟨h1, h2, h3, h4⟩
  · rw [h]; exact .inl ⟨rfl, rfl⟩
  · exact .inr ⟨h1, h2, by omega, by omega⟩
theorem arnd_cov (l : List Ar) {p : Ar} (hp : p ∈ l) : arnd l = (-10800000, 10800000) ∨ (p.1 - (arnd l).1) % 21600000 + (p.2 - p.1) ≤ (arnd l).2 - (arnd l).1 := by
  rcases arnd_found l with h | ⟨h1, h2, h3, h4⟩
  · exact .inl h
  · have := far_mem (arnd l).1 l 0 p hp
    exact .inr (by omega)

/-- has each number of some longitudes the direction of one of others -/
def partB (a b c d : Int) : Bool := decide ((c = -10800000 ∧ d = 10800000) ∨ (¬ (a = -10800000 ∧ b = 10800000) ∧ (a - c) % 21600000 + (b - a) ≤ d - c))
theorem partB_iff (a b c d : Int) : partB a b c d = true ↔ ((c = -10800000 ∧ d = 10800000) ∨ (¬ (a = -10800000 ∧ b = 10800000) ∧ (a - c) % 21600000 + (b - a) ≤ d - c)) := by unfold partB; rw [decide_eq_true_iff]
theorem partB_not (a b c d : Int) : partB a b c d = false ↔ ¬ ((c = -10800000 ∧ d = 10800000) ∨ (¬ (a = -10800000 ∧ b = 10800000) ∧ (a - c) % 21600000 + (b - a) ≤ d - c)) := by unfold partB; rw [decide_eq_false_iff_not]
theorem arnd2 (p q : Ar) : arnd [p, q] = stepL [p, q] (stepL [p, q] (-10800000, 10800000) p) q := rfl
theorem far2 (x : Int) (p q : Ar) : far x [p, q] 0 = max (max 0 ((p.1 - x) % 21600000 + (p.2 - p.1))) ((q.1 - x) % 21600000 + (q.2 - q.1)) := rfl
/-- two remainders of opposite numbers -/
theorem mod_opp (a c : Int) : 0 ≤ (a - c) % 21600000 ∧ (a - c) % 21600000 < 21600000 ∧ ((a - c) % 21600000 = 0 ∧ (c - a) % 21600000 = 0 ∨ (a - c) % 21600000 + (c - a) % 21600000 = 21600000) ∧ 0 ≤ (c - a) % 21600000 ∧ (c - a) % 21600000 < 21600000 := by omega
theorem arnd2_is {a b c d : Int} (h : lonOk a b = true) (k : lonOk c d = true) :
    arnd [(a, b), (c, d)] = (if min (max (b - a) ((c - a) % 21600000 + (d - c))) (max ((a - c) % 21600000 + (b - a)) (d - c)) < 21600000 then
      (if max (b - a) ((c - a) % 21600000 + (d - c)) < max ((a - c) % 21600000 + (b - a)) (d - c) ∨ (max (b - a) ((c - a) % 21600000 + (d - c)) = max ((a - c) % 21600000 + (b - a)) (d - c) ∧ a ≤ c) then (a, a + max (b - a) ((c - a) % 21600000 + (d - c))) else (c, c + max ((a - c) % 21600000 + (b - a)) (d - c)))
      else (-10800000, 10800000)) := by
  have ha := lon_bd h
  have hc := lon_bd k
  have sa := signN_lon ha.1 ha.2.1
  have sc := signN_lon hc.1 hc.2.1
  have m := mod_opp a c
  have e1 : far a [(a, b), (c, d)] 0 = max (b - a) ((c - a) % 21600000 + (d - c)) := by
    rw [far2]; show max (max 0 ((a - a) % 21600000 + (b - a))) _ = _; rw [Int.sub_self]; simp only [Int.zero_emod]; omega
  have e2 : far c [(a, b), (c, d)] 0 = max ((a - c) % 21600000 + (b - a)) (d - c) := by
    rw [far2]; show max (max 0 _) ((c - c) % 21600000 + (d - c)) = _; rw [Int.sub_self]; simp only [Int.zero_emod]; omega
  rw [arnd2]
  unfold stepL
  simp only [e1, e2, sa, sc]
  clear e1 e2 sa sc
  generalize (a - c) % 21600000 = u at *
  generalize (c - a) % 21600000 = v at *
  generalize max (b - a) (v + (d - c)) = U at *
  generalize max (u + (b - a)) (d - c) = V at *
  by_cases h1 : U < 21600000
  · rw [if_pos (show U < 10800000 - -10800000 ∨ _ from .inl (by omega))]
    by_cases h2 : U < V ∨ U = V ∧ a ≤ c
    · rw [if_pos (show min U V < 21600000 by omega), if_pos h2, if_neg]
      simp only; omega
    · rw [if_pos (show min U V < 21600000 by omega), if_neg h2, if_pos]
      simp only; omega
  · rw [if_neg (show ¬ (U < 10800000 - -10800000 ∨ (U = 10800000 - -10800000 ∧ a < -10800000)) by omega)]
    by_cases h2 : V < 21600000
    · rw [if_pos (show min U V < 21600000 by omega), if_neg (show ¬ (U < V ∨ U = V ∧ a ≤ c) by omega), if_pos]
      simp only; omega
    · rw [if_neg (show ¬ (min U V < 21600000) by omega), if_neg]
      simp only; omega
theorem part_is {a b c d : Int} (h : lonOk a b = true) (k : lonOk c d = true) : decide (arnd [(a, b), (c, d)] = (c, d)) = partB a b c d := by
  rw [arnd2_is h k, Bool.eq_iff_iff, partB_iff, decide_eq_true_iff]
  rw [lonOk_iff] at h k
  have m := mod_opp a c
  have q : (a - c) % 21600000 = 0 → (a - c) = 0 ∨ a - c ≤ -21600000 ∨ 21600000 ≤ a - c := by omega
  generalize (a - c) % 21600000 = u at *
  generalize (c - a) % 21600000 = v at *
  split
  · split
    · rw [Prod.mk.injEq]; omega
    · rw [Prod.mk.injEq]; omega
  · rw [Prod.mk.injEq]; omega
/-- the pieces in which two arcs of longitudes meet -/
def pcs (a b c d k : Int) : List Ar := if a ≤ d + k ∧ c + k ≤ b then [(max a (c + k), min b (d + k))] else []
def pieces (a b c d : Int) : List Ar := pcs a b c d (-21600000) ++ (pcs a b c d 0 ++ pcs a b c d 21600000)
theorem pcs_turn (a b c d k : Int) : pcs c d a b (-k) = (pcs a b c d k).map (fun p => (p.1 - k, p.2 - k)) := by
  unfold pcs
  by_cases h : a ≤ d + k ∧ c + k ≤ b
  · rw [if_pos h, if_pos (by omega)]
    simp only [List.map_cons, List.map_nil, List.cons.injEq, Prod.mk.injEq, and_true]
    omega
  · rw [if_neg h, if_neg (by omega)]; rfl
theorem far_move (x k : Int) (h : k % 21600000 = 0) (p : Ar) (l : List Ar) (m : Int) : far x ((p.1 - k, p.2 - k) :: l) m = far x (p :: l) m := by
  show far x l (max m ((p.1 - k - x) % 21600000 + (p.2 - k - (p.1 - k)))) = far x l (max m _)
  rw [show (p.1 - k - x) % 21600000 = (p.1 - x) % 21600000 by omega, show p.2 - k - (p.1 - k) = p.2 - p.1 by omega]
theorem step_move {l l' : List Ar} (hl : ∀ x, far x l 0 = far x l' 0) (k : Int) (h : k % 21600000 = 0) (b p : Ar) : stepL l' b (p.1 - k, p.2 - k) = stepL l b p := by
  unfold stepL
  simp only
  rw [← hl, far_x (show (p.1 - k) % 21600000 = p.1 % 21600000 by omega), signN_eq (show (p.1 - k) % 21600000 = p.1 % 21600000 by omega)]
theorem step_comm (l : List Ar) (b f g : Ar) : stepL l (stepL l b f) g = stepL l (stepL l b g) f := by
  unfold stepL
  have ef : signN f.1 = signN g.1 → far f.1 l 0 = far g.1 l 0 := fun h => far_x (by have := signN_mod f.1; have := signN_mod g.1; omega) l 0
  generalize signN f.1 = s at *
  generalize signN g.1 = t at *
  generalize far f.1 l 0 = U at *
  generalize far g.1 l 0 = V at *
  obtain ⟨x, y⟩ := b
  simp only
  by_cases h1 : U < y - x ∨ U = y - x ∧ s < x
  · rw [if_pos h1]
    by_cases h2 : V < y - x ∨ V = y - x ∧ t < x
    · rw [if_pos h2]
      simp only
      by_cases h3 : V < s + U - s ∨ V = s + U - s ∧ t < s
      · rw [if_pos h3, if_neg]; omega
      · rw [if_neg h3]
        by_cases h4 : U < t + V - t ∨ U = t + V - t ∧ s < t
        · rw [if_pos h4]
        · rw [if_neg h4, Prod.mk.injEq]; omega
    · rw [if_neg h2]
      simp only
      rw [if_neg (by omega), if_pos h1]
  · rw [if_neg h1]
    by_cases h2 : V < y - x ∨ V = y - x ∧ t < x
    · rw [if_pos h2]
      simp only
      rw [if_neg (by omega)]
    · rw [if_neg h2, if_neg h1]
theorem arnd_one (p : Ar) (k : Int) (h : k % 21600000 = 0) : arnd [(p.1 - k, p.2 - k)] = arnd [p] := by
  show stepL [(p.1 - k, p.2 - k)] _ (p.1 - k, p.2 - k) = stepL [p] _ p
  exact step_move (fun x => (far_move x k h p [] 0).symm) k h _ _
theorem arnd_two (p q : Ar) (k k' : Int) (h : k % 21600000 = 0) (h' : k' % 21600000 = 0) : arnd [(q.1 - k', q.2 - k'), (p.1 - k, p.2 - k)] = arnd [p, q] := by
  have hl : ∀ x, far x [p, q] 0 = far x [(q.1 - k', q.2 - k'), (p.1 - k, p.2 - k)] 0 := by
    intro x
    rw [far_move x k' h']
    show _ = far x ((p.1 - k, p.2 - k) :: []) (max 0 _)
    rw [far_move x k h]
    show max (max 0 _) _ = max (max 0 _) _
    omega
  show stepL _ (stepL _ _ (q.1 - k', q.2 - k')) (p.1 - k, p.2 - k) = stepL _ (stepL _ _ p) q
  rw [step_move hl k h, step_move hl k' h', step_comm]
theorem hull_comm (p q : Ar) : arnd [p, q] = arnd [q, p] := by
  have h := arnd_two q p 0 0 (by decide) (by decide)
  simpa using h
theorem arnd_three (p q r : Ar) (k k' k'' : Int) (h : k % 21600000 = 0) (h' : k' % 21600000 = 0) (h'' : k'' % 21600000 = 0) : arnd [(r.1 - k'', r.2 - k''), (q.1 - k', q.2 - k'), (p.1 - k, p.2 - k)] = arnd [p, q, r] := by
  have hl : ∀ x, far x [p, q, r] 0 = far x [(r.1 - k'', r.2 - k''), (q.1 - k', q.2 - k'), (p.1 - k, p.2 - k)] 0 := by
    intro x
    rw [far_move x k'' h'']
    show _ = far x ((q.1 - k', q.2 - k') :: _) (max 0 _)
    rw [far_move x k' h']
    show _ = far x ((p.1 - k, p.2 - k) :: _) (max (max 0 _) _)
    rw [far_move x k h]
    show max (max (max 0 _) _) _ = max (max (max 0 _) _) _
    omega
  show stepL _ (stepL _ (stepL _ _ (r.1 - k'', r.2 - k'')) (q.1 - k', q.2 - k')) (p.1 - k, p.2 - k) = stepL _ (stepL _ (stepL _ _ p) q) r
  rw [step_move hl k h, step_move hl k' h', step_move hl k'' h'']
  rw [step_comm _ (stepL _ _ r) q p, step_comm _ _ r p, step_comm _ (stepL _ _ p) r q]
theorem meet_comm (a b c d : Int) : arnd (pieces a b c d) = arnd (pieces c d a b) ∧ (pieces a b c d = [] ↔ pieces c d a b = []) := by
  have e1 := pcs_turn a b c d (-21600000)
  have e2 := pcs_turn a b c d 0
  have e3 := pcs_turn a b c d 21600000
  unfold pieces
  rw [show (-(-21600000) : Int) = 21600000 by omega] at e1
  rw [show (-(0) : Int) = 0 by omega] at e2
  rw [e1, e2, e3]
  have z : (0 : Int) % 21600000 = 0 := by decide
  have t : (21600000 : Int) % 21600000 = 0 := by decide
  have n : (-21600000 : Int) % 21600000 = 0 := by decide
  have one : ∀ k, pcs a b c d k = [] ∨ ∃ p, pcs a b c d k = [p] := by intro k; unfold pcs; split; exact .inr ⟨_, rfl⟩; exact .inl rfl
  rcases one (-21600000) with h1 | ⟨p, h1⟩ <;> rcases one 0 with h2 | ⟨q, h2⟩ <;> rcases one 21600000 with h3 | ⟨r, h3⟩ <;> rw [h1, h2, h3] <;> refine ⟨?_, by simp⟩
  · rfl
  · exact (arnd_one r _ t).symm
  · exact (arnd_one q _ z).symm
  · exact (arnd_two q r _ _ z t).symm
  · exact (arnd_one p _ n).symm
  · exact (arnd_two p r _ _ n t).symm
  · exact (arnd_two p q _ _ n z).symm
  · exact (arnd_three p q r _ _ _ n z t).symm
/-- a number that has a direction of both is in a piece -/
theorem pieces_mem {a b c d y : Int} (h : lonOk a b = true) (k : lonOk c d = true) (hy : -10800000 ≤ y ∧ y < 10800000) (h1 : partB y y a b = true) (h2 : partB y y c d = true) :
    ∃ p ∈ pieces a b c d, ∃ n, p.1 ≤ n ∧ n ≤ p.2 ∧ n % 21600000 = y % 21600000 := by
  rw [lonOk_iff] at h k
  rw [partB_iff] at h1 h2
  obtain ⟨n, hn1, hn2, hn3⟩ : ∃ n, a ≤ n ∧ n ≤ b ∧ n % 21600000 = y % 21600000 := by
    rcases h1 with h1 | h1
    · exact ⟨y, by omega, by omega, rfl⟩
    · exact ⟨a + (y - a) % 21600000, by omega, by omega, by omega⟩
  obtain ⟨m, hm1, hm2, hm3⟩ : ∃ n, c ≤ n ∧ n ≤ d ∧ n % 21600000 = y % 21600000 := by
    rcases h2 with h2 | h2
    · exact ⟨y, by omega, by omega, rfl⟩
    · exact ⟨c + (y - c) % 21600000, by omega, by omega, by omega⟩
  have hk : n - m = -21600000 ∨ n - m = 0 ∨ n - m = 21600000 := by omega
  have key : ∀ k, n - m = k → (max a (c + k), min b (d + k)) ∈ pcs a b c d k ∧ max a (c + k) ≤ n ∧ n ≤ min b (d + k) := by
    intro k e
    unfold pcs
    rw [if_pos (by omega)]
    exact ⟨List.mem_cons_self, by omega, by omega⟩
  unfold pieces
  rcases hk with e | e | e
  · obtain ⟨q1, q2, q3⟩ := key _ e
    exact ⟨_, by simp only [List.mem_append]; exact .inl q1, n, q2, q3, hn3⟩
  · obtain ⟨q1, q2, q3⟩ := key _ e
    exact ⟨_, by simp only [List.mem_append]; exact .inr (.inl q1), n, q2, q3, hn3⟩
  · obtain ⟨q1, q2, q3⟩ := key _ e
    exact ⟨_, by simp only [List.mem_append]; exact .inr (.inr q1), n, q2, q3, hn3⟩
theorem meet_has {a b c d y : Int} (h : lonOk a b = true) (k : lonOk c d = true) (hy : -10800000 ≤ y ∧ y < 10800000) (h1 : partB y y a b = true) (h2 : partB y y c d = true) :
    pieces a b c d ≠ [] ∧ partB y y (arnd (pieces a b c d)).1 (arnd (pieces a b c d)).2 = true := by
  obtain ⟨p, hp, n, n1, n2, n3⟩ := pieces_mem h k hy h1 h2
  refine ⟨fun e => (by rw [e] at hp; exact absurd hp List.not_mem_nil), ?_⟩
  rw [partB_iff]
  have o := arnd_ok (pieces a b c d)
  rw [lonOk_iff] at o
  rcases arnd_cov _ hp with e | e
  · rw [e]; exact .inl ⟨rfl, rfl⟩
  · by_cases hz : (arnd (pieces a b c d)).1 = -10800000 ∧ (arnd (pieces a b c d)).2 = 10800000
    · exact .inl hz
    · refine .inr ⟨by omega, ?_⟩
      generalize (arnd (pieces a b c d)).1 = u at *
      generalize (arnd (pieces a b c d)).2 = v at *
      omega
theorem hull_in8 {a b c d : Int} (h : lonOk a b = true) (k : lonOk c d = true) :
    partB a b (arnd [(a, b), (c, d)]).1 (arnd [(a, b), (c, d)]).2 = true ∧ partB c d (arnd [(a, b), (c, d)]).1 (arnd [(a, b), (c, d)]).2 = true := by
  have o := arnd_ok [(a, b), (c, d)]
  have c1 := arnd_cov [(a, b), (c, d)] (p := (a, b)) (by simp)
  have c2 := arnd_cov [(a, b), (c, d)] (p := (c, d)) (by simp)
  rw [lonOk_iff] at o h k
  rw [partB_iff, partB_iff]
  generalize hr : arnd [(a, b), (c, d)] = r at *
  obtain ⟨u, v⟩ := r
  simp only [Prod.mk.injEq] at *
  omega
theorem part_trans {y a b u v : Int} (h : lonOk a b = true) (k : lonOk u v = true) (h1 : partB y y a b = true) (h2 : partB a b u v = true) : partB y y u v = true := by
  rw [lonOk_iff] at h k
  rw [partB_iff] at *
  omega
/-- moved by a longitude -/
def mv (n : Int) : Int := (n + 10800000) % 21600000 - 10800000
def mvL (a b t : Int) : Int := if b - a < 21600000 then mv (a + t) else a
def mvH (a b t : Int) : Int := if b - a < 21600000 then mv (a + t) + (b - a) else b
theorem mv_in (n : Int) : -10800000 ≤ mv n ∧ mv n < 10800000 ∧ mv n % 21600000 = n % 21600000 := by unfold mv; omega
theorem mv_lon {a b : Int} (h : lonOk a b = true) (t : Int) : lonOk (mvL a b t) (mvH a b t) = true := by
  have m := mv_in (a + t)
  rw [lonOk_iff] at *
  unfold mvL mvH
  split <;> omega
theorem mv_part {a b c d : Int} (h : lonOk a b = true) (k : lonOk c d = true) (t : Int) : partB (mvL a b t) (mvH a b t) (mvL c d t) (mvH c d t) = partB a b c d := by
  have m := mv_in (a + t)
  have n := mv_in (c + t)
  have e : (mv (a + t) - mv (c + t)) % 21600000 = (a - c) % 21600000 := by omega
  rw [lonOk_iff] at h k
  rw [Bool.eq_iff_iff, partB_iff, partB_iff]
  unfold mvL mvH
  by_cases h1 : b - a < 21600000 <;> by_cases h2 : d - c < 21600000 <;> simp only [h1, h2, if_true, if_false]
  · rw [e]; omega
  · omega
  · omega
theorem mv_point {c d y : Int} (k : lonOk c d = true) (hy : -10800000 ≤ y ∧ y < 10800000) (t : Int) : partB (mv (y + t)) (mv (y + t)) (mvL c d t) (mvH c d t) = partB y y c d := by
  have m := mv_in (y + t)
  have n := mv_in (c + t)
  have e : (mv (y + t) - mv (c + t)) % 21600000 = (y - c) % 21600000 := by omega
  rw [lonOk_iff] at k
  rw [Bool.eq_iff_iff, partB_iff, partB_iff]
  unfold mvL mvH
  by_cases h2 : d - c < 21600000 <;> simp only [h2, if_true, if_false]
  · rw [e]; omega
  · omega
theorem arnd2_wid {a b c d : Int} (h : lonOk a b = true) (k : lonOk c d = true) :
    (arnd [(a, b), (c, d)]).2 - (arnd [(a, b), (c, d)]).1 = min 21600000 (min (max (b - a) ((c - a) % 21600000 + (d - c))) (max ((a - c) % 21600000 + (b - a)) (d - c))) := by
  rw [arnd2_is h k]
  split
  · split <;> simp only <;> omega
  · simp only; omega
theorem mv_wid {a b c d : Int} (h : lonOk a b = true) (k : lonOk c d = true) (t : Int) :
    (arnd [(mvL a b t, mvH a b t), (mvL c d t, mvH c d t)]).2 - (arnd [(mvL a b t, mvH a b t), (mvL c d t, mvH c d t)]).1 = (arnd [(a, b), (c, d)]).2 - (arnd [(a, b), (c, d)]).1 := by
  rw [arnd2_wid h k, arnd2_wid (mv_lon h t) (mv_lon k t)]
  have m := mv_in (a + t)
  have n := mv_in (c + t)
  have e : (mv (a + t) - mv (c + t)) % 21600000 = (a - c) % 21600000 := by omega
  have e' : (mv (c + t) - mv (a + t)) % 21600000 = (c - a) % 21600000 := by omega
  have q := mod_opp a c
  have w1 : mvH a b t - mvL a b t = b - a := by unfold mvL mvH; split <;> omega
  have w2 : mvH c d t - mvL c d t = d - c := by unfold mvL mvH; split <;> omega
  rw [w1, w2]
  rw [lonOk_iff] at h k
  by_cases h1 : b - a < 21600000
  · by_cases h2 : d - c < 21600000
    · rw [show mvL a b t = mv (a + t) from if_pos h1, show mvL c d t = mv (c + t) from if_pos h2, e, e']
    · omega
  · omega
end Go.Proofs.YtndcjldnnfhedaaDoor
