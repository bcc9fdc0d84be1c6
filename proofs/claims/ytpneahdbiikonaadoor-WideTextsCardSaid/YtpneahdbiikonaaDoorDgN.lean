/- Plain numbers: what a round of each loop of the reference's arithmetic of digits does: no run of the model here. -/
import Derived.Test.YtpneahdbiikonaaDoorDgM
namespace Go.Proofs.YtpneahdbiikonaaDoor
set_option linter.unusedVariables false

theorem can_getLast {l : List Nat} (c : Can l) (h : l ≠ []) : l.getD (l.length - 1) 0 ≠ 0 := by
  intro e
  have hp : 0 < l.length := List.length_pos_iff.2 h
  have h1 := val_take_succ l (l.length - 1) (by omega)
  rw [show l.length - 1 + 1 = l.length by omega, List.take_length, e, Nat.mul_zero, Nat.add_zero] at h1
  have h2 := val_lt (c.ok.take (l.length - 1))
  rw [List.length_take, Nat.min_eq_left (by omega)] at h2
  rcases c.top with h3 | h3
  · exact h h3
  · omega

/-- digits from k on are 0 if the value is less than the k-th power -/
theorem digit_zero {l : List Nat} {k : Nat} (h : val l < pw k) (j : Nat) (hj : k ≤ j) : l.getD j 0 = 0 := by
  rcases Nat.lt_or_ge j l.length with h1 | h1
  · have e := val_take_succ l j h1
    have m := val_take_mono l (j + 1)
    have p := pw_mono hj
    rcases Nat.eq_zero_or_pos (l.getD j 0) with z | z
    · exact z
    · have : pw j * 1 ≤ pw j * l.getD j 0 := Nat.mul_le_mul_left _ z
      omega
  · rw [List.getD_eq_getElem?_getD, List.getElem?_eq_none h1]; rfl

-- Order
theorem ord_lt {a b : List Nat} (ha : Dok a) (hb : Dok b) (hl : a.length = b.length) (i : Nat) (hi : i < a.length) (he : a.drop (i + 1) = b.drop (i + 1)) (h : a.getD i 0 < b.getD i 0) : val a < val b := by
  have e1 := val_take_drop a i (by omega)
  have e2 := val_take_drop b i (by omega)
  have f1 := val_drop_succ a i hi
  have f2 := val_drop_succ b i (by omega)
  rw [he] at f1
  have l1 := val_lt (ha.take i)
  rw [List.length_take, Nat.min_eq_left (by omega)] at l1
  have : val (a.drop i) + 1 ≤ val (b.drop i) := by omega
  have := Nat.mul_le_mul_left (pw i) this
  rw [Nat.mul_add] at this
  omega
theorem drop_step {a b : List Nat} (hl : a.length = b.length) (i : Nat) (hi : i < a.length) (he : a.drop (i + 1) = b.drop (i + 1)) (h : a.getD i 0 = b.getD i 0) : a.drop i = b.drop i := by
  rw [List.drop_eq_getElem_cons hi, List.drop_eq_getElem_cons (by omega : i < b.length), he]
  congr 1
  rw [List.getD_eq_getElem?_getD, List.getD_eq_getElem?_getD, List.getElem?_eq_getElem hi, List.getElem?_eq_getElem (by omega : i < b.length)] at h
  exact h
def ord (x y : Nat) : Int := if x < y then -1 else if y < x then 1 else 0
theorem ord_of_lt {x y : Nat} (h : x < y) : ord x y = -1 := by unfold ord; rw [if_pos h]
theorem ord_of_gt {x y : Nat} (h : y < x) : ord x y = 1 := by unfold ord; rw [if_neg (by omega), if_pos h]
theorem ord_of_eq {x y : Nat} (h : x = y) : ord x y = 0 := by unfold ord; rw [if_neg (by omega), if_neg (by omega)]
theorem ord_le {x y : Nat} : ord x y ≤ 0 ↔ x ≤ y := by unfold ord; split; omega; split <;> omega
theorem ord_neg {x y : Nat} : ord x y < 0 ↔ x < y := by unfold ord; split; omega; split <;> omega
theorem ord_nn {x y : Nat} : 0 ≤ ord x y ↔ y ≤ x := by unfold ord; split; omega; split <;> omega
theorem ord_bd (x y : Nat) : -1 ≤ ord x y ∧ ord x y ≤ 1 := by unfold ord; split; omega; split <;> omega

-- Sum
structure SumI (a b : List Nat) (i carry : Nat) (O : List Nat) : Prop where
  len : O.length = i
  ok : Dok O
  eq : val O + pw i * carry = val (a.take i) + val (b.take i)
  c1 : carry ≤ 1
  top : i = 0 ∨ pw (i - 1) ≤ val a + val b
  small : i ≤ max a.length b.length ∨ carry = 0
theorem sumI_start (a b : List Nat) : SumI a b 0 0 [] := ⟨rfl, Dok.nil, by simp [val], by omega, .inl rfl, .inr rfl⟩
theorem take_over (l : List Nat) (i : Nat) : val (l.take (i + 1)) = val (l.take i) + pw i * l.getD i 0 := by
  rcases Nat.lt_or_ge i l.length with h | h
  · exact val_take_succ l i h
  · rw [val_take_all l (i + 1) (by omega), val_take_all l i h, List.getD_eq_getElem?_getD, List.getElem?_eq_none h]; rfl
theorem sumI_step {a b : List Nat} (ca : Can a) (cb : Can b) {i carry : Nat} {O : List Nat} (h : SumI a b i carry O) (hc : i < a.length ∨ i < b.length ∨ 0 < carry) :
    SumI a b (i + 1) ((carry + a.getD i 0 + b.getD i 0) / 268435456) (O ++ [(carry + a.getD i 0 + b.getD i 0) % 268435456]) := by
  have d1 := ca.ok.get i
  have d2 := cb.ok.get i
  have e1 := take_over a i
  have e2 := take_over b i
  have hc1 := h.c1
  have he := h.eq
  generalize a.getD i 0 = x at *
  generalize b.getD i 0 = y at *
  have hd := Nat.div_add_mod (carry + x + y) 268435456
  have hm := Nat.mod_lt (carry + x + y) (show 0 < 268435456 by omega)
  generalize hq : (carry + x + y) / 268435456 = q at *
  generalize (carry + x + y) % 268435456 = r at *
  have hq1 : q ≤ 1 := by omega
  have E : val (O ++ [r]) + pw (i + 1) * q = val (a.take (i + 1)) + val (b.take (i + 1)) := by
    rw [val_snoc, h.len, e1, e2, show pw (i + 1) = 268435456 * pw i from rfl]
    have : pw i * r + 268435456 * pw i * q = pw i * carry + pw i * x + pw i * y := by
      rw [← Nat.mul_add, ← Nat.mul_add, Nat.mul_comm 268435456 (pw i), Nat.mul_assoc, ← Nat.mul_add]
      congr 1; omega
    omega
  refine ⟨by simp [h.len], Dok.append.2 ⟨h.ok, Dok.cons.2 ⟨hm, Dok.nil⟩⟩, E, hq1, .inr ?_, ?_⟩
  · rw [Nat.add_sub_cancel]
    have t1 := val_take_mono a i
    have t2 := val_take_mono b i
    rcases hc with hc | hc | hc
    · rcases ca.top with z | z
      · rw [z] at hc; simp at hc
      · have := pw_mono (show i ≤ a.length - 1 by omega); omega
    · rcases cb.top with z | z
      · rw [z] at hc; simp at hc
      · have := pw_mono (show i ≤ b.length - 1 by omega); omega
    · have hc' : carry = 1 := by omega
      rw [hc', Nat.mul_one] at he
      omega
  · rcases Nat.lt_or_ge i (max a.length b.length) with z | z
    · exact .inl (by omega)
    · right
      have z1 : ¬ i < a.length := by omega
      have z2 : ¬ i < b.length := by omega
      rw [val_take_all a i (by omega), val_take_all a (i + 1) (by omega)] at e1
      rw [val_take_all b i (by omega), val_take_all b (i + 1) (by omega)] at e2
      have p := pw_pos i
      have x0 : x = 0 := by
        rcases Nat.eq_zero_or_pos x with h0 | h0
        · exact h0
        · have := Nat.mul_pos p h0; omega
      have y0 : y = 0 := by
        rcases Nat.eq_zero_or_pos y with h0 | h0
        · exact h0
        · have := Nat.mul_pos p h0; omega
      omega
theorem sumI_end {a b : List Nat} {i : Nat} {O : List Nat} (h : SumI a b i 0 O) (h1 : ¬ i < a.length) (h2 : ¬ i < b.length) : O = dgs (val a + val b) := by
  have e := h.eq
  rw [Nat.mul_zero, Nat.add_zero, val_take_all a i (by omega), val_take_all b i (by omega)] at e
  refine can_eq ⟨h.ok, ?_⟩ e
  rw [h.len, e]
  rcases h.top with h3 | h3
  · left; have := h.len; rw [h3] at this; exact List.eq_nil_of_length_eq_zero this
  · exact .inr h3

-- Less
structure LessI (a b : List Nat) (i borrow : Nat) (O : List Nat) : Prop where
  len : O.length = i
  ok : Dok O
  eq : val O + val (b.take i) = val (a.take i) + pw i * borrow
  b1 : borrow ≤ 1
theorem lessI_start (a b : List Nat) : LessI a b 0 0 [] := ⟨rfl, Dok.nil, by simp [val], by omega⟩
theorem lessI_step {a b : List Nat} (ha : Dok a) (hb : Dok b) {i borrow : Nat} {O : List Nat} (h : LessI a b i borrow O) (d b' : Nat)
    (hd : d + (borrow + b.getD i 0) = a.getD i 0 + 268435456 * b') (hd1 : d < 268435456) (hb' : b' ≤ 1) : LessI a b (i + 1) b' (O ++ [d]) := by
  have e1 := take_over a i
  have e2 := take_over b i
  have he := h.eq
  refine ⟨by simp [h.len], Dok.append.2 ⟨h.ok, Dok.cons.2 ⟨hd1, Dok.nil⟩⟩, ?_, hb'⟩
  rw [val_snoc, h.len, e1, e2, show pw (i + 1) = 268435456 * pw i from rfl]
  have := congrArg (pw i * ·) hd
  simp only [Nat.mul_add] at this
  rw [show 268435456 * pw i * b' = pw i * (268435456 * b') by rw [Nat.mul_comm 268435456, Nat.mul_assoc]]
  omega
theorem lessI_end {a b : List Nat} (ca : Dok a) (cb : Can b) (hv : val b ≤ val a) {borrow : Nat} {O : List Nat} (h : LessI a b a.length borrow O) : val O = val a - val b := by
  have hl : b.length ≤ a.length := by
    rcases Nat.lt_or_ge a.length b.length with z | z
    · have h1 := val_lt ca
      rcases cb.top with t | t
      · rw [t] at z; simp at z
      · have := pw_mono (show a.length ≤ b.length - 1 by omega); omega
    · exact z
  have e := h.eq
  rw [val_take_all b _ hl, val_take_all a _ (Nat.le_refl _)] at e
  have h2 := val_lt h.ok
  rw [h.len] at h2
  have hb1 := h.b1
  rcases Nat.eq_zero_or_pos borrow with z | z
  · rw [z, Nat.mul_zero] at e; omega
  · rw [show borrow = 1 by omega, Nat.mul_one] at e; omega

-- Times
structure TimI (a b : List Nat) (i : Nat) (O : List Nat) : Prop where
  len : O.length = a.length + b.length
  ok : Dok O
  eq : val O = val (a.take i) * val b
theorem val_replicate_zero (n : Nat) : val (List.replicate n 0) = 0 := by induction n with | zero => rfl | succ n ih => simp [List.replicate_succ, val, ih]
theorem dok_replicate_zero (n : Nat) : Dok (List.replicate n 0) := by intro d hd; have := List.eq_of_mem_replicate hd; omega
theorem timI_start (a b : List Nat) : TimI a b 0 (List.replicate (a.length + b.length) 0) := ⟨by simp, dok_replicate_zero _, by rw [val_replicate_zero]; simp [val]⟩
structure TimJ (a b : List Nat) (i k carry : Nat) (O : List Nat) : Prop where
  len : O.length = a.length + b.length
  ok : Dok O
  eq : val O + pw (i + k) * carry = val (a.take i) * val b + pw i * (a.getD i 0 * val (b.take k))
  top : O.getD (i + b.length) 0 = 0
  c1 : carry < 268435456
theorem timJ_start {a b : List Nat} (ha : Dok a) (hb : Dok b) {i : Nat} {O : List Nat} (hi : i < a.length) (h : TimI a b i O) : TimJ a b i 0 0 O := by
  refine ⟨h.len, h.ok, by rw [h.eq]; simp [val], ?_, by omega⟩
  refine digit_zero (k := i + b.length) ?_ _ (Nat.le_refl _)
  rw [h.eq, pw_add]
  have h1 := val_lt (ha.take i)
  rw [List.length_take, Nat.min_eq_left (by omega)] at h1
  have h2 := val_lt hb
  exact Nat.mul_lt_mul_of_lt_of_le h1 (Nat.le_of_lt h2) (Nat.lt_of_le_of_lt (Nat.zero_le _) h2)
theorem mul_digit {x y : Nat} (hx : x < 268435456) (hy : y < 268435456) : x * y ≤ 72057593501057025 := by
  have : x * y ≤ 268435455 * 268435455 := Nat.mul_le_mul (by omega) (by omega)
  omega
theorem timJ_step {a b : List Nat} (ha : Dok a) (hb : Dok b) {i k carry : Nat} {O : List Nat} (hi : i < a.length) (hk : k < b.length) (h : TimJ a b i k carry O) :
    TimJ a b i (k + 1) ((O.getD (i + k) 0 + a.getD i 0 * b.getD k 0 + carry) / 268435456) (O.set (i + k) ((O.getD (i + k) 0 + a.getD i 0 * b.getD k 0 + carry) % 268435456)) := by
  have hs := val_set O (i + k) ((O.getD (i + k) 0 + a.getD i 0 * b.getD k 0 + carry) % 268435456) (by rw [h.len]; omega)
  have d0 := h.ok.get (i + k)
  have d1 := mul_digit (ha.get i) (hb.get k)
  have he := h.eq
  have e2 := take_over b k
  have c1 := h.c1
  have hlen := h.len
  have hok := h.ok
  have htop := h.top
  obtain ⟨o, ho⟩ : ∃ o, o = O.getD (i + k) 0 := ⟨_, rfl⟩
  rw [← ho] at hs d0 ⊢
  obtain ⟨z, hz⟩ : ∃ z, z = a.getD i 0 * b.getD k 0 := ⟨_, rfl⟩
  rw [← hz] at hs d1 ⊢
  have hd := Nat.div_add_mod (o + z + carry) 268435456
  have hm := Nat.mod_lt (o + z + carry) (show 0 < 268435456 by omega)
  generalize hq : (o + z + carry) / 268435456 = q at *
  generalize hr : (o + z + carry) % 268435456 = r at *
  refine ⟨by rw [List.length_set]; exact hlen, hok.set _ hm, ?_, ?_, by omega⟩
  · rw [e2, Nat.mul_add, Nat.mul_add, show a.getD i 0 * (pw k * b.getD k 0) = pw k * z by rw [hz, Nat.mul_left_comm], ← Nat.mul_assoc (pw i) (pw k) z, ← pw_add, ← Nat.add_assoc (n := i), show pw (i + k + 1) = 268435456 * pw (i + k) from rfl]
    rw [← Nat.add_assoc, ← he]
    have : 268435456 * pw (i + k) * q = pw (i + k) * (268435456 * q) := by rw [Nat.mul_comm 268435456, Nat.mul_assoc]
    rw [this]
    have := congrArg (pw (i + k) * ·) hd
    simp only [Nat.mul_add] at this
    omega
  · rw [List.getD_eq_getElem?_getD, List.getElem?_set_ne (by omega), ← List.getD_eq_getElem?_getD]; exact htop
theorem timJ_end {a b : List Nat} {i carry : Nat} {O : List Nat} (hi : i < a.length) (h : TimJ a b i b.length carry O) : TimI a b (i + 1) (O.set (i + b.length) carry) := by
  have hs := val_set O (i + b.length) carry (by rw [h.len]; omega)
  rw [h.top, Nat.mul_zero, Nat.add_zero] at hs
  refine ⟨by rw [List.length_set]; exact h.len, h.ok.set _ h.c1, ?_⟩
  rw [hs, h.eq, val_take_all b _ (Nat.le_refl _), take_over, Nat.add_mul, ← Nat.mul_assoc]
theorem timI_end {a b : List Nat} {O : List Nat} (h : TimI a b a.length O) : val O = val a * val b := by rw [h.eq, List.take_length]

-- Over
structure OverI (a : List Nat) (vb i : Nat) (O : List Nat) (R : Nat) : Prop where
  len : O.length = a.length
  ok : Dok O
  lt : R < vb
  eq : val (a.drop i) = val (O.drop i) * vb + R
theorem overI_start (a : List Nat) (vb : Nat) (h : 0 < vb) : OverI a vb a.length (List.replicate a.length 0) 0 := ⟨by simp, dok_replicate_zero _, h, by simp [val]⟩
theorem overI_step {a : List Nat} {vb i : Nat} {O : List Nat} {R low : Nat} (h : OverI a vb (i + 1) O R) (hi : i < a.length) (hl : low < 268435456) (h1 : low * vb ≤ a.getD i 0 + 268435456 * R) (h2 : a.getD i 0 + 268435456 * R < (low + 1) * vb) :
    OverI a vb i (O.set i low) (a.getD i 0 + 268435456 * R - low * vb) := by
  have e1 := val_drop_succ a i hi
  have hl2 : i < (O.set i low).length := by rw [List.length_set, h.len]; exact hi
  have e2 := val_drop_succ (O.set i low) i hl2
  rw [List.drop_set_of_lt (show i < i + 1 by omega)] at e2
  have g : (O.set i low).getD i 0 = low := by rw [List.getD_eq_getElem?_getD, List.getElem?_set_self (by rw [h.len]; exact hi)]; rfl
  rw [g] at e2
  refine ⟨by rw [List.length_set]; exact h.len, h.ok.set _ hl, by rw [Nat.add_mul, Nat.one_mul] at h2; omega, ?_⟩
  have e3 := h.eq
  rw [e1, e2, e3, Nat.add_mul, Nat.mul_add, Nat.mul_assoc]
  omega
theorem overI_high {a : List Nat} {vb i : Nat} {O : List Nat} {R : Nat} (h : OverI a vb (i + 1) O R) (ha : Dok a) : a.getD i 0 + 268435456 * R < (268435455 + 1) * vb := by
  have h1 := ha.get i
  have h2 := h.lt
  show _ < 268435456 * vb
  omega
theorem overI_end {a : List Nat} {vb : Nat} {O : List Nat} {R : Nat} (h : OverI a vb 0 O R) : val O = val a / vb ∧ R = val a % vb := by
  have e := h.eq
  rw [List.drop_zero, List.drop_zero] at e
  have hl := h.lt
  have := Nat.div_mod_unique (a := val a) (b := vb) (c := R) (d := val O) (by omega)
  have k := this.2 ⟨by rw [e, Nat.mul_comm]; omega, hl⟩
  exact ⟨k.1.symm, k.2.symm⟩

theorem can_single {m : Nat} (h0 : m ≠ 0) (h : m < 268435456) : [m] = dgs m := by
  rw [dgs_pos m h0, Nat.mod_eq_of_lt h, Nat.div_eq_of_lt h, dgs_zero]
theorem val_single (m : Nat) : val [m] = m := by simp [val]
theorem dok_single {m : Nat} (h : m < 268435456) : Dok [m] := Dok.cons.2 ⟨h, Dok.nil⟩
theorem dgs_ne_nil {n : Nat} (h : n ≠ 0) : dgs n ≠ [] := by rw [dgs_pos n h]; simp
theorem dgs_nil_iff (n : Nat) : dgs n = [] ↔ n = 0 := ⟨fun h => Classical.byContradiction fun h' => dgs_ne_nil h' h, fun h => by rw [h]; exact dgs_zero⟩
theorem dgs_len_pos (n : Nat) : 0 < (dgs n).length ↔ n ≠ 0 := by rw [List.length_pos_iff, ne_eq, dgs_nil_iff]
/-- lengths of digits -/
theorem dgs_len_mono {m n : Nat} (h : m ≤ n) : (dgs m).length ≤ (dgs n).length := by
  refine dgs_len_le _ _ (Nat.lt_of_le_of_lt h ?_)
  have := val_lt (can_dgs n).ok
  rw [val_dgs] at this; exact this
theorem dgs_lt (n : Nat) : n < pw (dgs n).length := by have := val_lt (can_dgs n).ok; rw [val_dgs] at this; exact this
theorem dgs_len_mul (m n : Nat) : (dgs (m * n)).length ≤ (dgs m).length + (dgs n).length := by
  refine dgs_len_le _ _ ?_
  rw [pw_add]
  exact Nat.mul_lt_mul_of_lt_of_le (dgs_lt m) (Nat.le_of_lt (dgs_lt n)) (pw_pos _)
theorem dgs_len_add (m n : Nat) : (dgs (m + n)).length ≤ max (dgs m).length (dgs n).length + 1 := by
  refine dgs_len_le _ _ ?_
  have h1 := Nat.lt_of_lt_of_le (dgs_lt m) (pw_mono (show (dgs m).length ≤ max (dgs m).length (dgs n).length by omega))
  have h2 := Nat.lt_of_lt_of_le (dgs_lt n) (pw_mono (show (dgs n).length ≤ max (dgs m).length (dgs n).length by omega))
  show m + n < 268435456 * pw _
  omega
theorem dgs_len_ten {n : Nat} (h : n < 1942668892225729070919461906823518906642406839052139521251812409738904285205208498176) : (dgs n).length ≤ 10 := dgs_len_le n 10 h
theorem dgs_len_lt (n : Nat) (l : List Nat) (c : Dok l) (h : val l = n) : (dgs n).length ≤ l.length := dgs_len_le _ _ (by rw [← h]; exact val_lt c)
end Go.Proofs.YtpneahdbiikonaaDoor
