/- Trig: no sine and no cosine of the first eighth, times 2^30, is near to an integer, but those of multiples of 30 degrees: all at once, packed into great integers. No run of the model here. -/
import Derived.Test.YtglmkpnnbgkndaaDoorTg3
namespace Go.Proofs.YtglmkpnnbgkndaaDoor.L6
set_option linter.unusedVariables false
set_option maxRecDepth 100000

/-- fields of so many bits, one behind the other -/
def pkf (W : Nat) (f : Tr → Nat) : List Tr → Nat
  | [] => 0
  | t :: L => f t + 2 ^ W * pkf W f L
theorem pkf_add (W : Nat) (f g : Tr → Nat) (L : List Tr) : pkf W (fun t => f t + g t) L = pkf W f L + pkf W g L := by
  induction L with
  | nil => rfl
  | cons t L ih => show f t + g t + _ = f t + _ + (g t + _); rw [ih, Nat.mul_add]; omega
theorem pkf_mul (W : Nat) (a : Nat) (f : Tr → Nat) (L : List Tr) : pkf W (fun t => a * f t) L = a * pkf W f L := by
  induction L with
  | nil => rfl
  | cons t L ih => show a * f t + _ = a * (f t + _); rw [ih, Nat.mul_add, Nat.mul_left_comm]
theorem pkf_ext (W : Nat) {f g : Tr → Nat} (L : List Tr) (h : ∀ t ∈ L, f t = g t) : pkf W f L = pkf W g L := by
  induction L with
  | nil => rfl
  | cons t L ih => show f t + _ = g t + _; rw [ih (fun x hx => h x (List.mem_cons_of_mem _ hx)), h t (List.mem_cons_self ..)]
theorem and_split (W x h a b : Nat) (hx : x < 2 ^ W) (hh : h < 2 ^ W) : (x + 2 ^ W * a) &&& (h + 2 ^ W * b) = (x &&& h) + 2 ^ W * (a &&& b) := by
  have e1 : ((x + 2 ^ W * a) &&& (h + 2 ^ W * b)) % 2 ^ W = x &&& h := by
    rw [Nat.and_mod_two_pow, Nat.add_mul_mod_self_left, Nat.add_mul_mod_self_left, Nat.mod_eq_of_lt hx, Nat.mod_eq_of_lt hh]
  have e2 : ((x + 2 ^ W * a) &&& (h + 2 ^ W * b)) / 2 ^ W = a &&& b := by
    rw [Nat.and_div_two_pow, Nat.add_mul_div_left _ _ (Nat.two_pow_pos W), Nat.add_mul_div_left _ _ (Nat.two_pow_pos W), Nat.div_eq_of_lt hx, Nat.div_eq_of_lt hh, Nat.zero_add, Nat.zero_add]
  have := Nat.mod_add_div ((x + 2 ^ W * a) &&& (h + 2 ^ W * b)) (2 ^ W)
  rw [e1, e2] at this
  exact this.symm
theorem and_lt (W x h : Nat) (hh : h < 2 ^ W) : x &&& h < 2 ^ W := Nat.lt_of_le_of_lt Nat.and_le_right hh
/-- the mask of the bits from Q on -/
def hm (R Q : Nat) : Nat := 2 ^ Q * (2 ^ R - 1)
theorem hm_lt (R Q : Nat) : hm R Q < 2 ^ (Q + R) := by
  unfold hm
  rw [Nat.pow_add]
  exact Nat.mul_lt_mul_of_pos_left (Nat.sub_lt (Nat.two_pow_pos R) (by omega)) (Nat.two_pow_pos Q)
theorem and_hm (R Q x : Nat) (hx : x < 2 ^ (Q + R)) : x &&& hm R Q = 2 ^ Q * (x / 2 ^ Q) := by
  have e1 : (x &&& hm R Q) % 2 ^ Q = 0 := by
    unfold hm
    rw [Nat.and_mod_two_pow, Nat.mul_mod_right]
    simp
  have e2 : (x &&& hm R Q) / 2 ^ Q = x / 2 ^ Q := by
    unfold hm
    rw [Nat.and_div_two_pow, Nat.mul_div_cancel_left _ (Nat.two_pow_pos Q), Nat.and_two_pow_sub_one_eq_mod]
    exact Nat.mod_eq_of_lt (Nat.div_lt_of_lt_mul (by rw [← Nat.pow_add]; exact hx))
  have := Nat.mod_add_div (x &&& hm R Q) (2 ^ Q)
  rw [e1, e2, Nat.zero_add] at this
  exact this.symm
theorem fields (R Q : Nat) {f g : Tr → Nat} : ∀ (L : List Tr), (∀ t ∈ L, f t < 2 ^ (Q + R) ∧ g t < 2 ^ (Q + R)) → pkf (Q + R) f L &&& pkf (Q + R) (fun _ => hm R Q) L = pkf (Q + R) g L &&& pkf (Q + R) (fun _ => hm R Q) L → ∀ t ∈ L, f t / 2 ^ Q = g t / 2 ^ Q := by
  intro L
  induction L with
  | nil => intro _ _ t ht; cases ht
  | cons x L ih =>
    intro hb he t ht
    have hh := hm_lt R Q
    obtain ⟨b1, b2⟩ := hb x (List.mem_cons_self ..)
    have he : (f x + 2 ^ (Q + R) * pkf (Q + R) f L) &&& (hm R Q + 2 ^ (Q + R) * pkf (Q + R) (fun _ => hm R Q) L) = (g x + 2 ^ (Q + R) * pkf (Q + R) g L) &&& (hm R Q + 2 ^ (Q + R) * pkf (Q + R) (fun _ => hm R Q) L) := he
    rw [and_split _ _ _ _ _ b1 hh, and_split _ _ _ _ _ b2 hh] at he
    have l1 := and_lt _ (f x) _ hh
    have l2 := and_lt _ (g x) _ hh
    have k1 : f x &&& hm R Q = g x &&& hm R Q := by
      have := congrArg (· % 2 ^ (Q + R)) he
      simp only [Nat.add_mul_mod_self_left] at this
      rwa [Nat.mod_eq_of_lt l1, Nat.mod_eq_of_lt l2] at this
    have k2 : pkf (Q + R) f L &&& pkf (Q + R) (fun _ => hm R Q) L = pkf (Q + R) g L &&& pkf (Q + R) (fun _ => hm R Q) L := by
      rw [k1] at he
      have := Nat.add_left_cancel he
      exact Nat.eq_of_mul_eq_mul_left (Nat.two_pow_pos _) this
    rcases List.mem_cons.1 ht with rfl | ht
    · rw [and_hm _ _ _ b1, and_hm _ _ _ b2] at k1
      exact Nat.eq_of_mul_eq_mul_left (Nat.two_pow_pos _) k1
    · exact ih (fun t ht => hb t (List.mem_cons_of_mem _ ht)) k2 t ht

/-- far from integers, times 2^30 -/
def dl : Rat := 1379 / 4294967296
def Mg (x : Rat) : Prop := ∃ F : Int, (F : Rat) + dl ≤ 1073741824 * x ∧ 1073741824 * x ≤ (F : Rat) + 1 - dl
/-- the greatest error, the width of a unit, the distance, and what is added -/
def eE : Nat := 2 ^ 200 * 2 ^ 75
def qN : Nat := 2 ^ 177 * 2 ^ 177
def dD : Nat := 1380 * (2 ^ 161 * 2 ^ 161)
def oN : Nat := 137438953472 * qN
theorem mg_of {a v : Nat} {x : Rat} (h1 : a * qN + dD ≤ v) (h2 : v + dD ≤ (a + 1) * qN) (e1 : (v : Rat) - (oN : Rat) - (eE : Rat) ≤ sc * sc * x) (e2 : sc * sc * x ≤ (v : Rat) - (oN : Rat) + (eE : Rat)) : Mg x := by
  have r1 := (Rat.natCast_le_natCast).2 h1
  have r2 := (Rat.natCast_le_natCast).2 h2
  rw [Rat.natCast_add, Rat.natCast_mul] at r1
  rw [Rat.natCast_mul, Rat.natCast_add, Rat.natCast_add] at r2
  have p : (0 : Rat) < (qN : Rat) := by decide +kernel
  have s1 : sc * sc = 1073741824 * (qN : Rat) := by decide +kernel
  have s2 : (oN : Rat) = 137438953472 * (qN : Rat) := by decide +kernel
  have s3 : (dD : Rat) - (eE : Rat) ≥ dl * (qN : Rat) := by decide +kernel
  have s4 : sc * sc * x = 1073741824 * (qN : Rat) * x := by rw [s1]
  have e : (((a : Int) - 137438953472 : Int) : Rat) = (a : Rat) - 137438953472 := by rw [Rat.intCast_sub, Rat.intCast_natCast]; rfl
  have r2 : (v : Rat) + (dD : Rat) ≤ ((a : Rat) + 1) * (qN : Rat) := r2
  rw [s4] at e1 e2
  clear s1 s4 h1 h2
  refine ⟨(a : Int) - 137438953472, ?_, ?_⟩ <;> rw [e] <;> clear e <;> refine Rat.le_of_mul_le_mul_left (c := (qN : Rat)) ?_ p
  · generalize (oN : Rat) = o at *
    generalize (eE : Rat) = er at *
    generalize (dD : Rat) = D at *
    generalize (a : Rat) = a at *
    generalize (v : Rat) = v at *
    generalize dl = d at *
    generalize (qN : Rat) = q at *
    grind
  · generalize (oN : Rat) = o at *
    generalize (eE : Rat) = er at *
    generalize (dD : Rat) = D at *
    generalize (a : Rat) = a at *
    generalize (v : Rat) = v at *
    generalize dl = d at *
    generalize (qN : Rat) = q at *
    grind
end Go.Proofs.YtglmkpnnbgkndaaDoor.L6
