/- Trig: approximations of the powers by integers. No run of the model here. -/
import Derived.Test.YtglmkpnnbgkndaaDoorTg1
namespace Go.Proofs.YtglmkpnnbgkndaaDoor.L6
set_option linter.unusedVariables false

/-- bounds of a product -/
theorem mul_in {x y A B : Rat} (h1 : -A ≤ x) (h2 : x ≤ A) (k1 : -B ≤ y) (k2 : y ≤ B) : -(A * B) ≤ x * y ∧ x * y ≤ A * B := by
  have a1 : 0 ≤ (A - x) * (B + y) := Rat.mul_nonneg (by grind) (by grind)
  have a2 : 0 ≤ (A + x) * (B - y) := Rat.mul_nonneg (by grind) (by grind)
  have a3 : 0 ≤ (A - x) * (B - y) := Rat.mul_nonneg (by grind) (by grind)
  have a4 : 0 ≤ (A + x) * (B + y) := Rat.mul_nonneg (by grind) (by grind)
  constructor <;> grind
/-- the error of a product -/
theorem mul_err {X Y c d e f N : Rat} (hX1 : -N ≤ X) (hX2 : X ≤ N) (hY1 : -N ≤ Y) (hY2 : Y ≤ N) (h1 : -e ≤ X - c) (h2 : X - c ≤ e) (k1 : -f ≤ Y - d) (k2 : Y - d ≤ f) :
    -(N * f + e * (N + f)) ≤ X * Y - c * d ∧ X * Y - c * d ≤ N * f + e * (N + f) := by
  have a := mul_in hX1 hX2 k1 k2
  have b := mul_in h1 h2 (show -(N + f) ≤ d by grind) (show d ≤ N + f by grind)
  constructor <;> grind
def pP : Nat := 192
def sc : Rat := ((2 ^ 192 : Nat) : Rat)
theorem sc_pos : 0 < sc := by decide +kernel
/-- the cosine and the sine of an angle, times 2^192, but for an error -/
def Ap (n : Int) (c s e : Nat) : Prop := (-(e : Rat) ≤ sc * cz n - (c : Rat) ∧ sc * cz n - (c : Rat) ≤ (e : Rat)) ∧ (-(e : Rat) ≤ sc * sz n - (s : Rat) ∧ sc * sz n - (s : Rat) ≤ (e : Rat))
theorem sc_in {x : Rat} (h : -1 ≤ x ∧ x ≤ 1) : -sc ≤ sc * x ∧ sc * x ≤ sc := by
  have p := sc_pos
  have a1 : 0 ≤ sc * (1 - x) := Rat.mul_nonneg (by grind) (by grind)
  have a2 : 0 ≤ sc * (1 + x) := Rat.mul_nonneg (by grind) (by grind)
  constructor <;> grind
theorem div_cast (k : Nat) : ((k / 2 ^ 192 : Nat) : Rat) * sc ≤ (k : Rat) ∧ (k : Rat) ≤ ((k / 2 ^ 192 : Nat) : Rat) * sc + sc := by
  have h1 : k / 2 ^ 192 * 2 ^ 192 ≤ k := Nat.div_mul_le_self _ _
  have h2 : k ≤ k / 2 ^ 192 * 2 ^ 192 + 2 ^ 192 := by
    have := Nat.lt_div_mul_add (a := k) (b := 2 ^ 192) (by decide)
    omega
  unfold sc
  constructor
  · have := (Rat.natCast_le_natCast).2 h1
    rw [Rat.natCast_mul] at this
    exact this
  · have := (Rat.natCast_le_natCast).2 h2
    rw [Rat.natCast_add, Rat.natCast_mul] at this
    exact this
theorem Ap.mul {m n : Int} {c s e c' s' e' : Nat} (h : Ap m c s e) (k : Ap n c' s' e') (hs : s * s' ≤ c * c') (he : e * e' ≤ 2 ^ 192) :
    Ap (m + n) ((c * c' - s * s') / 2 ^ 192) ((s * c' + c * s') / 2 ^ 192) (2 * (e + e') + 4) := by
  obtain ⟨⟨h1, h2⟩, h3, h4⟩ := h
  obtain ⟨⟨k1, k2⟩, k3, k4⟩ := k
  obtain ⟨z1, z2⟩ := z_add m n
  obtain ⟨x1, x2⟩ := sc_in (cz_in m)
  obtain ⟨x3, x4⟩ := sc_in (sz_in m)
  obtain ⟨y1, y2⟩ := sc_in (cz_in n)
  obtain ⟨y3, y4⟩ := sc_in (sz_in n)
  have p := sc_pos
  have he' : (e : Rat) * (e' : Rat) ≤ sc := by
    have := (Rat.natCast_le_natCast).2 he
    rw [Rat.natCast_mul] at this
    exact this
  obtain ⟨d1, d2⟩ := div_cast (c * c' - s * s')
  obtain ⟨d3, d4⟩ := div_cast (s * c' + c * s')
  have e1 : ((c * c' - s * s' : Nat) : Rat) = (c : Rat) * c' - (s : Rat) * s' := by
    have : ((c * c' - s * s' : Nat) : Rat) + ((s * s' : Nat) : Rat) = ((c * c' : Nat) : Rat) := by rw [← Rat.natCast_add]; congr 1; omega
    rw [Rat.natCast_mul, Rat.natCast_mul] at this
    grind
  have e2 : ((s * c' + c * s' : Nat) : Rat) = (s : Rat) * c' + (c : Rat) * s' := by rw [Rat.natCast_add, Rat.natCast_mul, Rat.natCast_mul]
  rw [e1] at d1 d2
  rw [e2] at d3 d4
  unfold Ap
  rw [z1, z2]
  have m1 := mul_err x1 x2 y1 y2 h1 h2 k1 k2
  have m2 := mul_err x3 x4 y3 y4 h3 h4 k3 k4
  have m3 := mul_err x3 x4 y1 y2 h3 h4 k1 k2
  have m4 := mul_err x1 x2 y3 y4 h1 h2 k3 k4
  have ee : ((2 * (e + e') + 4 : Nat) : Rat) = 2 * ((e : Rat) + e') + 4 := by rw [Rat.natCast_add, Rat.natCast_mul, Rat.natCast_add]; rfl
  rw [ee]
  generalize ((c * c' - s * s') / 2 ^ 192 : Nat) = q at *
  generalize ((s * c' + c * s') / 2 ^ 192 : Nat) = r at *
  clear z1 z2 e1 e2 ee x1 x2 x3 x4 y1 y2 y3 y4 h1 h2 h3 h4 k1 k2 k3 k4 hs he
  generalize cz m = A at *
  generalize sz m = B at *
  generalize cz n = A' at *
  generalize sz n = B' at *
  generalize (c : Rat) = c at *
  generalize (s : Rat) = s at *
  generalize (c' : Rat) = c' at *
  generalize (s' : Rat) = s' at *
  generalize (e : Rat) = e at *
  generalize (e' : Rat) = e' at *
  generalize (q : Rat) = q at *
  generalize (r : Rat) = r at *
  generalize sc = N at *
  -- all inequalities, times N
  have key : ∀ u v : Rat, N * u ≤ N * v → u ≤ v := fun u v h => Rat.le_of_mul_le_mul_left h p
  refine ⟨⟨key _ _ ?_, key _ _ ?_⟩, key _ _ ?_, key _ _ ?_⟩
  all_goals grind
end Go.Proofs.YtglmkpnnbgkndaaDoor.L6
