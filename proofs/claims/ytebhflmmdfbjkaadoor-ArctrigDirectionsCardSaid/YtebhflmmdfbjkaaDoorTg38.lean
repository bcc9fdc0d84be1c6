/- Arctrig: the points of an angle's sine and cosine, rounded, are within a unit of the angle. No run of the model here. -/
import Derived.Test.YtebhflmmdfbjkaaDoorTg37
import Derived.Test.YtebhflmmdfbjkaaDoorPld
namespace Go.Proofs.YtebhflmmdfbjkaaDoor.L6
set_option linter.unusedVariables false
set_option maxRecDepth 100000

theorem fs_two {n v : Int} (h : Ok n) (a : lo n ≤ v) (b : v ≤ hi n) : -2 ≤ (v : Rat) - 1073741824 * sz n ∧ (v : Rat) - 1073741824 * sz n ≤ 2 := by
  have F := fs n h
  obtain ⟨t1, t2, t3, t4, t5, t6, t7⟩ := tt_ok
  have a' := (Rat.intCast_le_intCast).2 a
  have b' := (Rat.intCast_le_intCast).2 b
  have c1 : ((1 : Int) : Rat) = 1 := rfl
  rcases F with ⟨f1, f2, f3⟩ | ⟨f1, f2, f3⟩
  · rw [← f1] at b'
    constructor <;> grind
  · rw [f1, Rat.intCast_add, c1] at b'
    constructor <;> grind
theorem unit_big : 300 ≤ 1073741824 * zb ∧ 1073741824 * (2 * et) ≤ 1 ∧ g57 ≤ 1 := by decide +kernel
/-- the sides of the neighbours of an angle, at its rounded point -/
theorem near_side {m X Y : Int} (m0 : 1 ≤ m) (m1 : m ≤ 2700000) (x1 : lo (m + 5400000) ≤ X) (x2 : X ≤ hi (m + 5400000)) (y1 : lo m ≤ Y) (y2 : Y ≤ hi m) :
    0 < X ∧ X ≤ 2147483648 ∧ 0 ≤ Y ∧ Y ≤ 2147483648 ∧ sd (m + 1) X Y = 1 ∧ sd (m - 1) X Y = -1 := by
  have ok1 : Ok m := by unfold Ok; omega
  have ok2 : Ok (m + 5400000) := by unfold Ok; omega
  obtain ⟨a1, a2⟩ := fs_two ok1 y1 y2
  obtain ⟨b1, b2⟩ := fs_two ok2 x1 x2
  obtain ⟨u1, u2, u3⟩ := unit_big
  have q := nr_two (quarter_add m).1
  have cm := (eighth m.toNat (by omega)).2
  rw [show ((m.toNat : Nat) : Int) = m by omega] at cm
  have l := lo_mono (m := 0) (n := m) (by omega) (by omega) (by omega)
  have z0 : lo 0 = 0 := by decide +kernel
  have y0 : 0 ≤ Y := by omega
  obtain ⟨k1, k2⟩ := lo_hi_in m ok1
  obtain ⟨k3, k4⟩ := lo_hi_in (m + 5400000) ok2
  have x0 : 0 < X := by
    refine Classical.byContradiction fun c => ?_
    have h := (Rat.intCast_le_intCast (b := 0)).2 (show X ≤ 0 by omega)
    have c0 : ((0 : Int) : Rat) = 0 := rfl
    rw [c0] at h
    grind
  refine ⟨x0, by omega, y0, by omega, ?_, ?_⟩
  · have up := z_up m
    have one := cs_one m
    have s1 := sz_in (m + 1)
    have c1 := cz_in (m + 1)
    have e : cz m * sz (m + 1) - sz m * cz (m + 1) = zb := by
      rw [up.1, up.2]
      generalize cz m = c at *
      generalize sz m = s at *
      have : c * (s * za + c * zb) - s * (c * za - s * zb) = (c * c + s * s) * zb := by grind
      rw [this, one]; grind
    have dx : -3 ≤ (X : Rat) - 1073741824 * cz m ∧ (X : Rat) - 1073741824 * cz m ≤ 3 := by constructor <;> grind
    have m1' := mul_in dx.1 dx.2 s1.1 s1.2
    have m2' := mul_in a1 a2 c1.1 c1.2
    have v : 1 ≤ val (m + 1) X Y := by
      unfold val
      have : (X : Rat) * sz (m + 1) - Y * cz (m + 1) = 1073741824 * (cz m * sz (m + 1) - sz m * cz (m + 1)) + ((X : Rat) - 1073741824 * cz m) * sz (m + 1) - ((Y : Rat) - 1073741824 * sz m) * cz (m + 1) := by grind
      rw [this, e]
      grind
    rcases sd_val (m + 1) X Y (by omega) (by omega) x0 (by omega) y0 (by omega) with ⟨r, -⟩ | ⟨-, -, r⟩ | ⟨-, r⟩
    · exact r
    · exfalso; have := g_half.2.2; grind
    · exfalso; have := g_half.2.2; grind
  · have up := z_up (m - 1)
    rw [show m - 1 + 1 = m by omega] at up
    have one := cs_one (m - 1)
    have s1 := sz_in (m - 1)
    have c1 := cz_in (m - 1)
    have e : cz m * sz (m - 1) - sz m * cz (m - 1) = -zb := by
      rw [up.1, up.2]
      generalize cz (m - 1) = c at *
      generalize sz (m - 1) = s at *
      have : (c * za - s * zb) * s - (s * za + c * zb) * c = -((c * c + s * s) * zb) := by grind
      rw [this, one]; grind
    have dx : -3 ≤ (X : Rat) - 1073741824 * cz m ∧ (X : Rat) - 1073741824 * cz m ≤ 3 := by constructor <;> grind
    have m1' := mul_in dx.1 dx.2 s1.1 s1.2
    have m2' := mul_in a1 a2 c1.1 c1.2
    have v : val (m - 1) X Y ≤ -1 := by
      unfold val
      have : (X : Rat) * sz (m - 1) - Y * cz (m - 1) = 1073741824 * (cz m * sz (m - 1) - sz m * cz (m - 1)) + ((X : Rat) - 1073741824 * cz m) * sz (m - 1) - ((Y : Rat) - 1073741824 * sz m) * cz (m - 1) := by grind
      rw [this, e]
      grind
    rcases sd_val (m - 1) X Y (by omega) (by omega) x0 (by omega) y0 (by omega) with ⟨-, r⟩ | ⟨-, r, -⟩ | ⟨r, -⟩
    · exfalso; have := g_half.2.2; grind
    · exfalso; have := g_half.2.2; grind
    · exact r
theorem dir_pos {m X Y : Int} (m0 : 1 ≤ m) (m1 : m ≤ 2700000) (x1 : lo (m + 5400000) ≤ X) (x2 : X ≤ hi (m + 5400000)) (y1 : lo m ≤ Y) (y2 : Y ≤ hi m) :
    0 < X ∧ X ≤ 2147483648 ∧ Y.natAbs ≤ 2147483648 ∧ m - 1 ≤ hD X Y ∧ hD X Y ≤ m ∧ m ≤ hU' X Y ∧ hU' X Y ≤ m + 1 := by
  obtain ⟨a, b, c, d, e, f⟩ := near_side m0 m1 x1 x2 y1 y2
  obtain ⟨g1, g2, g3, g4⟩ := gN_is X Y a c
  have u1 : gN X Y ≤ m := by
    refine Classical.byContradiction fun k => ?_
    have := sd_mono (m + 1) (gN X Y) X Y (by omega) (by omega) (by omega) a b c d
    omega
  have u2 : m - 1 ≤ gN X Y := by
    refine Classical.byContradiction fun k => ?_
    have := sd_mono (gN X Y + 1) (m - 1) X Y (by omega) (by omega) (by omega) a b c d
    omega
  obtain ⟨h1, h2, -⟩ := h_up a c
  rw [h1, h2]
  refine ⟨a, b, by omega, u2, u1, ?_, ?_⟩
  · unfold gU
    by_cases k : sd (gN X Y) X Y = 0
    · rw [if_pos k]
      refine Classical.byContradiction fun q => ?_
      have : gN X Y = m - 1 := by omega
      rw [this] at k
      omega
    · rw [if_neg k]; omega
  · unfold gU; split <;> omega
/-- an eighth to each side -/
theorem dir_pt {m X Y : Int} (m0 : -2700000 ≤ m) (m1 : m ≤ 2700000) (x1 : lo (m + 5400000) ≤ X) (x2 : X ≤ hi (m + 5400000)) (y1 : lo m ≤ Y) (y2 : Y ≤ hi m) :
    0 < X ∧ X ≤ 2147483648 ∧ Y.natAbs ≤ 2147483648 ∧ m - 1 ≤ hD X Y ∧ hD X Y ≤ m ∧ m ≤ hU' X Y ∧ hU' X Y ≤ m + 1 := by
  rcases (show m < 0 ∨ m = 0 ∨ 1 ≤ m by omega) with c | c | c
  · obtain ⟨e1, e2⟩ := lo_neg (-m) (by unfold Ok; omega)
    rw [Int.neg_neg] at e1 e2
    obtain ⟨v1, v2⟩ := lo_even (-m) (by unfold Ok; omega) (by unfold Ok; omega)
    rw [show 5400000 - -m = m + 5400000 by omega, show 5400000 + -m = -m + 5400000 by omega] at v1 v2
    obtain ⟨a, b, d, e, f, g, h⟩ := dir_pos (m := -m) (X := X) (Y := -Y) (by omega) (by omega) (by omega) (by omega) (by omega) (by omega)
    obtain ⟨n1, n2⟩ := h_neg (Y := Y) a b
    rw [n1] at e f
    rw [n2] at g h
    exact ⟨a, b, by omega, by omega, by omega, by omega, by omega⟩
  · subst c
    have z : lo 0 = 0 ∧ hi 0 = 0 ∧ lo (0 + 5400000) = 1073741824 ∧ hi (0 + 5400000) = 1073741824 := by decide +kernel
    obtain ⟨z1, z2, z3, z4⟩ := z
    have hx : X = 1073741824 := by omega
    have hy : Y = 0 := by omega
    subst hx hy
    obtain ⟨g1, g2⟩ := g_axis 1073741824 (by decide) (by decide)
    obtain ⟨h1, h2, -⟩ := h_up (X := 1073741824) (Y := 0) (by decide) (by decide)
    rw [h1, h2, g1, g2]
    decide
  · exact dir_pos c m1 x1 x2 y1 y2
end Go.Proofs.YtebhflmmdfbjkaaDoor.L6
