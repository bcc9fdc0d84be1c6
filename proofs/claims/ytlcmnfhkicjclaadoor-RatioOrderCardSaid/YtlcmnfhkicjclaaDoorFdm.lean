/- RatioField: what its calls answer. -/
import Derived.Test.YtlcmnfhkicjclaaDoorOps
namespace Go.Proofs.YtlcmnfhkicjclaaDoor
open Go.RowKit
set_option linter.unusedVariables false

/-- a function answers with an operation of the numbers -/
def AnsOf (f : Nat) (o : Rat → Rat → Rat) : Prop := ∀ p q, rfit p = true → rfit q = true → Ans f p.num (p.den : Int) q.num (q.den : Int) (rN (o p q)) (rD (o p q)) (rE (o p q))
def AnsEx (f : Nat) : Prop := ∀ n d n2 d2, ∃ x y z, Ans f n d n2 d2 x y z
theorem addOf : AnsOf 17 (fun p q => p + q) := fun p q hp hq wx => pAdd p q wx hp hq
theorem subOf : AnsOf 18 (fun p q => p - q) := fun p q hp hq wx => pSub p q wx hp hq
theorem mulOf : AnsOf 19 (fun p q => p * q) := fun p q hp hq wx => pMul p q wx hp hq
theorem addEx : AnsEx 17 := fun n d n2 d2 => by obtain ⟨x, y, z, h, _⟩ := bothAdd n d n2 d2; exact ⟨x, y, z, h⟩
theorem mulEx : AnsEx 19 := fun n d n2 d2 => by obtain ⟨x, y, z, h, _⟩ := bothMul n d n2 d2; exact ⟨x, y, z, h⟩
theorem rE_zero {q : Rat} (h : rE q = 0) : rfit q = true := by
  cases hf : rfit q
  · rw [rE_big hf] at h; omega
  · rfl
/-- the answers behind a first answer -/
theorem ans_left {f : Nat} {o : Rat → Rat → Rat} (hf : AnsOf f o) (he : AnsEx f) (q c : Rat) (hc : rfit c = true) :
    ∃ x y z, Ans f (rN q) (rD q) c.num (c.den : Int) x y z ∧ (rE q = 0 → x = rN (o q c) ∧ y = rD (o q c) ∧ z = rE (o q c)) := by
  by_cases h : rE q = 0
  · have hq := rE_zero h
    refine ⟨_, _, _, ?_, fun _ => ⟨rfl, rfl, rfl⟩⟩
    rw [rN_fit hq, rD_fit hq]
    exact hf q c hq hc
  · obtain ⟨x, y, z, ha⟩ := he (rN q) (rD q) c.num (c.den : Int)
    exact ⟨x, y, z, ha, fun h' => absurd h' h⟩
theorem ans_right {f : Nat} {o : Rat → Rat → Rat} (hf : AnsOf f o) (he : AnsEx f) (q c : Rat) (hc : rfit c = true) :
    ∃ x y z, Ans f c.num (c.den : Int) (rN q) (rD q) x y z ∧ (rE q = 0 → x = rN (o c q) ∧ y = rD (o c q) ∧ z = rE (o c q)) := by
  by_cases h : rE q = 0
  · have hq := rE_zero h
    refine ⟨_, _, _, ?_, fun _ => ⟨rfl, rfl, rfl⟩⟩
    rw [rN_fit hq, rD_fit hq]
    exact hf c q hc hq
  · obtain ⟨x, y, z, ha⟩ := he c.num (c.den : Int) (rN q) (rD q)
    exact ⟨x, y, z, ha, fun h' => absurd h' h⟩
theorem ans_both {f : Nat} {o : Rat → Rat → Rat} (hf : AnsOf f o) (he : AnsEx f) (p q : Rat) :
    ∃ x y z, Ans f (rN p) (rD p) (rN q) (rD q) x y z ∧ (rE p = 0 → rE q = 0 → x = rN (o p q) ∧ y = rD (o p q) ∧ z = rE (o p q)) := by
  by_cases h : rE p = 0 ∧ rE q = 0
  · have hp := rE_zero h.1
    have hq := rE_zero h.2
    refine ⟨_, _, _, ?_, fun _ _ => ⟨rfl, rfl, rfl⟩⟩
    rw [rN_fit hp, rD_fit hp, rN_fit hq, rD_fit hq]
    exact hf p q hp hq
  · obtain ⟨x, y, z, ha⟩ := he (rN p) (rD p) (rN q) (rD q)
    exact ⟨x, y, z, ha, fun h1 h2 => absurd ⟨h1, h2⟩ h⟩

/-- commutative and associative -/
structure LoopF (f : Nat) (a b c : Rat) (x y z lx ly lz mx my mz rx ry rz : Int) : Prop where
  ab : Ans f a.num (a.den : Int) b.num (b.den : Int) x y z
  ba : Ans f b.num (b.den : Int) a.num (a.den : Int) x y z
  l : Ans f x y c.num (c.den : Int) lx ly lz
  m : Ans f b.num (b.den : Int) c.num (c.den : Int) mx my mz
  r : Ans f a.num (a.den : Int) mx my rx ry rz
  eq : (z = 0 ∧ lz = 0 ∧ mz = 0 ∧ rz = 0 ∧ lx = rx ∧ ly = ry) ∨ (z == 0 && lz == 0 && mz == 0 && rz == 0) = false
theorem loopF {f : Nat} {o : Rat → Rat → Rat} (hf : AnsOf f o) (he : AnsEx f) (hc : ∀ p q, o p q = o q p) (hs : ∀ p q r, o (o p q) r = o p (o q r)) (a b c : Rat) (fa : rfit a = true) (fb : rfit b = true) (fc : rfit c = true) :
    ∃ x y z lx ly lz mx my mz rx ry rz, LoopF f a b c x y z lx ly lz mx my mz rx ry rz := by
  obtain ⟨lx, ly, lz, hl, el⟩ := ans_left hf he (o a b) c fc
  obtain ⟨rx, ry, rz, hr, er⟩ := ans_right hf he (o b c) a fa
  refine ⟨_, _, _, lx, ly, lz, _, _, _, rx, ry, rz, hf a b fa fb, ?_, hl, hf b c fb fc, hr, ?_⟩
  · have := hf b a fb fa
    rw [hc b a] at this
    exact this
  · by_cases h : rE (o a b) = 0 ∧ lz = 0 ∧ rE (o b c) = 0 ∧ rz = 0
    · refine Or.inl ⟨h.1, h.2.1, h.2.2.1, h.2.2.2, ?_, ?_⟩
      · rw [(el h.1).1, (er h.2.2.1).1, hs]
      · rw [(el h.1).2.1, (er h.2.2.1).2.1, hs]
    · refine Or.inr ?_
      rw [Bool.eq_false_iff]
      intro h2
      simp only [Bool.and_eq_true, beq_iff_eq] at h2
      exact h ⟨h2.1.1.1, h2.1.1.2, h2.1.2, h2.2⟩
/-- distributive -/
structure DistF (a b c : Rat) (sx sy sz lx ly lz xx xy xz yx yy yz rx ry rz : Int) : Prop where
  s : Ans 17 b.num (b.den : Int) c.num (c.den : Int) sx sy sz
  l : Ans 19 a.num (a.den : Int) sx sy lx ly lz
  x : Ans 19 a.num (a.den : Int) b.num (b.den : Int) xx xy xz
  y : Ans 19 a.num (a.den : Int) c.num (c.den : Int) yx yy yz
  r : Ans 17 xx xy yx yy rx ry rz
  eq : (sz = 0 ∧ lz = 0 ∧ xz = 0 ∧ yz = 0 ∧ rz = 0 ∧ lx = rx ∧ ly = ry) ∨ (sz == 0 && lz == 0 && xz == 0 && yz == 0 && rz == 0) = false
theorem distF (a b c : Rat) (fa : rfit a = true) (fb : rfit b = true) (fc : rfit c = true) :
    ∃ sx sy sz lx ly lz xx xy xz yx yy yz rx ry rz, DistF a b c sx sy sz lx ly lz xx xy xz yx yy yz rx ry rz := by
  obtain ⟨lx, ly, lz, hl, el⟩ := ans_right mulOf mulEx (b + c) a fa
  obtain ⟨rx, ry, rz, hr, er⟩ := ans_both addOf addEx (a * b) (a * c)
  refine ⟨_, _, _, lx, ly, lz, _, _, _, _, _, _, rx, ry, rz, addOf b c fb fc, hl, mulOf a b fa fb, mulOf a c fa fc, hr, ?_⟩
  by_cases h : rE (b + c) = 0 ∧ lz = 0 ∧ rE (a * b) = 0 ∧ rE (a * c) = 0 ∧ rz = 0
  · obtain ⟨h1, h2, h3, h4, h5⟩ := h
    refine Or.inl ⟨h1, h2, h3, h4, h5, ?_, ?_⟩
    · rw [(el h1).1, (er h3 h4).1, Rat.mul_add]
    · rw [(el h1).2.1, (er h3 h4).2.1, Rat.mul_add]
  · refine Or.inr ?_
    rw [Bool.eq_false_iff]
    intro h2
    simp only [Bool.and_eq_true, beq_iff_eq] at h2
    exact h ⟨h2.1.1.1.1, h2.1.1.1.2, h2.1.1.2, h2.1.2, h2.2⟩
/-- differences undo sums -/
structure SubF (a b : Rat) (dx dy dz kx ky kz : Int) : Prop where
  d : Ans 18 a.num (a.den : Int) b.num (b.den : Int) dx dy dz
  k : Ans 17 dx dy b.num (b.den : Int) kx ky kz
  eq : (dz = 0 ∧ kz = 0 ∧ kx = a.num ∧ ky = (a.den : Int)) ∨ (dz == 0) = false
theorem subF (a b : Rat) (fa : rfit a = true) (fb : rfit b = true) : ∃ dx dy dz kx ky kz, SubF a b dx dy dz kx ky kz := by
  obtain ⟨kx, ky, kz, hk, ek⟩ := ans_left addOf addEx (a - b) b fb
  refine ⟨_, _, _, kx, ky, kz, subOf a b fa fb, hk, ?_⟩
  by_cases h : rE (a - b) = 0
  · obtain ⟨e1, e2, e3⟩ := ek h
    have e : a - b + b = a := by grind
    rw [e, rN_fit fa] at e1
    rw [e, rD_fit fa] at e2
    rw [e, rE_fit fa] at e3
    exact Or.inl ⟨h, e3, e1, e2⟩
  · exact Or.inr (by rw [beq_eq_false_iff_ne]; exact h)
/-- quotients undo products -/
structure DivF (a b : Rat) (qx qy qz nx ny nz : Int) : Prop where
  q : Ans 20 a.num (a.den : Int) b.num (b.den : Int) qx qy qz
  n : Ans 19 qx qy b.num (b.den : Int) nx ny nz
  eq : (b.num = 0 ∧ qz = 16) ∨ (b.num ≠ 0 ∧ (qz != 0) = true) ∨ (b.num ≠ 0 ∧ qz = 0 ∧ nz = 0 ∧ nx = a.num ∧ ny = (a.den : Int))
theorem divF (a b : Rat) (fa : rfit a = true) (fb : rfit b = true) : ∃ qx qy qz nx ny nz, DivF a b qx qy qz nx ny nz := by
  by_cases hz : b.num = 0
  · obtain ⟨nx, ny, nz, hn⟩ := mulEx 0 0 b.num (b.den : Int)
    refine ⟨0, 0, 16, nx, ny, nz, ?_, hn, Or.inl ⟨hz, rfl⟩⟩
    have h1 := rok_of fa
    have h2 := rok_of fb
    rw [hz] at h2 ⊢
    exact fun wx => pDiv_zero _ _ _ wx h1 h2
  · obtain ⟨nx, ny, nz, hn, en⟩ := ans_left mulOf mulEx (a / b) b fb
    refine ⟨_, _, _, nx, ny, nz, fun wx => pDiv a b wx fa fb hz, hn, Or.inr ?_⟩
    by_cases h : rE (a / b) = 0
    · obtain ⟨e1, e2, e3⟩ := en h
      have e : a / b * b = a := by
        have : b ≠ 0 := fun h => hz (by rw [h]; rfl)
        grind
      rw [e, rN_fit fa] at e1
      rw [e, rD_fit fa] at e2
      rw [e, rE_fit fa] at e3
      exact Or.inr ⟨hz, h, e3, e1, e2⟩
    · exact Or.inl ⟨hz, by rw [bne_iff_ne]; exact h⟩
end Go.Proofs.YtlcmnfhkicjclaaDoor
