/- Plain numbers: rays far from small points. -/
import Derived.Test.YtndcjldnnfhedaaDoorPla
/- Trig: no whole point with small coordinates lies near the ray of an angle: the test. No run of the model here. -/
namespace Go.Proofs.YtndcjldnnfhedaaDoor.L6
set_option linter.unusedVariables false
set_option maxRecDepth 100000

/-- no combination with a small first coordinate is small -/
def Far (C x y : Nat) : Prop := ∀ u v : Nat, u * y + v * x = C → ∀ a b : Int, ¬(a = 0 ∧ b = 0) → (a * u + b * v).natAbs ≤ 2147483648 → 174224571863520493293247799005065324265472 ≤ (a * x - b * y).natAbs
theorem far_step {C x y : Nat} (h : Far C y (x % y)) : Far C x y := by
  intro u v hc a b hn hb
  have e : y * (x / y) + x % y = x := Nat.div_add_mod x y
  generalize x / y = k at e
  generalize x % y = z at e h
  subst e
  have h1 := h v (u + k * v) (by rw [← hc]; grind) (b - a * k) a (by
    rintro ⟨i, j⟩
    subst j
    exact hn ⟨rfl, by rw [Int.zero_mul] at i; omega⟩) (by
    have : (b - a * (k : Int)) * (v : Int) + a * ((u + k * v : Nat) : Int) = a * u + b * v := by
      rw [Int.natCast_add, Int.natCast_mul]; grind
    rw [this]; exact hb)
  have : (b - a * (k : Int)) * (y : Int) - a * (z : Int) = -(a * ((y * k + z : Nat) : Int) - b * y) := by
    rw [Int.natCast_add, Int.natCast_mul]; grind
  rw [this, Int.natAbs_neg] at h1
  exact h1
theorem same_sign {C x y : Nat} (hC : 3138550867693340381917894711603833208051177722232017256448 ≤ C) (hT : y < 730750818665451459101842416358141509827966271488) (u v A B : Nat) (hc : u * y + v * x = C) (hA : 1 ≤ A) (hB : 1 ≤ B) (hs : A * u + B * v ≤ 2147483648) : B * y + y ≤ A * x := by
  refine Classical.byContradiction fun hn => ?_
  have h1 : A * x ≤ B * y + y := by omega
  have h2 : v * (A * x) ≤ v * (B * y + y) := Nat.mul_le_mul_left v h1
  have h3 : (A * u + B * v) * y ≤ 2147483648 * y := Nat.mul_le_mul_right y hs
  have h4 : v ≤ 2147483648 := by
    have : 1 * v ≤ B * v := Nat.mul_le_mul_right v hB
    omega
  have h5 : v * y ≤ 2147483648 * y := Nat.mul_le_mul_right y h4
  have h6 : 1 * C ≤ A * C := Nat.mul_le_mul_right C hA
  have h7 : A * C ≤ (A * u + B * v) * y + v * y := by
    rw [← hc]
    have e1 : A * (u * y + v * x) = A * u * y + v * (A * x) := by grind
    have e2 : (A * u + B * v) * y + v * y = A * u * y + v * (B * y + y) := by grind
    rw [e1, e2]
    omega
  omega
theorem far_base {C x y : Nat} (hC : 3138550867693340381917894711603833208051177722232017256448 ≤ C) (hT : y < 730750818665451459101842416358141509827966271488) (hE : 174224571863520493293247799005065324265472 ≤ y) (hx : y ≤ x) : Far C x y := by
  intro u v hc a b hn hb
  have pos : ∀ A B : Nat, 1 ≤ A → 1 ≤ B → A * u + B * v ≤ 2147483648 → 174224571863520493293247799005065324265472 ≤ ((A : Int) * x - (B : Int) * y).natAbs := by
    intro A B hA hB hs
    have := same_sign hC hT u v A B hc hA hB hs
    have e : (A : Int) * x - (B : Int) * y = ((A * x - B * y : Nat) : Int) := by
      rw [Int.natCast_sub (by omega), Int.natCast_mul, Int.natCast_mul]
    rw [e, Int.natAbs_natCast]
    omega
  have opp : ∀ A B : Nat, 1 ≤ A + B → 174224571863520493293247799005065324265472 ≤ ((A : Int) * x + (B : Int) * y).natAbs := by
    intro A B hAB
    have e : (A : Int) * x + (B : Int) * y = ((A * x + B * y : Nat) : Int) := by
      rw [Int.natCast_add, Int.natCast_mul, Int.natCast_mul]
    rw [e, Int.natAbs_natCast]
    rcases Nat.eq_zero_or_pos A with h | h
    · have : 1 * y ≤ B * y := Nat.mul_le_mul_right y (by omega)
      omega
    · have : 1 * x ≤ A * x := Nat.mul_le_mul_right x h
      omega
  rcases Int.lt_or_le a 0 with ha | ha
  · rcases Int.lt_or_le 0 b with kb | kb
    · have := opp a.natAbs b.natAbs (by omega)
      rw [show ((a.natAbs : Nat) : Int) = -a by omega, show ((b.natAbs : Nat) : Int) = b by omega] at this
      rw [show a * (x : Int) - b * y = -(-a * x + b * y) by grind, Int.natAbs_neg]
      exact this
    · rcases Int.lt_or_le b 0 with kb' | kb'
      · have := pos a.natAbs b.natAbs (by omega) (by omega) (by
          have e : (((a.natAbs * u + b.natAbs * v : Nat)) : Int) = -(a * u + b * v) := by
            rw [Int.natCast_add, Int.natCast_mul, Int.natCast_mul, show ((a.natAbs : Nat) : Int) = -a by omega, show ((b.natAbs : Nat) : Int) = -b by omega]; grind
          omega)
        rw [show ((a.natAbs : Nat) : Int) = -a by omega, show ((b.natAbs : Nat) : Int) = -b by omega] at this
        rw [show a * (x : Int) - b * y = -(-a * x - -b * y) by grind, Int.natAbs_neg]
        exact this
      · have := opp a.natAbs b.natAbs (by omega)
        rw [show ((a.natAbs : Nat) : Int) = -a by omega, show ((b.natAbs : Nat) : Int) = -b by omega] at this
        rw [show a * (x : Int) - b * y = -(-a * x + -b * y) + (-b * y - b * y) by grind]
        have : b = 0 := by omega
        subst this
        simp only [Int.neg_zero, Int.zero_mul, Int.add_zero, Int.sub_zero, Int.natAbs_neg] at *
        assumption
  · rcases Int.lt_or_le b 0 with kb | kb
    · have := opp a.natAbs b.natAbs (by omega)
      rw [show ((a.natAbs : Nat) : Int) = a by omega, show ((b.natAbs : Nat) : Int) = -b by omega] at this
      rw [show a * (x : Int) - b * y = a * x + -b * y by grind]
      exact this
    · by_cases k0 : a = 0 ∨ b = 0
      · rcases k0 with h | h
        · subst h
          have := opp 0 b.natAbs (by omega)
          rw [show ((b.natAbs : Nat) : Int) = b by omega] at this
          rw [show (0 : Int) * (x : Int) - b * y = -(((0 : Nat) : Int) * x + b * y) by grind, Int.natAbs_neg]
          exact this
        · subst h
          have := opp a.natAbs 0 (by omega)
          rw [show ((a.natAbs : Nat) : Int) = a by omega] at this
          rw [show a * (x : Int) - 0 * (y : Int) = a * x + ((0 : Nat) : Int) * y by grind]
          exact this
      · have := pos a.natAbs b.natAbs (by omega) (by omega) (by
          have e : (((a.natAbs * u + b.natAbs * v : Nat)) : Int) = a * u + b * v := by
            rw [Int.natCast_add, Int.natCast_mul, Int.natCast_mul, show ((a.natAbs : Nat) : Int) = a by omega, show ((b.natAbs : Nat) : Int) = b by omega]
          omega)
        rw [show ((a.natAbs : Nat) : Int) = a by omega, show ((b.natAbs : Nat) : Int) = b by omega] at this
        exact this
/-- a test that tells that a pair is far -/
def Tells (k : Nat → Nat → Bool) : Prop := ∀ C x y : Nat, 3138550867693340381917894711603833208051177722232017256448 ≤ C → k x y = true → Far C x y
def stp (k : Nat → Nat → Bool) (x y : Nat) : Bool := Bool.casesOn (Nat.ble 730750818665451459101842416358141509827966271488 y) (Nat.ble 174224571863520493293247799005065324265472 y && Nat.ble y x) (k (Nat.mod x y) (Nat.mod y (Nat.mod x y)))
theorem stp_ok {k : Nat → Nat → Bool} (h : Tells k) : Tells (stp k) := by
  intro C x y hC ht
  unfold stp at ht
  cases e : Nat.ble 730750818665451459101842416358141509827966271488 y with
  | true =>
    rw [e] at ht
    exact far_step (far_step (h C _ _ hC ht))
  | false =>
    rw [e] at ht
    have ht : (Nat.ble 174224571863520493293247799005065324265472 y && Nat.ble y x) = true := ht
    rw [Bool.and_eq_true, Nat.ble_eq, Nat.ble_eq] at ht
    have : ¬ 730750818665451459101842416358141509827966271488 ≤ y := by intro c; rw [Nat.ble_eq_true_of_le c] at e; cases e
    exact far_base hC (by omega) ht.1 ht.2
def no (_ _ : Nat) : Bool := false
theorem no_ok : Tells no := fun _ _ _ _ h => by cases h
def s4 (k : Nat → Nat → Bool) : Nat → Nat → Bool := stp (stp (stp (stp k)))
def s24 : Nat → Nat → Bool := s4 (s4 (s4 (s4 (s4 (s4 no)))))
theorem s4_ok {k : Nat → Nat → Bool} (h : Tells k) : Tells (s4 k) := stp_ok (stp_ok (stp_ok (stp_ok h)))
theorem s24_ok : Tells s24 := s4_ok (s4_ok (s4_ok (s4_ok (s4_ok (s4_ok no_ok)))))
def s14 (a b : Nat) : Bool :=
  let c := Nat.mod a b; let d := Nat.mod b c; let e := Nat.mod c d; let f := Nat.mod d e; let g := Nat.mod e f; let h := Nat.mod f g; let i := Nat.mod g h
  let j := Nat.mod h i; let k := Nat.mod i j; let l := Nat.mod j k; let m := Nat.mod k l; let n := Nat.mod l m; let o := Nat.mod m n; let p := Nat.mod n o
  s24 o p
theorem s14_ok : Tells s14 := by
  intro C x y hC h
  have := s24_ok C _ _ hC h
  iterate 14 (refine far_step ?_)
  exact this
/-- the test of one angle, from its cosine and sine -/
def tst (x y : Nat) : Bool := Bool.casesOn (Nat.ble 3138550867693340381917894711603833208051177722232017256448 x) false (Bool.casesOn (s14 x y) (s24 x y) true)
theorem tst_ok {x y : Nat} (h : tst x y = true) : 3138550867693340381917894711603833208051177722232017256448 ≤ x ∧ ∀ X Y : Int, ¬(X = 0 ∧ Y = 0) → X.natAbs ≤ 2147483648 → 174224571863520493293247799005065324265472 ≤ (X * y - Y * x).natAbs := by
  unfold tst at h
  cases e0 : Nat.ble 3138550867693340381917894711603833208051177722232017256448 x with
  | false => rw [e0] at h; cases h
  | true =>
    rw [e0] at h
    have h1 := Nat.le_of_ble_eq_true e0
    have F : Far x x y := by
      cases e : s14 x y with
      | true => exact s14_ok x x y h1 e
      | false =>
        rw [e] at h
        exact s24_ok x x y h1 h
    refine ⟨h1, ?_⟩
    intro X Y hn hX
    have := F 0 1 (by omega) (-Y) (-X) (by omega) (by
      rw [show -Y * ((0 : Nat) : Int) + -X * ((1 : Nat) : Int) = -X by omega, Int.natAbs_neg]; exact hX)
    rw [show -Y * (x : Int) - -X * y = X * y - Y * x by grind] at this
    exact this
end Go.Proofs.YtndcjldnnfhedaaDoor.L6

/- Trig: the same test over 256 angles, and over a power of 2 of those. No run of the model here. -/
namespace Go.Proofs.YtndcjldnnfhedaaDoor.L6
set_option linter.unusedVariables false
set_option maxRecDepth 100000

/-- the ray with a cosine and a sine is far from all small whole points -/
def Rt (c s : Rat) : Prop := ∀ X Y : Int, ¬(X = 0 ∧ Y = 0) → X.natAbs ≤ 2147483648 → Y.natAbs ≤ 2147483648 → 1 / ((2 ^ 56 : Nat) : Rat) ≤ X * s - Y * c ∨ X * s - Y * c ≤ -(1 / ((2 ^ 56 : Nat) : Rat))
theorem cast_in {X : Int} (h : X.natAbs ≤ 2147483648) : -(2147483648 : Rat) ≤ X ∧ (X : Rat) ≤ 2147483648 := by
  have a : X ≤ 2147483648 := by omega
  have b : -2147483648 ≤ X := by omega
  have a' := (Rat.intCast_le_intCast).2 a
  have b' := (Rat.intCast_le_intCast).2 b
  exact ⟨b', a'⟩
theorem rt_of {x y : Nat} {c s D W d : Rat} (h : ∀ X Y : Int, ¬(X = 0 ∧ Y = 0) → X.natAbs ≤ 2147483648 → 174224571863520493293247799005065324265472 ≤ (X * y - Y * x).natAbs)
    (hD : 0 < D) (hW : 0 ≤ W) (hc1 : -d ≤ D * c - W * x) (hc2 : D * c - W * x ≤ d) (hs1 : -d ≤ D * s - W * y) (hs2 : D * s - W * y ≤ d) (hd : D * (1 / ((2 ^ 56 : Nat) : Rat)) + 2 * (2147483648 * d) ≤ W * 174224571863520493293247799005065324265472) : Rt c s := by
  intro X Y hn hX hY
  obtain ⟨x1, x2⟩ := cast_in hX
  obtain ⟨y1, y2⟩ := cast_in hY
  have m1 := mul_in x1 x2 hs1 hs2
  have m2 := mul_in y1 y2 hc1 hc2
  have h0 := h X Y hn hX
  have ez : ((X * y - Y * x : Int) : Rat) = (X : Rat) * y - (Y : Rat) * x := by
    rw [Rat.intCast_sub, Rat.intCast_mul, Rat.intCast_mul, Rat.intCast_natCast, Rat.intCast_natCast]
  have key : D * ((X : Rat) * s - Y * c) = W * ((X * y - Y * x : Int) : Rat) + (X : Rat) * (D * s - W * y) - (Y : Rat) * (D * c - W * x) := by
    rw [ez]; grind
  generalize (X * y - Y * x : Int) = z at *
  generalize 1 / ((2 ^ 56 : Nat) : Rat) = g at *
  generalize (X : Rat) * (D * s - W * y) = p at *
  generalize (Y : Rat) * (D * c - W * x) = q at *
  generalize (X : Rat) * s - Y * c = v at *
  rcases Int.lt_or_le z 0 with k | k
  · right
    have kz : z ≤ -174224571863520493293247799005065324265472 := by omega
    have kz := (Rat.intCast_le_intCast).2 kz
    have kz : (z : Rat) ≤ -174224571863520493293247799005065324265472 := kz
    have := Rat.mul_le_mul_of_nonneg_left kz hW
    refine Rat.le_of_mul_le_mul_left (c := D) ?_ hD
    grind
  · left
    have kz : 174224571863520493293247799005065324265472 ≤ z := by omega
    have kz := (Rat.intCast_le_intCast).2 kz
    have kz : (174224571863520493293247799005065324265472 : Rat) ≤ (z : Rat) := kz
    have := Rat.mul_le_mul_of_nonneg_left kz hW
    refine Rat.le_of_mul_le_mul_left (c := D) ?_ hD
    grind
/-- a power of 2 of rays, from an angle on -/
def Rays (L : Nat) (n : Int) : Prop := ∀ i : Nat, i < 2 ^ L → Rt (cz (n + i)) (sz (n + i))
theorem Rays.two {L : Nat} {n : Int} (h : Rays L n) (k : Rays L (n + 2 ^ L)) : Rays (L + 1) n := by
  intro i hi
  rw [Nat.pow_succ] at hi
  rcases Nat.lt_or_ge i (2 ^ L) with c | c
  · exact h i c
  · have := k (i - 2 ^ L) (by omega)
    rwa [show n + 2 ^ L + ((i - 2 ^ L : Nat) : Int) = n + (i : Int) by
      have : ((i - 2 ^ L : Nat) : Int) = (i : Int) - ((2 ^ L : Nat) : Int) := by omega
      rw [this, Int.natCast_pow]
      have h2 : ((2 : Nat) : Int) = 2 := rfl
      rw [h2]
      omega] at this
def Sure (L E : Nat) (K : Nat → Nat → Bool) : Prop := (∀ c s, K c s = true → 0 < c) ∧ ∀ n c s e, Ap n c s e → e ≤ E → K c s = true → Rays L n
def nd (a b : Nat) (K : Nat → Nat → Bool) (c s : Nat) : Bool := Bool.casesOn (K c s) false (K (Nat.shiftRight (Nat.sub (Nat.mul c a) (Nat.mul s b)) 192) (Nat.shiftRight (Nat.add (Nat.mul s a) (Nat.mul c b)) 192))
theorem nd_ok {L E F a b e : Nat} {K : Nat → Nat → Bool} (hu : ApT (2 ^ L) (a, b, e)) (h : Sure L E K) (h1 : 2 * (F + e) + 4 ≤ E) (h2 : F * e ≤ 2 ^ 192) : Sure (L + 1) F (nd a b K) := by
  obtain ⟨p, q⟩ := h
  have two : ∀ c s, nd a b K c s = true → K c s = true ∧ K ((c * a - s * b) / 2 ^ 192) ((s * a + c * b) / 2 ^ 192) = true := by
    intro c s ht
    unfold nd at ht
    cases k : K c s with
    | false => rw [k] at ht; cases ht
    | true =>
      rw [k] at ht
      refine ⟨rfl, ?_⟩
      have ht : K ((c * a - s * b) >>> 192) ((s * a + c * b) >>> 192) = true := ht
      rw [Nat.shiftRight_eq_div_pow, Nat.shiftRight_eq_div_pow] at ht
      exact ht
  refine ⟨fun c s ht => p c s (two c s ht).1, ?_⟩
  intro n c s f hA hf ht
  obtain ⟨t1, t2⟩ := two c s ht
  have o : s * b ≤ c * a := by
    refine Classical.byContradiction fun hc => ?_
    have := p _ _ t2
    rw [show c * a - s * b = 0 by omega, Nat.zero_div] at this
    omega
  have hm : Ap (n + 2 ^ L) ((c * a - s * b) / 2 ^ 192) ((s * a + c * b) / 2 ^ 192) (2 * (f + e) + 4) := Ap.mul hA hu o (Nat.le_trans (Nat.mul_le_mul_right e hf) h2)
  exact (q n c s f hA (by omega) t1).two (q _ _ _ _ hm (by omega) t2)
theorem leaf_sure : Sure 0 (2 ^ 104) tst := by
  refine ⟨fun c s h => by have := (tst_ok h).1; omega, ?_⟩
  intro n c s e hA he ht i hi
  have : i = 0 := by simpa using hi
  subst this
  rw [show n + ((0 : Nat) : Int) = n by omega]
  obtain ⟨⟨h1, h2⟩, h3, h4⟩ := hA
  have he := (Rat.natCast_le_natCast).2 he
  refine rt_of (D := sc) (W := 1) (d := ((2 ^ 104 : Nat) : Rat)) (tst_ok ht).2 sc_pos (by decide +kernel) ?_ ?_ ?_ ?_ (by decide +kernel)
  all_goals
    generalize ((2 ^ 104 : Nat) : Rat) = M at *
    grind
def B1 : Nat → Nat → Bool := nd 6277101735386415192372682180417039930156315112189210626670 1825934879419098190426879607517783934583183887410233 tst
theorem b1_ok : Sure 1 (2 ^ 102) B1 := nd_ok (e := 1) (by
  have := pw_ok 0 (by omega)
  rw [show pwL.getD 0 (0, 0, 0) = (6277101735386415192372682180417039930156315112189210626670, 1825934879419098190426879607517783934583183887410233, 1) by decide +kernel] at this
  exact this) leaf_sure (by decide +kernel) (by decide +kernel)
def B2 : Nat → Nat → Bool := nd 6277101735385618477983360474516742100292861453779755509013 3651869758838041877639407215963476009444623045995207 B1
theorem b2_ok : Sure 2 (2 ^ 100) B2 := nd_ok (e := 8) (by
  have := pw_ok 1 (by omega)
  rw [show pwL.getD 1 (0, 0, 0) = (6277101735385618477983360474516742100292861453779755509013, 3651869758838041877639407215963476009444623045995207, 8) by decide +kernel] at this
  exact this) b1_ok (by decide +kernel) (by decide +kernel)
def B3 : Nat → Nat → Bool := nd 6277101735382431620426073987989275200443845262558205537699 7303739517674847729563998517790834648878165910294118 B2
theorem b3_ok : Sure 3 (2 ^ 98) B3 := nd_ok (e := 36) (by
  have := pw_ok 2 (by omega)
  rw [show pwL.getD 2 (0, 0, 0) = (6277101735382431620426073987989275200443845262558205537699, 7303739517674847729563998517790834648878165910294118, 36) by decide +kernel] at this
  exact this) b2_ok (by decide +kernel) (by decide +kernel)
def B4 : Nat → Nat → Bool := nd 6277101735369684190196933435058998313766222646366836508043 14607479035339807253409472232592490585761183418513280 B3
theorem b4_ok : Sure 4 (2 ^ 96) B4 := nd_ok (e := 148) (by
  have := pw_ok 3 (by omega)
  rw [show pwL.getD 3 (0, 0, 0) = (6277101735369684190196933435058998313766222646366836508043, 14607479035339807253409472232592490585761183418513280, 148) by decide +kernel] at this
  exact this) b3_ok (by decide +kernel) (by decide +kernel)
def B5 : Nat → Nat → Bool := nd 6277101735318694469280457514211342109217499042950469558889 29214958070600508861070826364463879373773217941675614 B4
theorem b5_ok : Sure 5 (2 ^ 94) B5 := nd_ok (e := 596) (by
  have := pw_ok 4 (by omega)
  rw [show pwL.getD 4 (0, 0, 0) = (6277101735318694469280457514211342109217499042950469558889, 29214958070600508861070826364463879373773217941675614, 596) by decide +kernel] at this
  exact this) b4_ok (by decide +kernel) (by decide +kernel)
def B6 : Nat → Nat → Bool := nd 6277101735114735585615934484795934840279193279756735302792 58429916140568172556159278265313431888531837201385938 B5
theorem b6_ok : Sure 6 (2 ^ 92) B6 := nd_ok (e := 2388) (by
  have := pw_ok 5 (by omega)
  rw [show pwL.getD 5 (0, 0, 0) = (6277101735114735585615934484795934840279193279756735302792, 58429916140568172556159278265313431888531837201385938, 2388) by decide +kernel] at this
  exact this) b5_ok (by decide +kernel) (by decide +kernel)
def B7 : Nat → Nat → Bool := nd 6277101734298900050979932830737535331403797791980497297686 116859832276073583784541811770655181505012721250773910 B6
theorem b7_ok : Sure 7 (2 ^ 90) B7 := nd_ok (e := 9556) (by
  have := pw_ok 6 (by omega)
  rw [show pwL.getD 6 (0, 0, 0) = (6277101734298900050979932830737535331403797791980497297686, 116859832276073583784541811770655181505012721250773910, 9556) by decide +kernel] at this
  exact this) b6_ok (by decide +kernel) (by decide +kernel)
def B8 : Nat → Nat → Bool := nd 6277101731035557912789373632139532207382039437154473976136 233719664511645076949501695827625226723838464617382675 B7
theorem b8_ok : Sure 8 (2 ^ 88) B8 := nd_ok (e := 38228) (by
  have := pw_ok 7 (by omega)
  rw [show pwL.getD 7 (0, 0, 0) = (6277101731035557912789373632139532207382039437154473976136, 233719664511645076949501695827625226723838464617382675, 38228) by decide +kernel] at this
  exact this) b7_ok (by decide +kernel) (by decide +kernel)
def B9 : Nat → Nat → Bool := nd 6277101717982189365682295518888036146886965897657706855260 467439328699273429026572941649648935724658995319616543 B8
theorem b9_ok : Sure 9 (2 ^ 86) B9 := nd_ok (e := 152916) (by
  have := pw_ok 8 (by omega)
  rw [show pwL.getD 8 (0, 0, 0) = (6277101717982189365682295518888036146886965897657706855260, 467439328699273429026572941649648935724658995319616543, 152916) by decide +kernel] at this
  exact this) b8_ok (by decide +kernel) (by decide +kernel)
def B10 : Nat → Nat → Bool := nd 6277101665768715267736521898274177422907775985407461798840 934878654806413061768901376377450878387851167947441965 B9
theorem b10_ok : Sure 10 (2 ^ 84) B10 := nd_ok (e := 611668) (by
  have := pw_ok 9 (by omega)
  rw [show pwL.getD 9 (0, 0, 0) = (6277101665768715267736521898274177422907775985407461798840, 934878654806413061768901376377450878387851167947441965, 611668) by decide +kernel] at this
  exact this) b9_ok (by decide +kernel) (by decide +kernel)
def B11 : Nat → Nat → Bool := nd 6277101456914820323674044519299960572733603919446358958450 1869757288875755839510217497963820595771554844552670050 B10
theorem b11_ok : Sure 11 (2 ^ 82) B11 := nd_ok (e := 2446676) (by
  have := pw_ok 10 (by omega)
  rw [show pwL.getD 10 (0, 0, 0) = (6277101456914820323674044519299960572733603919446358958450, 1869757288875755839510217497963820595771554844552670050, 2446676) by decide +kernel] at this
  exact this) b10_ok (by decide +kernel) (by decide +kernel)
def B12 : Nat → Nat → Bool := nd 6277100621499263710953738912365709264524666937703544065609 3739514411854952166683595619325020811651686380578177101 B11
theorem b12_ok : Sure 12 (2 ^ 80) B12 := nd_ok (e := 9786708) (by
  have := pw_ok 11 (by omega)
  rw [show pwL.getD 11 (0, 0, 0) = (6277100621499263710953738912365709264524666937703544065609, 3739514411854952166683595619325020811651686380578177101, 9786708) by decide +kernel] at this
  exact this) b11_ok (by decide +kernel) (by decide +kernel)
def B13 : Nat → Nat → Bool := nd 6277097279837407876528915237306646333571848106011930989021 7479027496537516550952502911237582445176233688458677263 B12
theorem b13_ok : Sure 13 (2 ^ 78) B13 := nd_ok (e := 39146836) (by
  have := pw_ok 12 (by omega)
  rw [show pwL.getD 12 (0, 0, 0) = (6277097279837407876528915237306646333571848106011930989021, 7479027496537516550952502911237582445176233688458677263, 39146836) by decide +kernel] at this
  exact this) b12_ok (by decide +kernel) (by decide +kernel)
/-- 8192 angles, from a product on -/
def go (t u : Tr) : Bool := (okz t u && Nat.ble (mulz t u).2.2 (2 ^ 78)) && B13 (mulz t u).1 (mulz t u).2.1
theorem go_ok {m n : Int} {t u : Tr} (h : ApT m t) (k : ApT n u) (hg : go t u = true) : Rays 13 (m + n) := by
  unfold go at hg
  rw [Bool.and_eq_true, Bool.and_eq_true, Nat.ble_eq] at hg
  obtain ⟨⟨g1, g2⟩, g3⟩ := hg
  exact b13_ok.2 _ _ _ _ (ApT.mul h k g1) g2 g3
def U0 : Tr := (6277101735386680763835789423207666416102355444464034512896, 0, 0)
theorem u0_ok : ApT 0 U0 := ap_zero
def U1 : Tr := (6277083913195914401027118085185931296322163804611848931663, 14958044375698756963172226468270102375219198468757464163, 313174700)
theorem u1_ok : ApT 8192 U1 := by
  have := ApT.mul u0_ok (pw_ok 13 (by omega)) (by decide +kernel)
  rw [show mulz U0 (pwL.getD 13 (0, 0, 0)) = U1 by decide +kernel] at this
  exact this
def U2 : Tr := (6277030446724818223467439153077884048357755674743114617689, 29916003812477740627049292213583774337328335208400983619, 939524100)
theorem u2_ok : ApT 16384 U2 := by
  have := ApT.mul u1_ok (pw_ok 13 (by omega)) (by decide +kernel)
  rw [show mulz U1 (pwL.getD 13 (0, 0, 0)) = U2 by decide +kernel] at this
  exact this
def U3 : Tr := (6276941336277000389077296504810673871130844511652033210986, 44873793371899501444762927338163570892724088052924085367, 2192222900)
theorem u3_ok : ApT 24576 U3 := by
  have := ApT.mul u2_ok (pw_ok 13 (by omega)) (by decide +kernel)
  rw [show mulz U2 (pwL.getD 13 (0, 0, 0)) = U3 by decide +kernel] at this
  exact this
def U4 : Tr := (6276816582358472578799322009212632779376423679337705673302, 59831328116491234635434024453456450491593432667011062107, 4697620500)
theorem u4_ok : ApT 32768 U4 := by
  have := ApT.mul u3_ok (pw_ok 13 (by omega)) (by decide +kernel)
  rw [show mulz U3 (pwL.getD 13 (0, 0, 0)) = U4 by decide +kernel] at this
  exact this
def U5 : Tr := (6276656185677647123222245161581916696196541869793477078964, 74788523110227095720021224663273101937532172609958493887, 9708415700)
theorem u5_ok : ApT 40960 U5 := by
  have := ApT.mul u4_ok (pw_ok 13 (by omega)) (by decide +kernel)
  rw [show mulz U4 (pwL.getD 13 (0, 0, 0)) = U5 by decide +kernel] at this
  exact this
def U6 : Tr := (6276460147145332979877349561060692300497019154179005564082, 89745293419010507840637856360655759093784857425118164697, 19730006100)
theorem u6_ok : ApT 49152 U6 := by
  have := ApT.mul u5_ok (pw_ok 13 (by omega)) (by decide +kernel)
  rw [show mulz U5 (pwL.getD 13 (0, 0, 0)) = U6 by decide +kernel] at this
  exact this
def U7 : Tr := (6276228467874730561230219061736811531929199218522626078171, 104701554111156458124565922743932775936060458472210056828, 39773186900)
theorem u7_ok : ApT 57344 U7 := by
  have := ApT.mul u6_ok (pw_ok 13 (by omega)) (by decide +kernel)
  rw [show mulz U6 (pwL.getD 13 (0, 0, 0)) = U7 by decide +kernel] at this
  exact this
theorem seg_of {m : Int} {t : Tr} (h : ApT m t) (r0 : go t U0 = true) (r1 : go t U1 = true) (r2 : go t U2 = true) (r3 : go t U3 = true) (r4 : go t U4 = true) (r5 : go t U5 = true) (r6 : go t U6 = true) (r7 : go t U7 = true) (n : Int) (h1 : m ≤ n) (h2 : n < m + 65536) : Rt (cz n) (sz n) := by
  have fin : ∀ k : Int, Rays 13 (m + k) → m + k ≤ n → n < m + k + 8192 → Rt (cz n) (sz n) := by
    intro k hR a b
    have := hR (n - (m + k)).toNat (by omega)
    rwa [show m + k + ((n - (m + k)).toNat : Int) = n by omega] at this
  by_cases c0 : n < m + 8192
  · exact fin 0 (go_ok h u0_ok r0) (by omega) (by omega)
  by_cases c1 : n < m + 16384
  · exact fin 8192 (go_ok h u1_ok r1) (by omega) (by omega)
  by_cases c2 : n < m + 24576
  · exact fin 16384 (go_ok h u2_ok r2) (by omega) (by omega)
  by_cases c3 : n < m + 32768
  · exact fin 24576 (go_ok h u3_ok r3) (by omega) (by omega)
  by_cases c4 : n < m + 40960
  · exact fin 32768 (go_ok h u4_ok r4) (by omega) (by omega)
  by_cases c5 : n < m + 49152
  · exact fin 40960 (go_ok h u5_ok r5) (by omega) (by omega)
  by_cases c6 : n < m + 57344
  · exact fin 49152 (go_ok h u6_ok r6) (by omega) (by omega)
  exact fin 57344 (go_ok h u7_ok r7) (by omega) (by omega)
end Go.Proofs.YtndcjldnnfhedaaDoor.L6
