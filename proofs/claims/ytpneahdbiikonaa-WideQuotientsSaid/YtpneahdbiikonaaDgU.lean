/- Contracts of the reference's Quotient and Root. -/
import Derived.Test.YtpneahdbiikonaaDgV
import Derived.Test.YtpneahdbiikonaaWdB
import Derived.Test.YtpneahdbiikonaaWdQ
namespace Go.Proofs.Ytpneahdbiikonaa
open Go.RowKit
set_option linter.unusedVariables false
attribute [local go_sem ↓] Go.wp_at_zero Go.wp_at_succ

theorem NZ.far {w : World} {A : Option Addr} {n c : Nat} {g : Bool} {z : Int} (h : NZ w A n c g z) (p : Addr) (hp : ∀ ad, A = some ad → ad.block ≠ p.block) (u : Value) : NZ (w.setCell p u) A n c g z := ⟨h.dig.far p hp u, h.sgn⟩

/-- what Quotient's walk asks of its callees -/
structure QtC (h l b D U : Int) : Prop where
  o : ∀ wx, Calls Try.prog 20 #[.agg #[.int .i64 h, .int .i64 l]] wx (RetZ wx (wv h l))
  i : ∀ wx, Calls Try.prog 16 #[.int .i64 b] wx (RetZ wx b)
  d : ∀ wx A1 n1 c1 g1 A2 n2 c2 g2, NZ wx A1 n1 c1 g1 (wv h l) → NZ wx A2 n2 c2 g2 b → Calls Try.prog 35 #[.agg #[.slice A1 n1 c1, .bool g1], .agg #[.slice A2 n2 c2, .bool g2]] wx (RetZ wx D)
  u : ∀ wx A1 n1 c1 g1 A2 n2 c2 g2, NZ wx A1 n1 c1 g1 (wv h l) → NZ wx A2 n2 c2 g2 b → Calls Try.prog 48 #[.agg #[.slice A1 n1 c1, .bool g1], .agg #[.slice A2 n2 c2, .bool g2]] wx (RetZ wx U)
  di : ∀ wx A1 n1 c1 g1, NZ wx A1 n1 c1 g1 D → Calls Try.prog 19 #[.agg #[.slice A1 n1 c1, .bool g1]] wx fun e w' => e = .returned (.tuple #[.int .i64 (qV D), .bool (isI D)]) ∧ Below wx.heap.size wx w'
  ui : ∀ wx A1 n1 c1 g1, NZ wx A1 n1 c1 g1 U → Calls Try.prog 19 #[.agg #[.slice A1 n1 c1, .bool g1]] wx fun e w' => e = .returned (.tuple #[.int .i64 (qV U), .bool (isI U)]) ∧ Below wx.heap.size wx w'

theorem qdn_le (n b : Int) (hb : b ≠ 0) : (qdn n b).natAbs ≤ n.natAbs + 1 := by
  rw [qdn_abs n b hb]
  have : n.natAbs / b.natAbs ≤ n.natAbs := Nat.div_le_self _ _
  split
  · rw [Int.natAbs_natCast]; omega
  · rw [Int.natAbs_neg, Int.natAbs_natCast]; split <;> omega

theorem qtC (h l b : Int) (hk : wok h l = true) (b0 : b ≠ 0) (b1 : -9223372036854775808 ≤ b) (b2 : b ≤ 9223372036854775807) : QtC h l b (qdn (wv h l) b) (qup (wv h l) b) := by
  have hw := (wok_iff h l).1 hk
  have hv : (wv h l).natAbs ≤ 1329227995784915872903807060280344576 := by unfold wv; omega
  have sv' : Sm (wv h l) := sm_big (by omega)
  have sb : Sm b := sm_i64 b1 (by omega)
  have hd := qdn_le (wv h l) b b0
  have hu := qdn_le (-wv h l) b b0
  rw [Int.natAbs_neg] at hu
  have sd : Sm (qdn (wv h l) b) := sm_big (by omega)
  have su : Sm (qup (wv h l) b) := by unfold qup; exact Sm.neg (sm_big (by omega))
  refine ⟨fun wx => ofwide_any h l wx (by omega) (by omega) (by omega) (by omega), fun wx => ofint_any b wx b1 b2, ?_, ?_, ?_, ?_⟩
  · intro wx A1 n1 c1 g1 A2 n2 c2 g2 q1 q2
    exact down_any A1 A2 n1 c1 n2 c2 g1 g2 _ _ wx q1 q2 b0 sv' sb
  · intro wx A1 n1 c1 g1 A2 n2 c2 g2 q1 q2
    exact up_any A1 A2 n1 c1 n2 c2 g1 g2 _ _ wx q1 q2 b0 sv' sb
  · intro wx A1 n1 c1 g1 q
    exact isint_any A1 n1 c1 g1 _ wx q sd
  · intro wx A1 n1 c1 g1 q
    exact isint_any A1 n1 c1 g1 _ wx q su

set_option maxHeartbeats 4000000 in
theorem rquo_down (h l b D U : Int) (w : World) (b0 : b ≠ 0) (C : QtC h l b D U) :
    Calls Try.prog 31 #[.agg #[.int .i64 h, .int .i64 l], .int .i64 b, .bool false] w fun e w' => e = .returned (.tuple #[.int .i64 (qV D), .int .i64 (qE D)]) ∧ Below w.heap.size w w' := by
  have HC := Lib.hid C
  have t0 : (b == 0) = false := beq_eq_false_iff_ne.2 b0
  have T := Lib.hid (One.new w (.int .i64 h) (.int .i64 l) 23)
  have QV : Hid (isI D = false → qV D = 0) := fun e => by unfold qV; rw [e]; rfl
  have QE1 : Hid (isI D = false → qE D = 5) := fun e => by unfold qE; rw [e]; rfl
  have QE2 : Hid (isI D = true → qE D = 0) := fun e => by unfold qE; rw [e]; rfl
  obtain ⟨v, hv⟩ : ∃ v, v = qV D := ⟨_, rfl⟩
  obtain ⟨f, hf⟩ : ∃ f, f = isI D := ⟨_, rfl⟩
  have KI : Hid (∀ wx A1 n1 c1 g1, NZ wx A1 n1 c1 g1 D → Calls Try.prog 19 #[.agg #[.slice A1 n1 c1, .bool g1]] wx fun e w' => e = .returned (.tuple #[.int .i64 v, .bool f]) ∧ Below wx.heap.size wx w') := by rw [hv, hf]; exact C.di
  rw [← hv, ← hf] at QV
  rw [← hf] at QE1 QE2
  rw [← hv]
  obtain ⟨x, hx⟩ : ∃ x, x = qE D := ⟨_, rfl⟩
  rw [← hx] at QE1 QE2 ⊢
  clear C b0 hv hf hx
  cases f
  · have e1 := QV.out rfl
    have e2 := QE1.out rfl
    subst e1 e2
    clear QV QE1 QE2
    go_enter Try.func31, Try.ntmps31
    go_wp2_with fail
    refine (HC.out.o _).mono ?_
    rintro e w2 ⟨A2, n2, c2, g2, rfl, hz2, hf2, hb2⟩
    have T := Lib.hid (T.out.keep hb2)
    have Z2 := Lib.hid hz2
    clear hz2 hf2 hb2
    go_wp2_with fail
    refine (HC.out.i _).mono ?_
    rintro e w3 ⟨A3, n3, c3, g3, rfl, hz3, hf3, hb3⟩
    have T := Lib.hid (T.out.keep hb3)
    have Z2 := Lib.hid (Z2.out.keep hb3)
    have Z3 := Lib.hid hz3
    clear hz3 hf3 hb3
    go_wp2_with fail
    refine (HC.out.d _ _ _ _ _ _ _ _ _ Z2.out Z3.out).mono ?_
    rintro e w4 ⟨A4, n4, c4, g4, rfl, hz4, hf4, hb4⟩
    have T := Lib.hid (T.out.keep hb4)
    have Z4 := Lib.hid hz4
    clear hz4 hf4 hb4 Z2 Z3
    go_wp2_with fail
    refine (KI.out _ _ _ _ _ (Z4.out.alloc _)).mono ?_
    rintro e w5 ⟨rfl, hb5⟩
    have T := Lib.hid ((T.out.alloc _).keep hb5)
    clear hb5
    go_wp2_with fail
    go_ret2
    exact ⟨rfl, T.out.bel⟩
  · have e2 := QE2.out rfl
    subst e2
    clear QV QE1 QE2
    go_enter Try.func31, Try.ntmps31
    go_wp2_with fail
    refine (HC.out.o _).mono ?_
    rintro e w2 ⟨A2, n2, c2, g2, rfl, hz2, hf2, hb2⟩
    have T := Lib.hid (T.out.keep hb2)
    have Z2 := Lib.hid hz2
    clear hz2 hf2 hb2
    go_wp2_with fail
    refine (HC.out.i _).mono ?_
    rintro e w3 ⟨A3, n3, c3, g3, rfl, hz3, hf3, hb3⟩
    have T := Lib.hid (T.out.keep hb3)
    have Z2 := Lib.hid (Z2.out.keep hb3)
    have Z3 := Lib.hid hz3
    clear hz3 hf3 hb3
    go_wp2_with fail
    refine (HC.out.d _ _ _ _ _ _ _ _ _ Z2.out Z3.out).mono ?_
    rintro e w4 ⟨A4, n4, c4, g4, rfl, hz4, hf4, hb4⟩
    have T := Lib.hid (T.out.keep hb4)
    have Z4 := Lib.hid hz4
    clear hz4 hf4 hb4 Z2 Z3
    go_wp2_with fail
    refine (KI.out _ _ _ _ _ (Z4.out.alloc _)).mono ?_
    rintro e w5 ⟨rfl, hb5⟩
    have T := Lib.hid ((T.out.alloc _).keep hb5)
    clear hb5
    go_wp2_with fail
    go_ret2
    exact ⟨rfl, T.out.bel⟩
-- UP
set_option maxHeartbeats 4000000 in
theorem rquo_up (h l b D U : Int) (w : World) (b0 : b ≠ 0) (C : QtC h l b D U) :
    Calls Try.prog 31 #[.agg #[.int .i64 h, .int .i64 l], .int .i64 b, .bool true] w fun e w' => e = .returned (.tuple #[.int .i64 (qV U), .int .i64 (qE U)]) ∧ Below w.heap.size w w' := by
  have HC := Lib.hid C
  have t0 : (b == 0) = false := beq_eq_false_iff_ne.2 b0
  have T := Lib.hid (One.new w (.int .i64 h) (.int .i64 l) 23)
  have QV : Hid (isI U = false → qV U = 0) := fun e => by unfold qV; rw [e]; rfl
  have QE1 : Hid (isI U = false → qE U = 5) := fun e => by unfold qE; rw [e]; rfl
  have QE2 : Hid (isI U = true → qE U = 0) := fun e => by unfold qE; rw [e]; rfl
  obtain ⟨v, hv⟩ : ∃ v, v = qV U := ⟨_, rfl⟩
  obtain ⟨f, hf⟩ : ∃ f, f = isI U := ⟨_, rfl⟩
  have KI : Hid (∀ wx A1 n1 c1 g1, NZ wx A1 n1 c1 g1 U → Calls Try.prog 19 #[.agg #[.slice A1 n1 c1, .bool g1]] wx fun e w' => e = .returned (.tuple #[.int .i64 v, .bool f]) ∧ Below wx.heap.size wx w') := by rw [hv, hf]; exact C.ui
  rw [← hv, ← hf] at QV
  rw [← hf] at QE1 QE2
  rw [← hv]
  obtain ⟨x, hx⟩ : ∃ x, x = qE U := ⟨_, rfl⟩
  rw [← hx] at QE1 QE2 ⊢
  clear C b0 hv hf hx
  cases f
  · have e1 := QV.out rfl
    have e2 := QE1.out rfl
    subst e1 e2
    clear QV QE1 QE2
    go_enter Try.func31, Try.ntmps31
    go_wp2_with fail
    refine (HC.out.o _).mono ?_
    rintro e w2 ⟨A2, n2, c2, g2, rfl, hz2, hf2, hb2⟩
    have T := Lib.hid (T.out.keep hb2)
    have Z2 := Lib.hid hz2
    clear hz2 hf2 hb2
    go_wp2_with fail
    refine (HC.out.i _).mono ?_
    rintro e w3 ⟨A3, n3, c3, g3, rfl, hz3, hf3, hb3⟩
    have T := Lib.hid (T.out.keep hb3)
    have Z2 := Lib.hid (Z2.out.keep hb3)
    have Z3 := Lib.hid hz3
    clear hz3 hf3 hb3
    go_wp2_with fail
    refine (HC.out.d _ _ _ _ _ _ _ _ _ Z2.out Z3.out).mono ?_
    rintro e w4 ⟨A4, n4, c4, g4, rfl, hz4, hf4, hb4⟩
    have T := Lib.hid (T.out.keep hb4)
    obtain ⟨⟨i0, i1, _, _, i2⟩, _⟩ := id T.out
    clear hz4 hf4 hb4 Z2 Z3
    go_wp2_with fail
    refine (HC.out.o _).mono ?_
    rintro e w5 ⟨A5, n5, c5, g5, rfl, hz5, hf5, hb5⟩
    have B := Lib.hid ((T.out.alloc _).keep hb5).bel
    have N := Lib.hid ((Bl2.new w4 _ _ _).keep hb5)
    have Z5 := Lib.hid hz5
    clear hz5 hf5 hb5
    go_wp2_with fail
    refine (HC.out.i _).mono ?_
    rintro e w6 ⟨A6, n6, c6, g6, rfl, hz6, hf6, hb6⟩
    have B := Lib.hid (B.out.trans (hb6.mono B.out.size))
    have N := Lib.hid (N.out.keep hb6)
    have Z5 := Lib.hid (Z5.out.keep hb6)
    have Z6 := Lib.hid hz6
    clear hz6 hf6 hb6
    go_wp2_with fail
    refine (HC.out.u _ _ _ _ _ _ _ _ _ Z5.out Z6.out).mono ?_
    rintro e w7 ⟨A7, n7, c7, g7, rfl, hz7, hf7, hb7⟩
    have B := Lib.hid (B.out.trans (hb7.mono B.out.size))
    have F : Hid (∀ ad, A7 = some ad → ad.block ≠ w4.heap.size) := fun ad e => by have h1 := hf7 ad e; have h2 := N.out.lt; omega
    have B4 : Hid (w.heap.size ≤ w4.heap.size) := T.out.bel.size
    have N := Lib.hid (N.out.keep hb7)
    have Z7 := Lib.hid hz7
    clear hz7 hf7 hb7 Z5 Z6 T i0 i1
    obtain ⟨k0, k1, l0, l1, _⟩ := id N.out
    obtain ⟨s0, s1⟩ := store2 k0 k1 (.slice A7 n7 c7) (.bool g7)
    go_wp2_with fail
    refine (KI.out _ _ _ _ _ ((Z7.out.far ⟨w4.heap.size, 0, none⟩ F.out _).far ⟨w4.heap.size, 1, none⟩ F.out _)).mono ?_
    rintro e w8 ⟨rfl, hb8⟩
    have B := Lib.hid (((B.out.setCell (p := ⟨w4.heap.size, 0, none⟩) B4.out (.slice A7 n7 c7)).setCell (p := ⟨w4.heap.size, 1, none⟩) B4.out (.bool g7)).trans (hb8.mono (by have := B.out.size; simpa using this)))
    clear hb8
    go_wp2_with fail
    go_ret2
    exact ⟨rfl, B.out⟩
  · have e2 := QE2.out rfl
    subst e2
    clear QV QE1 QE2
    go_enter Try.func31, Try.ntmps31
    go_wp2_with fail
    refine (HC.out.o _).mono ?_
    rintro e w2 ⟨A2, n2, c2, g2, rfl, hz2, hf2, hb2⟩
    have T := Lib.hid (T.out.keep hb2)
    have Z2 := Lib.hid hz2
    clear hz2 hf2 hb2
    go_wp2_with fail
    refine (HC.out.i _).mono ?_
    rintro e w3 ⟨A3, n3, c3, g3, rfl, hz3, hf3, hb3⟩
    have T := Lib.hid (T.out.keep hb3)
    have Z2 := Lib.hid (Z2.out.keep hb3)
    have Z3 := Lib.hid hz3
    clear hz3 hf3 hb3
    go_wp2_with fail
    refine (HC.out.d _ _ _ _ _ _ _ _ _ Z2.out Z3.out).mono ?_
    rintro e w4 ⟨A4, n4, c4, g4, rfl, hz4, hf4, hb4⟩
    have T := Lib.hid (T.out.keep hb4)
    obtain ⟨⟨i0, i1, _, _, i2⟩, _⟩ := id T.out
    clear hz4 hf4 hb4 Z2 Z3
    go_wp2_with fail
    refine (HC.out.o _).mono ?_
    rintro e w5 ⟨A5, n5, c5, g5, rfl, hz5, hf5, hb5⟩
    have B := Lib.hid ((T.out.alloc _).keep hb5).bel
    have N := Lib.hid ((Bl2.new w4 _ _ _).keep hb5)
    have Z5 := Lib.hid hz5
    clear hz5 hf5 hb5
    go_wp2_with fail
    refine (HC.out.i _).mono ?_
    rintro e w6 ⟨A6, n6, c6, g6, rfl, hz6, hf6, hb6⟩
    have B := Lib.hid (B.out.trans (hb6.mono B.out.size))
    have N := Lib.hid (N.out.keep hb6)
    have Z5 := Lib.hid (Z5.out.keep hb6)
    have Z6 := Lib.hid hz6
    clear hz6 hf6 hb6
    go_wp2_with fail
    refine (HC.out.u _ _ _ _ _ _ _ _ _ Z5.out Z6.out).mono ?_
    rintro e w7 ⟨A7, n7, c7, g7, rfl, hz7, hf7, hb7⟩
    have B := Lib.hid (B.out.trans (hb7.mono B.out.size))
    have F : Hid (∀ ad, A7 = some ad → ad.block ≠ w4.heap.size) := fun ad e => by have h1 := hf7 ad e; have h2 := N.out.lt; omega
    have B4 : Hid (w.heap.size ≤ w4.heap.size) := T.out.bel.size
    have N := Lib.hid (N.out.keep hb7)
    have Z7 := Lib.hid hz7
    clear hz7 hf7 hb7 Z5 Z6 T i0 i1
    obtain ⟨k0, k1, l0, l1, _⟩ := id N.out
    obtain ⟨s0, s1⟩ := store2 k0 k1 (.slice A7 n7 c7) (.bool g7)
    go_wp2_with fail
    refine (KI.out _ _ _ _ _ ((Z7.out.far ⟨w4.heap.size, 0, none⟩ F.out _).far ⟨w4.heap.size, 1, none⟩ F.out _)).mono ?_
    rintro e w8 ⟨rfl, hb8⟩
    have B := Lib.hid (((B.out.setCell (p := ⟨w4.heap.size, 0, none⟩) B4.out (.slice A7 n7 c7)).setCell (p := ⟨w4.heap.size, 1, none⟩) B4.out (.bool g7)).trans (hb8.mono (by have := B.out.size; simpa using this)))
    clear hb8
    go_wp2_with fail
    go_ret2
    exact ⟨rfl, B.out⟩

theorem rquo_zero (h l : Int) (d : Bool) (w : World) :
    Calls Try.prog 31 #[.agg #[.int .i64 h, .int .i64 l], .int .i64 0, .bool d] w fun e w' => e = .returned (.tuple #[.int .i64 0, .int .i64 16]) ∧ Below w.heap.size w w' := by
  go_enter Try.func31, Try.ntmps31
  go_wp2_with fail
  go_ret2
  exact ⟨rfl, (Below.refl _ _).alloc (Nat.le_refl _) _⟩

/-- what the walk of the reference's Root asks of its callees -/
structure RtC (h l r : Int) (R : Nat) : Prop where
  o : ∀ wx, Calls Try.prog 20 #[.agg #[.int .i64 h, .int .i64 l]] wx (RetZ wx (wv h l))
  s : ∀ wx A1 n1 c1 g1, NZ wx A1 n1 c1 g1 (wv h l) → Calls Try.prog 51 #[.slice A1 n1 c1] wx (Ret wx (dgs R))
  i : ∀ wx A1 n1 c1, Dig wx A1 n1 c1 (dgs R) → Calls Try.prog 19 #[.agg #[.slice A1 n1 c1, .bool false]] wx fun e w' => e = .returned (.tuple #[.int .i64 r, .bool true]) ∧ Below wx.heap.size wx w'

theorem rtC (h l : Int) (R : Nat) (hk : wok h l = true) (h0 : 0 ≤ h) (r1 : R * R ≤ (wv h l).natAbs) (r2 : (wv h l).natAbs < (R + 1) * (R + 1)) : RtC h l (R : Int) R := by
  have hw := (wok_iff h l).1 hk
  have hv : (wv h l).natAbs < 1329227995784915872903807060280344576 := by unfold wv; omega
  have hR : R < 1152921504606846976 := by
    rcases Nat.lt_or_ge R 1152921504606846976 with q | q
    · exact q
    · have := Nat.mul_le_mul q q; omega
  refine ⟨fun wx => ofwide_any h l wx (by omega) (by omega) (by omega) (by omega), ?_, ?_⟩
  · intro wx A1 n1 c1 g1 q
    exact sqrt_any A1 n1 c1 _ R wx q.dig (by have := dgs_len_ten (n := (wv h l).natAbs) (by omega); omega) r1 r2
  · intro wx A1 n1 c1 q
    have hi : isI (R : Int) = true := by rw [isI_iff]; omega
    have := isint_any A1 n1 c1 false (R : Int) wx ⟨by rw [Int.natAbs_natCast]; exact q, (decide_eq_false (by omega)).symm⟩ (sm_i64 (by omega) (by omega))
    unfold iV at this
    rw [hi] at this
    exact this

set_option maxHeartbeats 4000000 in
theorem rroot_ok (h l r : Int) (R : Nat) (w : World) (h0 : ¬ wv h l < 0) (C : RtC h l r R) :
    Calls Try.prog 33 #[.agg #[.int .i64 h, .int .i64 l]] w fun e w' => e = .returned (.tuple #[.int .i64 r, .int .i64 0]) ∧ Below w.heap.size w w' := by
  have HC := Lib.hid C
  have H0 : Hid (decide (wv h l < 0) = false) := decide_eq_false h0
  clear C h0
  go_enter Try.func33, Try.ntmps33
  go_wp2_with fail
  refine (HC.out.o _).mono ?_
  rintro e w2 ⟨A2, n2, c2, g2, rfl, hz2, hf2, hb2⟩
  have B := Lib.hid (((Below.refl w.heap.size w).alloc (Nat.le_refl _) _).trans (hb2.mono (by simp)))
  have hg : g2 = false := hz2.sgn.trans H0.out
  subst hg
  have Z2 := Lib.hid hz2
  clear hz2 hf2 hb2
  go_wp2_with fail
  refine (HC.out.s _ _ _ _ _ (Z2.out.alloc _)).mono ?_
  rintro e w3 ⟨A3, n3, c3, rfl, hd3, hf3, hb3⟩
  have B := Lib.hid ((B.out.alloc B.out.size _).trans (hb3.mono (by have := B.out.size; simp; omega)))
  have D3 := Lib.hid hd3
  clear hd3 hf3 hb3
  go_wp2_with fail
  refine (HC.out.i _ _ _ _ D3.out).mono ?_
  rintro e w4 ⟨rfl, hb4⟩
  have B := Lib.hid (B.out.trans (hb4.mono B.out.size))
  clear hb4
  go_wp2_with fail
  go_ret2
  exact ⟨rfl, B.out⟩

set_option maxHeartbeats 4000000 in
theorem rroot_neg (h l : Int) (w : World) (h0 : wv h l < 0) (C : ∀ wx, Calls Try.prog 20 #[.agg #[.int .i64 h, .int .i64 l]] wx (RetZ wx (wv h l))) :
    Calls Try.prog 33 #[.agg #[.int .i64 h, .int .i64 l]] w fun e w' => e = .returned (.tuple #[.int .i64 0, .int .i64 2]) ∧ Below w.heap.size w w' := by
  have HC := Lib.hid C
  have H0 : Hid (decide (wv h l < 0) = true) := decide_eq_true h0
  clear C h0
  go_enter Try.func33, Try.ntmps33
  go_wp2_with fail
  refine (HC.out _).mono ?_
  rintro e w2 ⟨A2, n2, c2, g2, rfl, hz2, hf2, hb2⟩
  have B := Lib.hid (((Below.refl w.heap.size w).alloc (Nat.le_refl _) _).trans (hb2.mono (by simp)))
  have hg : g2 = true := hz2.sgn.trans H0.out
  subst hg
  clear hz2 hf2 hb2
  go_wp2_with fail
  go_ret2
  exact ⟨rfl, B.out.alloc B.out.size _⟩
end Go.Proofs.Ytpneahdbiikonaa
