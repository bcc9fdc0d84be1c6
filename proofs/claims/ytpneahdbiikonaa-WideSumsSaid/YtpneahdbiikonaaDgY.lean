/- Contracts of the reference's Compare, Down and Up. -/
import Derived.Test.YtpneahdbiikonaaDgZ
namespace Go.Proofs.Ytpneahdbiikonaa
open Go.RowKit
set_option linter.unusedVariables false
attribute [local go_sem ↓] Go.wp_at_zero Go.wp_at_succ

theorem b3e (w : World) (o1 o2 o3 : Obj) : Below w.heap.size w (((w.alloc o1).alloc o2).drew.alloc o3) := ((((Below.refl w.heap.size w).alloc (Nat.le_refl _) o1).alloc (by simp) o2).drew).alloc (by simp; omega) o3
theorem Sm.neg {z : Int} (h : Sm z) : Sm (-z) := by unfold Sm at *; rw [Int.natAbs_neg]; exact h

theorem sgn_of (z : Int) : (z.natAbs = 0 → sgn z = 0) ∧ (z < 0 → sgn z = -1) ∧ (0 < z → sgn z = 1) := by
  unfold sgn
  refine ⟨fun h => ?_, fun h => if_pos h, fun h => ?_⟩
  · rw [if_neg (by omega), if_neg (by omega)]
  · rw [if_neg (by omega), if_pos h]

/-- two structs of the call's own, and what lay before is as it was -/
structure Two (w : World) (a0 a1 b0 b1 : Value) (wr : World) : Prop where
  l : Bl2 wr w.heap.size a0 a1
  r : Bl2 wr (w.heap.size + 1) b0 b1
  bel : Below w.heap.size w wr
theorem Two.new (w : World) (a0 a1 b0 b1 : Value) (T U : Nat) : Two w a0 a1 b0 b1 ((w.alloc (.cells #[a0, a1] T)).alloc (.cells #[b0, b1] U)) := by
  have h2 := Bl2.new (w.alloc (.cells #[a0, a1] T)) b0 b1 U
  simp at h2
  exact ⟨(Bl2.new w a0 a1 T).alloc _, h2, ((Below.refl _ _).alloc (Nat.le_refl _) _).alloc (by simp) _⟩
theorem Two.keep {w wr w2 : World} {a0 a1 b0 b1 : Value} (h : Two w a0 a1 b0 b1 wr) (hb : Below wr.heap.size wr w2) : Two w a0 a1 b0 b1 w2 := ⟨h.l.keep hb, h.r.keep hb, h.bel.trans (hb.mono h.bel.size)⟩
theorem Two.drew {w wr : World} {a0 a1 b0 b1 : Value} (h : Two w a0 a1 b0 b1 wr) : Two w a0 a1 b0 b1 wr.drew := h.keep (Below.refl _ _).drew
theorem Two.alloc {w wr : World} {a0 a1 b0 b1 : Value} (h : Two w a0 a1 b0 b1 wr) (o : Obj) : Two w a0 a1 b0 b1 (wr.alloc o) := h.keep ((Below.refl _ _).alloc (Nat.le_refl _) o)

theorem NZ.cases {w : World} {A : Option Addr} {n c : Nat} {g : Bool} {z : Int} (h : NZ w A n c g z) : (z = 0 ∧ n = 0) ∨ (z < 0 ∧ 0 < n ∧ g = true) ∨ (0 < z ∧ 0 < n ∧ g = false) := by
  have h1 := h.dig.len
  have h2 := h.sgn
  have h3 := dgs_len_pos z.natAbs
  rcases Int.lt_trichotomy z 0 with q | q | q
  · exact .inr (.inl ⟨q, by rw [h1, h3]; omega, by rw [h2]; exact decide_eq_true q⟩)
  · exact .inl ⟨q, by rw [h1, q]; simp [dgs_zero]⟩
  · exact .inr (.inr ⟨q, by rw [h1, h3]; omega, by rw [h2]; exact decide_eq_false (by omega)⟩)

set_option maxHeartbeats 4000000 in
theorem compare_num (A B : Option Addr) (n c m d : Nat) (g h : Bool) (x y : Int) (w : World) (hx : NZ w A n c g x) (hy : NZ w B m d h y) (sx : Sm x) (sy : Sm y) :
    Calls Try.prog 26 #[.agg #[.slice A n c, .bool g], .agg #[.slice B m d, .bool h]] w fun e w' => e = .returned (.int .i64 (sgn (x - y))) ∧ Below w.heap.size w w' := by
  have n1 : ¬ (w.heap.size = w.heap.size + 1 + 1) := by omega
  have n2 : ¬ (w.heap.size + 1 + 1 = w.heap.size) := by omega
  obtain ⟨h', hh'⟩ : ∃ h', h' = decide (-y < 0) := ⟨_, rfl⟩
  have CM : Hid (∀ wx, Below w.heap.size w wx → Calls Try.prog 25 #[.agg #[.slice B m d, .bool h]] wx fun e w' => e = .returned (.agg #[.slice B m d, .bool h']) ∧ Below wx.heap.size wx w') :=
    fun wx hb => minus_any B m d h h' y wx (hy.keep hb) hh'
  have CP : Hid (∀ wx, Below w.heap.size w wx → Calls Try.prog 24 #[.agg #[.slice A n c, .bool g], .agg #[.slice B m d, .bool h']] wx (RetZ wx (x - y))) := by
    intro wx hb
    have := plus_any A B n c m d g h' x (-y) wx (hx.keep hb) ⟨by rw [Int.natAbs_neg]; exact hy.dig.keep hb, hh'⟩ sx sy.neg
    rw [← Int.sub_eq_add_neg] at this
    exact this
  clear hx hy hh'
  obtain ⟨z, hz⟩ : ∃ z, z = x - y := ⟨_, rfl⟩
  rw [← hz] at CP ⊢
  obtain ⟨r, hr⟩ : ∃ r, r = sgn z := ⟨_, rfl⟩
  rw [← hr]
  have SZ := Lib.hid (sgn_of z)
  have HR := Lib.hid hr
  clear hz hr
  have T0 := Lib.hid (Two.new w (.slice A n c) (.bool g) (.slice B m d) (.bool h) 30 30).drew
  go_enter Try.func26, Try.ntmps26
  go_wp2_with fail
  go_region_held3 (fun w' => w'.cell? ⟨w.heap.size, 0, none⟩ = some (.slice A n c) ∧ w'.cell? ⟨w.heap.size, 1, none⟩ = some (.bool g) ∧ w'.cell? ⟨w.heap.size + 1, 0, none⟩ = some (.slice B m d) ∧ w'.cell? ⟨w.heap.size + 1, 1, none⟩ = some (.bool h)) (go_keep)
    (first
    | (go_at_call 25; refine (CM.out _ T0.out.bel).mono ?_; rintro e w2 ⟨rfl, hb2⟩; have T2 := Lib.hid (T0.out.keep hb2); have m1 : ¬ w.heap.size = w2.heap.size := (by have := T2.out.l.lt; omega); have m2 : ¬ w.heap.size + 1 = w2.heap.size := (by have := T2.out.r.lt; omega); have m3 : ¬ w2.heap.size = w.heap.size := (by omega); have m4 : ¬ w2.heap.size = w.heap.size + 1 := (by omega); obtain ⟨⟨i0, i1, _, _, _⟩, ⟨j0, j1, _, _, _⟩, _⟩ := id T2.out; clear hb2)
    | (go_at_call 25; refine (CM.out _ (T0.out.alloc _).bel).mono ?_; rintro e w2 ⟨rfl, hb2⟩; have T2 := Lib.hid ((T0.out.alloc _).keep hb2); have N2 := Lib.hid ((Bl2.new _ _ _ _).keep hb2); obtain ⟨⟨i0, i1, _, _, _⟩, ⟨j0, j1, _, _, _⟩, _⟩ := id T2.out; clear hb2)
    | (go_at_call 24; refine (CP.out _ T2.out.bel).mono ?_; rintro e w3 ⟨A3, n3, c3, g3, rfl, hz3, hf3, hb3⟩; have T3 := Lib.hid (T2.out.keep hb3); (try (obtain ⟨k0, k1, l0, l1, _⟩ := N2.out.keep hb3; simp at k0 k1 l0 l1)); have HZ := Lib.hid hz3; obtain ⟨⟨i0, i1, _, _, _⟩, ⟨j0, j1, _, _, _⟩, _⟩ := id T3.out; clear hb3 hz3 hf3)
    | (go_at_call 24; refine (CP.out _ (T2.out.alloc _).bel).mono ?_; rintro e w3 ⟨A3, n3, c3, g3, rfl, hz3, hf3, hb3⟩; have T3 := Lib.hid ((T2.out.alloc _).keep hb3); (obtain ⟨k0, k1, l0, l1, _⟩ := (Bl2.new _ _ _ _).keep hb3); have HZ := Lib.hid hz3; obtain ⟨⟨i0, i1, _, _, _⟩, ⟨j0, j1, _, _, _⟩, _⟩ := id T3.out; clear hb3 hz3 hf3))
  all_goals
    rcases HZ.out.cases with ⟨q0, q1⟩ | ⟨q0, q1, q2⟩ | ⟨q0, q1, q2⟩
    · have E : Hid (r = 0) := HR.out.trans (SZ.out.1 (by omega))
      subst q1
      clear q0
      go_wp2_with fail
      go_ret
      exact ⟨dret_int E.out.symm, by first | exact (T3.out.bel.alloc T3.out.bel.size _) | exact (T3.out.bel.setCell (by first | exact T2.out.bel.size | (simp; done) | (simp; omega)) _).setCell (by first | exact T2.out.bel.size | (simp; done) | (simp; omega)) _⟩
    · have E : Hid (r = -1) := HR.out.trans (SZ.out.2.1 q0)
      subst q2
      have t0 : ((n3 : Int) == 0) = false := beq_eq_false_iff_ne.2 (by omega)
      clear q0
      go_wp2_with fail
      go_ret
      exact ⟨dret_int E.out.symm, by first | exact (T3.out.bel.alloc T3.out.bel.size _) | exact (T3.out.bel.setCell (by first | exact T2.out.bel.size | (simp; done) | (simp; omega)) _).setCell (by first | exact T2.out.bel.size | (simp; done) | (simp; omega)) _⟩
    · have E : Hid (r = 1) := HR.out.trans (SZ.out.2.2 q0)
      subst q2
      have t0 : ((n3 : Int) == 0) = false := beq_eq_false_iff_ne.2 (by omega)
      clear q0
      go_wp2_with fail
      go_ret
      exact ⟨dret_int E.out.symm, by first | exact (T3.out.bel.alloc T3.out.bel.size _) | exact (T3.out.bel.setCell (by first | exact T2.out.bel.size | (simp; done) | (simp; omega)) _).setCell (by first | exact T2.out.bel.size | (simp; done) | (simp; omega)) _⟩

/-- the quotient rounded down, of signs and absolute values -/
theorem qdn_abs (x y : Int) (hy : y ≠ 0) : qdn x y = if decide (x < 0) = decide (y < 0) then ((x.natAbs / y.natAbs : Nat) : Int) else -((x.natAbs / y.natAbs + (if x.natAbs % y.natAbs = 0 then 0 else 1) : Nat) : Int) := by
  have hB : 0 < y.natAbs := by omega
  obtain ⟨e1, e2⟩ := ediv_of_nat x.natAbs y.natAbs hB
  unfold qdn
  by_cases h0 : 0 < y
  · rw [if_pos h0]
    have hyv : y = (y.natAbs : Int) := by omega
    have d2 : decide (y < 0) = false := decide_eq_false (by omega)
    by_cases hx : x < 0
    · have d1 : decide (x < 0) = true := decide_eq_true hx
      have hxv : x = -(x.natAbs : Int) := by omega
      rw [d1, d2, if_neg (by simp)]
      conv => lhs; rw [hyv, hxv]
      rw [e2]
      split <;> simp
    · have d1 : decide (x < 0) = false := decide_eq_false hx
      have hxv : x = (x.natAbs : Int) := by omega
      rw [d1, d2, if_pos rfl]
      conv => lhs; rw [hyv, hxv]
      rw [e1]
  · rw [if_neg h0]
    have hyv : -y = (y.natAbs : Int) := by omega
    have d2 : decide (y < 0) = true := decide_eq_true (by omega)
    rw [hyv]
    by_cases hx : x < 0
    · have d1 : decide (x < 0) = true := decide_eq_true hx
      have hxv : -x = (x.natAbs : Int) := by omega
      rw [d1, d2, if_pos rfl, hxv, e1]
    · have d1 : decide (x < 0) = false := decide_eq_false hx
      have hxv : x = (x.natAbs : Int) := by omega
      rw [d1, d2, if_neg (by simp)]
      conv => lhs; rw [hxv]
      rw [e2]
      split <;> simp

set_option maxHeartbeats 4000000 in
theorem down_any (A B : Option Addr) (n c m d : Nat) (g h : Bool) (x y : Int) (w : World) (hx : NZ w A n c g x) (hy : NZ w B m d h y) (h0 : y ≠ 0) (sx : Sm x) (sy : Sm y) :
    Calls Try.prog 35 #[.agg #[.slice A n c, .bool g], .agg #[.slice B m d, .bool h]] w (RetZ w (qdn x y)) := by
  have Q := qdn_abs x y h0
  rw [← hx.sgn, ← hy.sgn] at Q
  unfold Sm at sx sy
  have hv0 : y.natAbs ≠ 0 := by omega
  obtain ⟨a, ha⟩ : ∃ a, a = x.natAbs := ⟨_, rfl⟩
  obtain ⟨b, hb⟩ : ∃ b, b = y.natAbs := ⟨_, rfl⟩
  have DA := hx.dig
  have DB := hy.dig
  rw [← ha] at DA sx Q
  rw [← hb] at DB sy Q hv0
  have HA := Lib.hid DA
  have HB := Lib.hid DB
  clear hx hy ha hb DA DB
  have SX := Lib.hid sx
  have SY := Lib.hid sy
  have H0 := Lib.hid hv0
  clear sx sy hv0
  obtain ⟨z, hz⟩ : ∃ z, z = qdn x y := ⟨_, rfl⟩
  rw [← hz] at Q ⊢
  clear hz
  have CO : Hid (∀ wx, Below w.heap.size w wx → Calls Try.prog 52 #[.slice A n c, .slice B m d] wx (Ret2 wx (dgs (a / b)) (dgs (a % b)))) := by
    intro wx hb
    have := over_any A B n m c d (dgs a) (dgs b) wx (HA.out.keep hb) (can_dgs a).ok ⟨HB.out.keep hb, can_dgs b, by rw [val_dgs]; exact Nat.pos_of_ne_zero H0.out, by have := SY.out; omega⟩ (by have := SX.out; omega)
    rw [val_dgs, val_dgs] at this
    exact this
  have QL : Hid ((dgs (a / b)).length ≤ 400000) := Nat.le_trans (dgs_len_mono (Nat.div_le_self _ _)) SX.out
  by_cases hgh : g = h
  · rw [if_pos hgh] at Q
    have t0 : (g == h) = true := beq_iff_eq.2 hgh
    have F : Hid (∀ w' A' n' c', Dig w' A' n' c' (dgs (a / b)) → NZ w' A' n' c' false z) := by
      intro w' A' n' c' hd
      rw [Q]
      exact ⟨by rw [Int.natAbs_natCast]; exact hd, (decide_eq_false (by have := Int.natCast_nonneg (a / b); omega)).symm⟩
    clear Q hgh
    go_enter Try.func35, Try.ntmps35
    go_wp2_with fail
    refine (CO.out _ ((((Below.refl w.heap.size w).alloc (Nat.le_refl _) _).alloc (by simp) _).alloc (by simp; omega) _)).mono ?_
    rintro e w1 ⟨A1, n1, c1, A2, n2, c2, rfl, hd1, hf1, hd2, hf2, hb1⟩
    obtain ⟨R0, R1, R2, hbw⟩ := bl3p hb1
    obtain ⟨i0, i1, _, _, _⟩ := id R0
    obtain ⟨j0, j1, _, _, _⟩ := id R1
    obtain ⟨k0, k1, l0, l1, _⟩ := id R2
    have HW := Lib.hid hbw
    have HD := Lib.hid hd1
    have HF : Hid (∀ ad, A1 = some ad → w.heap.size + 1 + 1 < ad.block) := fun ad e => by have := hf1 ad e; simp at this; omega
    clear hb1 hbw hd1 hf1 hd2 hf2
    go_wp2_with fail
    obtain ⟨s0, s1⟩ := store2 k0 k1 (.slice A1 n1 c1) (.bool false)
    refine bodyPost_ret (v := .agg #[.slice A1 n1 c1, .bool false]) (by simp [results, Try.results35, go_sem, s0, s1]) rfl ?_
    exact retz_fin (F.out _ _ _ _ HD.out) HF.out HW.out (by omega)
  · rw [if_neg hgh] at Q
    have t0 : (g == h) = false := beq_eq_false_iff_ne.2 hgh
    by_cases hr : a % b = 0
    · rw [if_pos hr, Nat.add_zero] at Q
      obtain ⟨g', hg'⟩ : ∃ g', g' = decide (z < 0) := ⟨_, rfl⟩
      have SG : Hid (∀ wx A2 n2 c2, Dig wx A2 n2 c2 (dgs (a / b)) → Calls Try.prog 42 #[.agg #[.slice A2 n2 c2, .bool true]] wx fun e w' => e = .returned (.agg #[.slice A2 n2 c2, .bool g']) ∧ Below wx.heap.size wx w') :=
        fun wx A2 n2 c2 hd => sign_any A2 n2 c2 (a / b) true g' z wx hd Q.symm hg'
      have F : Hid (∀ w' A' n' c', Dig w' A' n' c' (dgs (a / b)) → NZ w' A' n' c' g' z) := by
        intro w' A' n' c' hd
        exact ⟨by rw [Q, Int.natAbs_neg, Int.natAbs_natCast]; exact hd, hg'⟩
      have R0L : Hid ((dgs (a % b)).length = 0) := by show _ = _; rw [hr, dgs_zero]; rfl
      clear Q hgh hr hg'
      go_enter Try.func35, Try.ntmps35
      go_wp2_with fail
      refine (CO.out _ ((((Below.refl w.heap.size w).alloc (Nat.le_refl _) _).alloc (by simp) _).alloc (by simp; omega) _)).mono ?_
      rintro e w1 ⟨A1, n1, c1, A2, n2, c2, rfl, hd1, hf1, hd2, hf2, hb1⟩
      obtain ⟨R0, R1, R2, hbw⟩ := bl3p hb1
      obtain ⟨i0, i1, _, _, _⟩ := id R0
      obtain ⟨j0, j1, _, _, _⟩ := id R1
      have hn2 : n2 = 0 := hd2.len.trans R0L.out
      subst hn2
      have HW := Lib.hid hbw
      have HD := Lib.hid hd1
      have HF : Hid (∀ ad, A1 = some ad → w.heap.size + 1 + 1 < ad.block) := fun ad e => by have := hf1 ad e; simp at this; omega
      clear hb1 hbw hd1 hf1 hd2 hf2
      go_wp2_with fail
      refine (SG.out _ _ _ _ HD.out).mono ?_
      rintro e w2 ⟨rfl, hb2⟩
      obtain ⟨k0, k1, l0, l1, _⟩ := R2.keep hb2
      have HW2 := Lib.hid (HW.out.trans (hb2.mono HW.out.size))
      have HD2 := Lib.hid (HD.out.keep hb2)
      clear hb2
      go_wp2_with fail
      obtain ⟨s0, s1⟩ := store2 k0 k1 (.slice A1 n1 c1) (.bool g')
      refine bodyPost_ret (v := .agg #[.slice A1 n1 c1, .bool g']) (by simp [results, Try.results35, go_sem, s0, s1]) rfl ?_
      exact retz_fin (F.out _ _ _ _ HD2.out) HF.out HW2.out (by omega)
    · rw [if_neg hr] at Q
      obtain ⟨g', hg'⟩ : ∃ g', g' = decide (z < 0) := ⟨_, rfl⟩
      have SG : Hid (∀ wx A2 n2 c2, Dig wx A2 n2 c2 (dgs (a / b + 1)) → Calls Try.prog 42 #[.agg #[.slice A2 n2 c2, .bool true]] wx fun e w' => e = .returned (.agg #[.slice A2 n2 c2, .bool g']) ∧ Below wx.heap.size wx w') :=
        fun wx A2 n2 c2 hd => sign_any A2 n2 c2 (a / b + 1) true g' z wx hd Q.symm hg'
      have F : Hid (∀ w' A' n' c', Dig w' A' n' c' (dgs (a / b + 1)) → NZ w' A' n' c' g' z) := by
        intro w' A' n' c' hd
        exact ⟨by rw [Q, Int.natAbs_neg, Int.natAbs_natCast]; exact hd, hg'⟩
      have SU : Hid (∀ wx A1 n1 c1 B1, Dig wx A1 n1 c1 (dgs (a / b)) → Dig wx B1 1 1 [1] → Calls Try.prog 40 #[.slice A1 n1 c1, .slice B1 1 1] wx (Ret wx (dgs (a / b + 1)))) := by
        intro wx A1 n1 c1 B1 h1 h2
        have := sum_any A1 B1 n1 1 c1 1 (dgs (a / b)) [1] wx h1 h2 (can_dgs _) (by rw [can_single (m := 1) (by omega) (by omega)]; exact can_dgs 1) (by have := QL.out; omega) (by simp)
        rw [val_dgs, val_single] at this
        exact this
      have R0L : Hid (0 < (dgs (a % b)).length) := by show 0 < _; rw [dgs_len_pos]; exact hr
      clear Q hgh hr hg'
      go_enter Try.func35, Try.ntmps35
      go_wp2_with fail
      refine (CO.out _ ((((Below.refl w.heap.size w).alloc (Nat.le_refl _) _).alloc (by simp) _).alloc (by simp; omega) _)).mono ?_
      rintro e w1 ⟨A1, n1, c1, A2, n2, c2, rfl, hd1, hf1, hd2, hf2, hb1⟩
      obtain ⟨R0, R1, R2, hbw⟩ := bl3p hb1
      obtain ⟨i0, i1, _, _, _⟩ := id R0
      obtain ⟨j0, j1, _, _, _⟩ := id R1
      have hn2 : 0 < n2 := by have h1 := hd2.len; have h2 := R0L.out; omega
      have hn2' : (0 : Int) < (n2 : Int) := by omega
      have HW := Lib.hid hbw
      have HD := Lib.hid hd1
      have HL : Hid (w.heap.size + 1 + 1 < w1.heap.size) := R2.lt
      clear hb1 hbw hd1 hf1 hd2 hf2
      go_wp2_with fail
      refine (SU.out _ _ _ _ _ (HD.out.alloc _) (Dig.single _ _ _)).mono ?_
      rintro e w2 ⟨A3, n3, c3, rfl, hd3, hf3, hb3⟩
      have R3 := (R2.alloc _).keep hb3
      have HW2 : Hid (Below w.heap.size w w2) := (HW.out.alloc HW.out.size _).trans (hb3.mono (by have := HW.out.size; simp; omega))
      have HF : Hid (∀ ad, A3 = some ad → w.heap.size + 1 + 1 < ad.block) := fun ad e => by have h1 := hf3 ad e; have h2 := HL.out; simp at h1; omega
      have HD3 := Lib.hid hd3
      clear hd3 hf3 hb3
      go_wp2_with fail
      refine (SG.out _ _ _ _ HD3.out).mono ?_
      rintro e w3 ⟨rfl, hb4⟩
      obtain ⟨k0, k1, l0, l1, _⟩ := R3.keep hb4
      have HW3 := Lib.hid (HW2.out.trans (hb4.mono HW2.out.size))
      have HD4 := Lib.hid (HD3.out.keep hb4)
      clear hb4
      go_wp2_with fail
      obtain ⟨s0, s1⟩ := store2 k0 k1 (.slice A3 n3 c3) (.bool g')
      refine bodyPost_ret (v := .agg #[.slice A3 n3 c3, .bool g']) (by simp [results, Try.results35, go_sem, s0, s1]) rfl ?_
      exact retz_fin (F.out _ _ _ _ HD4.out) HF.out HW3.out (by omega)
end Go.Proofs.Ytpneahdbiikonaa
