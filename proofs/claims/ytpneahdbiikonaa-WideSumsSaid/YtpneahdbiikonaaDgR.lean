/- Contract of the reference's ToWide. -/
import Derived.Test.YtpneahdbiikonaaDgU
namespace Go.Proofs.Ytpneahdbiikonaa
open Go.RowKit
set_option linter.unusedVariables false
attribute [local go_sem ↓] Go.wp_at_zero Go.wp_at_succ

/-- what ToWide's walk asks of its callees: z the number, v its upper part, p the upper part's value, u the lower part -/
structure TwC (w : World) (A : Option Addr) (n c : Nat) (g : Bool) (z v p u : Int) (i : Int) (f : Bool) : Prop where
  fo : ∀ wx, Calls Try.prog 16 #[.int .i64 1152921504606846976] wx (RetZ wx 1152921504606846976)
  fd : ∀ wx A2 n2 c2 g2, Below w.heap.size w wx → NZ wx A2 n2 c2 g2 1152921504606846976 → Calls Try.prog 35 #[.agg #[.slice A n c, .bool g], .agg #[.slice A2 n2 c2, .bool g2]] wx (RetZ wx v)
  fi : ∀ wx A1 n1 c1 g1, NZ wx A1 n1 c1 g1 v → Calls Try.prog 19 #[.agg #[.slice A1 n1 c1, .bool g1]] wx fun e w' => e = .returned (.tuple #[.int .i64 i, .bool f]) ∧ Below wx.heap.size wx w'
  fm : ∀ wx A1 n1 c1 g1 A2 n2 c2 g2, NZ wx A1 n1 c1 g1 v → NZ wx A2 n2 c2 g2 1152921504606846976 → Calls Try.prog 28 #[.agg #[.slice A1 n1 c1, .bool g1], .agg #[.slice A2 n2 c2, .bool g2]] wx (RetZ wx p)
  fn : ∀ wx A1 n1 c1 g1, NZ wx A1 n1 c1 g1 p → Calls Try.prog 25 #[.agg #[.slice A1 n1 c1, .bool g1]] wx fun e w' => (∃ g2, e = .returned (.agg #[.slice A1 n1 c1, .bool g2]) ∧ NZ w' A1 n1 c1 g2 (-p)) ∧ Below wx.heap.size wx w'
  fp : ∀ wx A2 n2 c2 g2, Below w.heap.size w wx → NZ wx A2 n2 c2 g2 (-p) → Calls Try.prog 24 #[.agg #[.slice A n c, .bool g], .agg #[.slice A2 n2 c2, .bool g2]] wx (RetZ wx u)
  fj : ∀ wx A1 n1 c1 g1, NZ wx A1 n1 c1 g1 u → Calls Try.prog 19 #[.agg #[.slice A1 n1 c1, .bool g1]] wx fun e w' => e = .returned (.tuple #[.int .i64 u, .bool true]) ∧ Below wx.heap.size wx w'

theorem qdn_half (z M : Int) (hM : M = 1152921504606846976) : qdn z M = wh z := by unfold qdn wh; rw [hM]; exact if_pos (by omega)
theorem twC (w : World) (A : Option Addr) (n c : Nat) (g : Bool) (z : Int) (hx : NZ w A n c g z) (hz : z.natAbs < 85070591730234615865843651857942052865) : TwC w A n c g z (wh z) (wh z * 1152921504606846976) (wl z) (iV (wh z)) (isI (wh z)) := by
  have hb := wl_bd z
  have hv : (wh z).natAbs < 147573952589676412929 := by unfold wh; omega
  have sz : Sm z := sm_big (by omega)
  have s1 : Sm (wh z) := sm_big (by omega)
  have s2 : Sm (wh z * 1152921504606846976) := sm_big (by omega)
  have s3 : Sm (wl z) := sm_big (by omega)
  have e3 : z + -(wh z * 1152921504606846976) = wl z := by unfold wh wl; omega
  have i3 : isI (wl z) = true := by rw [isI_iff]; omega
  refine ⟨ofint_half, ?_, ?_, ?_, ?_, ?_, ?_⟩
  · obtain ⟨M, hM⟩ : ∃ M : Int, M = 1152921504606846976 := ⟨_, rfl⟩
    rw [← hM]
    intro wx A2 n2 c2 g2 hw q
    have := down_any A A2 n c n2 c2 g g2 z M wx (hx.keep hw) q (by omega) sz (sm_i64 (by omega) (by omega))
    rw [qdn_half z M hM] at this
    exact this
  · intro wx A1 n1 c1 g1 q
    exact isint_any A1 n1 c1 g1 _ wx q s1
  · obtain ⟨M, hM⟩ : ∃ M : Int, M = 1152921504606846976 := ⟨_, rfl⟩
    rw [← hM]
    intro wx A1 n1 c1 g1 A2 n2 c2 g2 q1 q2
    exact mul_any A1 A2 n1 c1 n2 c2 g1 g2 _ M wx q1 q2 s1 (sm_i64 (by omega) (by omega))
  · intro wx A1 n1 c1 g1 q
    refine (minus_any A1 n1 c1 g1 _ _ wx q rfl).mono ?_
    rintro e w' ⟨he, hb⟩
    exact ⟨⟨_, he, ⟨by rw [Int.natAbs_neg]; exact (q.keep hb).dig, rfl⟩⟩, hb⟩
  · intro wx A2 n2 c2 g2 hw q
    have := plus_any A A2 n c n2 c2 g g2 z _ wx (hx.keep hw) q sz s2.neg
    rw [e3] at this
    exact this
  · intro wx A1 n1 c1 g1 q
    have := isint_any A1 n1 c1 g1 _ wx q s3
    unfold iV at this
    rw [i3] at this
    exact this

theorem Two.far {w wr : World} {a0 a1 b0 b1 : Value} (h : Two w a0 a1 b0 b1 wr) {b : Nat} (hb : w.heap.size + 1 < b) (k : Nat) (u : Value) : Two w a0 a1 b0 b1 (wr.setCell ⟨b, k, none⟩ u) :=
  ⟨h.l.far ⟨b, k, none⟩ (by show b ≠ _; omega) u, h.r.far ⟨b, k, none⟩ (by show b ≠ _; omega) u, h.bel.setCell (by show _ ≤ b; omega) u⟩
/-- the state behind the call of IsInt: both blocks of the call's own, the block b of hi, and hi -/
structure TwS (w : World) (A : Option Addr) (n c : Nat) (g : Bool) (v : Int) (b : Nat) (A3 : Option Addr) (n3 c3 : Nat) (g3 : Bool) (wr : World) : Prop where
  t : Two w (.slice A n c) (.bool g) (.int .i64 0) (.int .i64 0) wr
  n : Bl2 wr b (.slice A3 n3 c3) (.bool g3)
  z : NZ wr A3 n3 c3 g3 v
theorem TwS.keep {w wr w2 : World} {A : Option Addr} {n c : Nat} {g : Bool} {v : Int} {b : Nat} {A3 : Option Addr} {n3 c3 : Nat} {g3 : Bool} (h : TwS w A n c g v b A3 n3 c3 g3 wr) (hb : Below wr.heap.size wr w2) : TwS w A n c g v b A3 n3 c3 g3 w2 := ⟨h.t.keep hb, h.n.keep hb, h.z.keep hb⟩
theorem TwS.drew {w wr : World} {A : Option Addr} {n c : Nat} {g : Bool} {v : Int} {b : Nat} {A3 : Option Addr} {n3 c3 : Nat} {g3 : Bool} (h : TwS w A n c g v b A3 n3 c3 g3 wr) : TwS w A n c g v b A3 n3 c3 g3 wr.drew := h.keep (Below.refl _ _).drew
theorem TwS.made {w w3 : World} {A : Option Addr} {n c : Nat} {g : Bool} {v : Int} {A3 : Option Addr} {n3 c3 : Nat} {g3 : Bool} (t : Two w (.slice A n c) (.bool g) (.int .i64 0) (.int .i64 0) w3) (z : NZ w3 A3 n3 c3 g3 v) (T : Nat) :
    TwS w A n c g v w3.heap.size A3 n3 c3 g3 (w3.alloc (.cells #[.slice A3 n3 c3, .bool g3] T)) := ⟨t.alloc _, Bl2.new _ _ _ _, z.alloc _⟩
theorem TwS.stored {w w3 : World} {A : Option Addr} {n c : Nat} {g : Bool} {v : Int} {b : Nat} {A3 : Option Addr} {n3 c3 : Nat} {g3 : Bool} {x y : Value} (t : Two w (.slice A n c) (.bool g) (.int .i64 0) (.int .i64 0) w3) (z : NZ w3 A3 n3 c3 g3 v) (hn : Bl2 w3 b x y)
    (hb : w.heap.size + 1 < b) (hf : ∀ ad, A3 = some ad → ad.block ≠ b) : TwS w A n c g v b A3 n3 c3 g3 ((w3.setCell ⟨b, 0, none⟩ (.slice A3 n3 c3)).setCell ⟨b, 1, none⟩ (.bool g3)) :=
  ⟨(t.far hb 0 _).far hb 1 _, (hn.set0 _).set1 _, (z.far ⟨b, 0, none⟩ hf _).far ⟨b, 1, none⟩ hf _⟩

set_option maxHeartbeats 8000000 in
theorem tw_noint (A : Option Addr) (n c : Nat) (g : Bool) (z v p u i : Int) (w : World) (C : TwC w A n c g z v p u i false) :
    Calls Try.prog 15 #[.agg #[.slice A n c, .bool g]] w fun e w' => e = .returned (.tuple #[.agg #[.int .i64 0, .int .i64 0], .int .i64 5]) ∧ Below w.heap.size w w' := by
  have HC := Lib.hid C
  clear C
  have n1 : ¬ (w.heap.size = w.heap.size + 1 + 1) := by omega
  have n2 : ¬ (w.heap.size + 1 + 1 = w.heap.size) := by omega
  have T := Lib.hid (Two.new w (.slice A n c) (.bool g) (.int .i64 0) (.int .i64 0) 30 23)
  go_enter Try.func15, Try.ntmps15
  go_wp2_with fail
  go_region_held3 (fun w' => w'.cell? ⟨w.heap.size, 0, none⟩ = some (.slice A n c) ∧ w'.cell? ⟨w.heap.size, 1, none⟩ = some (.bool g)) (go_keep)
    (first
    | (go_at_call 16; ((with_reducible refine (HC.out.fo (World.drew (World.alloc (World.alloc w _) _))).mono ?_); rintro e w2 ⟨A2, n2, c2, g2, rfl, hz2, hf2, hb2⟩); have T2 := Lib.hid (T.out.drew.keep hb2); have Z2 := Lib.hid hz2; have m1 : ¬ w.heap.size = w2.heap.size := (by have := T2.out.l.lt; omega); have m3 : ¬ w2.heap.size = w.heap.size := (by omega); obtain ⟨⟨i0, i1, _, _, _⟩, _, _⟩ := id T2.out; clear hb2 hz2 hf2)
    | (go_at_call 16; ((with_reducible refine (HC.out.fo (World.drew (World.alloc (World.alloc (World.alloc w _) _) _))).mono ?_); rintro e w2 ⟨A2, n2, c2, g2, rfl, hz2, hf2, hb2⟩); have T2 := Lib.hid ((T.out.alloc _).drew.keep hb2); have N2 := (Bl2.new _ _ _ _).drew.keep hb2; simp at N2; have N2 := Lib.hid N2; have Z2 := Lib.hid hz2; have m1 : ¬ w.heap.size = w2.heap.size := (by have := T2.out.l.lt; omega); have m3 : ¬ w2.heap.size = w.heap.size := (by omega); obtain ⟨⟨i0, i1, _, _, _⟩, _, _⟩ := id T2.out; clear hb2 hz2 hf2)
    | (go_at_call 35; ((with_reducible refine (HC.out.fd _ _ _ _ _ T2.out.bel Z2.out).mono ?_); rintro e w3 ⟨A3, n3, c3, g3, rfl, hz3, hf3, hb3⟩); have NF : Hid (∀ ad, A3 = some ad → ad.block ≠ w.heap.size + 1 + 1) := (fun ad e => by have h1 := hf3 ad e; have h2 := N2.out.lt; omega); have T3 := Lib.hid (T2.out.keep hb3); have N3 := Lib.hid (N2.out.keep hb3); obtain ⟨k0, k1, l0, l1, _⟩ := id N3.out; have Z3 := Lib.hid hz3; obtain ⟨⟨i0, i1, _, _, _⟩, _, _⟩ := id T3.out; clear hb3 hz3 hf3)
    | (go_at_call 35; ((with_reducible refine (HC.out.fd _ _ _ _ _ T2.out.bel Z2.out).mono ?_); rintro e w3 ⟨A3, n3, c3, g3, rfl, hz3, hf3, hb3⟩); have T3 := Lib.hid (T2.out.keep hb3); have Z3 := Lib.hid hz3; obtain ⟨⟨i0, i1, _, _, _⟩, _, _⟩ := id T3.out; clear hb3 hz3 hf3)
    | (go_at_call 35; ((with_reducible refine (HC.out.fd _ _ _ _ _ (T2.out.alloc _).bel (Z2.out.alloc _)).mono ?_); rintro e w3 ⟨A3, n3, c3, g3, rfl, hz3, hf3, hb3⟩); have T3 := Lib.hid ((T2.out.alloc _).keep hb3); have NF : Hid (∀ ad, A3 = some ad → ad.block ≠ w2.heap.size) := (fun ad e => by have h1 := hf3 ad e; simp at h1; omega); have N3 : Hid (Bl2 w3 w2.heap.size (.slice none 0 0) (.bool false)) := (Bl2.new _ _ _ _).keep hb3; obtain ⟨k0, k1, l0, l1, _⟩ := id N3.out; have Z3 := Lib.hid hz3; obtain ⟨⟨i0, i1, _, _, _⟩, _, _⟩ := id T3.out; clear hb3 hz3 hf3))
  · have S3 := Lib.hid (TwS.made T3.out Z3.out 30 : TwS w A n c g v w3.heap.size A3 n3 c3 g3 _)
    go_wp2_with fail
    refine (HC.out.fi _ _ _ _ _ S3.out.z).mono ?_
    rintro e w4 ⟨rfl, hb4⟩
    have S4 := Lib.hid (S3.out.keep hb4)
    clear hb4 S3
    obtain ⟨⟨⟨i0, i1, _, _, _⟩, ⟨r0, r1, r2, r3, _⟩, _⟩, ⟨k0, k1, l0, l1, _⟩, _⟩ := id S4.out
    go_wp2_with fail
    refine bodyPost_ret (v := .tuple #[.agg #[.int .i64 0, .int .i64 0], .int .i64 5]) (by simp [results, Try.results15, go_sem, r0, r1]) rfl ?_
    exact ⟨rfl, by first | exact S4.out.t.bel | exact (S4.out.t.bel.setCell (by simp) _).setCell (by simp) _⟩
  · have S3 := Lib.hid (TwS.stored T3.out Z3.out N3.out T2.out.r.lt NF.out : TwS w A n c g v w2.heap.size A3 n3 c3 g3 _)
    go_wp2_with fail
    refine (HC.out.fi _ _ _ _ _ S3.out.z).mono ?_
    rintro e w4 ⟨rfl, hb4⟩
    have S4 := Lib.hid (S3.out.keep hb4)
    clear hb4 S3
    obtain ⟨⟨⟨i0, i1, _, _, _⟩, ⟨r0, r1, r2, r3, _⟩, _⟩, ⟨k0, k1, l0, l1, _⟩, _⟩ := id S4.out
    go_wp2_with fail
    refine bodyPost_ret (v := .tuple #[.agg #[.int .i64 0, .int .i64 0], .int .i64 5]) (by simp [results, Try.results15, go_sem, r0, r1]) rfl ?_
    exact ⟨rfl, by first | exact S4.out.t.bel | exact (S4.out.t.bel.setCell (by simp) _).setCell (by simp) _⟩
  · have S3 := Lib.hid (TwS.stored T3.out Z3.out N3.out (by omega) NF.out : TwS w A n c g v (w.heap.size + 1 + 1) A3 n3 c3 g3 _)
    go_wp2_with fail
    refine (HC.out.fi _ _ _ _ _ S3.out.z).mono ?_
    rintro e w4 ⟨rfl, hb4⟩
    have S4 := Lib.hid (S3.out.keep hb4)
    clear hb4 S3
    obtain ⟨⟨⟨i0, i1, _, _, _⟩, ⟨r0, r1, r2, r3, _⟩, _⟩, ⟨k0, k1, l0, l1, _⟩, _⟩ := id S4.out
    go_wp2_with fail
    refine bodyPost_ret (v := .tuple #[.agg #[.int .i64 0, .int .i64 0], .int .i64 5]) (by simp [results, Try.results15, go_sem, r0, r1]) rfl ?_
    exact ⟨rfl, by first | exact S4.out.t.bel | exact (S4.out.t.bel.setCell (by simp) _).setCell (by simp) _⟩

set_option maxHeartbeats 8000000 in
theorem tw_low (A : Option Addr) (n c : Nat) (g : Bool) (z v p u i : Int) (w : World) (C : TwC w A n c g z v p u i true) (hi : i < -1152921504606846976) :
    Calls Try.prog 15 #[.agg #[.slice A n c, .bool g]] w fun e w' => e = .returned (.tuple #[.agg #[.int .i64 0, .int .i64 0], .int .i64 5]) ∧ Below w.heap.size w w' := by
  have HC := Lib.hid C
  clear C
  have n1 : ¬ (w.heap.size = w.heap.size + 1 + 1) := by omega
  have n2 : ¬ (w.heap.size + 1 + 1 = w.heap.size) := by omega
  have T := Lib.hid (Two.new w (.slice A n c) (.bool g) (.int .i64 0) (.int .i64 0) 30 23)
  go_enter Try.func15, Try.ntmps15
  go_wp2_with fail
  go_region_held3 (fun w' => w'.cell? ⟨w.heap.size, 0, none⟩ = some (.slice A n c) ∧ w'.cell? ⟨w.heap.size, 1, none⟩ = some (.bool g)) (go_keep)
    (first
    | (go_at_call 16; ((with_reducible refine (HC.out.fo (World.drew (World.alloc (World.alloc w _) _))).mono ?_); rintro e w2 ⟨A2, n2, c2, g2, rfl, hz2, hf2, hb2⟩); have T2 := Lib.hid (T.out.drew.keep hb2); have Z2 := Lib.hid hz2; have m1 : ¬ w.heap.size = w2.heap.size := (by have := T2.out.l.lt; omega); have m3 : ¬ w2.heap.size = w.heap.size := (by omega); obtain ⟨⟨i0, i1, _, _, _⟩, _, _⟩ := id T2.out; clear hb2 hz2 hf2)
    | (go_at_call 16; ((with_reducible refine (HC.out.fo (World.drew (World.alloc (World.alloc (World.alloc w _) _) _))).mono ?_); rintro e w2 ⟨A2, n2, c2, g2, rfl, hz2, hf2, hb2⟩); have T2 := Lib.hid ((T.out.alloc _).drew.keep hb2); have N2 := (Bl2.new _ _ _ _).drew.keep hb2; simp at N2; have N2 := Lib.hid N2; have Z2 := Lib.hid hz2; have m1 : ¬ w.heap.size = w2.heap.size := (by have := T2.out.l.lt; omega); have m3 : ¬ w2.heap.size = w.heap.size := (by omega); obtain ⟨⟨i0, i1, _, _, _⟩, _, _⟩ := id T2.out; clear hb2 hz2 hf2)
    | (go_at_call 35; ((with_reducible refine (HC.out.fd _ _ _ _ _ T2.out.bel Z2.out).mono ?_); rintro e w3 ⟨A3, n3, c3, g3, rfl, hz3, hf3, hb3⟩); have NF : Hid (∀ ad, A3 = some ad → ad.block ≠ w.heap.size + 1 + 1) := (fun ad e => by have h1 := hf3 ad e; have h2 := N2.out.lt; omega); have T3 := Lib.hid (T2.out.keep hb3); have N3 := Lib.hid (N2.out.keep hb3); obtain ⟨k0, k1, l0, l1, _⟩ := id N3.out; have Z3 := Lib.hid hz3; obtain ⟨⟨i0, i1, _, _, _⟩, _, _⟩ := id T3.out; clear hb3 hz3 hf3)
    | (go_at_call 35; ((with_reducible refine (HC.out.fd _ _ _ _ _ T2.out.bel Z2.out).mono ?_); rintro e w3 ⟨A3, n3, c3, g3, rfl, hz3, hf3, hb3⟩); have T3 := Lib.hid (T2.out.keep hb3); have Z3 := Lib.hid hz3; obtain ⟨⟨i0, i1, _, _, _⟩, _, _⟩ := id T3.out; clear hb3 hz3 hf3)
    | (go_at_call 35; ((with_reducible refine (HC.out.fd _ _ _ _ _ (T2.out.alloc _).bel (Z2.out.alloc _)).mono ?_); rintro e w3 ⟨A3, n3, c3, g3, rfl, hz3, hf3, hb3⟩); have T3 := Lib.hid ((T2.out.alloc _).keep hb3); have NF : Hid (∀ ad, A3 = some ad → ad.block ≠ w2.heap.size) := (fun ad e => by have h1 := hf3 ad e; simp at h1; omega); have N3 : Hid (Bl2 w3 w2.heap.size (.slice none 0 0) (.bool false)) := (Bl2.new _ _ _ _).keep hb3; obtain ⟨k0, k1, l0, l1, _⟩ := id N3.out; have Z3 := Lib.hid hz3; obtain ⟨⟨i0, i1, _, _, _⟩, _, _⟩ := id T3.out; clear hb3 hz3 hf3))
  · have S3 := Lib.hid (TwS.made T3.out Z3.out 30 : TwS w A n c g v w3.heap.size A3 n3 c3 g3 _)
    go_wp2_with fail
    refine (HC.out.fi _ _ _ _ _ S3.out.z).mono ?_
    rintro e w4 ⟨rfl, hb4⟩
    have S4 := Lib.hid (S3.out.keep hb4)
    clear hb4 S3
    obtain ⟨⟨⟨i0, i1, _, _, _⟩, ⟨r0, r1, r2, r3, _⟩, _⟩, ⟨k0, k1, l0, l1, _⟩, _⟩ := id S4.out
    go_wp2_with fail
    refine bodyPost_ret (v := .tuple #[.agg #[.int .i64 0, .int .i64 0], .int .i64 5]) (by simp [results, Try.results15, go_sem, r0, r1]) rfl ?_
    exact ⟨rfl, by first | exact S4.out.t.bel | exact (S4.out.t.bel.setCell (by simp) _).setCell (by simp) _⟩
  · have S3 := Lib.hid (TwS.stored T3.out Z3.out N3.out T2.out.r.lt NF.out : TwS w A n c g v w2.heap.size A3 n3 c3 g3 _)
    go_wp2_with fail
    refine (HC.out.fi _ _ _ _ _ S3.out.z).mono ?_
    rintro e w4 ⟨rfl, hb4⟩
    have S4 := Lib.hid (S3.out.keep hb4)
    clear hb4 S3
    obtain ⟨⟨⟨i0, i1, _, _, _⟩, ⟨r0, r1, r2, r3, _⟩, _⟩, ⟨k0, k1, l0, l1, _⟩, _⟩ := id S4.out
    go_wp2_with fail
    refine bodyPost_ret (v := .tuple #[.agg #[.int .i64 0, .int .i64 0], .int .i64 5]) (by simp [results, Try.results15, go_sem, r0, r1]) rfl ?_
    exact ⟨rfl, by first | exact S4.out.t.bel | exact (S4.out.t.bel.setCell (by simp) _).setCell (by simp) _⟩
  · have S3 := Lib.hid (TwS.stored T3.out Z3.out N3.out (by omega) NF.out : TwS w A n c g v (w.heap.size + 1 + 1) A3 n3 c3 g3 _)
    go_wp2_with fail
    refine (HC.out.fi _ _ _ _ _ S3.out.z).mono ?_
    rintro e w4 ⟨rfl, hb4⟩
    have S4 := Lib.hid (S3.out.keep hb4)
    clear hb4 S3
    obtain ⟨⟨⟨i0, i1, _, _, _⟩, ⟨r0, r1, r2, r3, _⟩, _⟩, ⟨k0, k1, l0, l1, _⟩, _⟩ := id S4.out
    go_wp2_with fail
    refine bodyPost_ret (v := .tuple #[.agg #[.int .i64 0, .int .i64 0], .int .i64 5]) (by simp [results, Try.results15, go_sem, r0, r1]) rfl ?_
    exact ⟨rfl, by first | exact S4.out.t.bel | exact (S4.out.t.bel.setCell (by simp) _).setCell (by simp) _⟩

set_option maxHeartbeats 8000000 in
theorem tw_high (A : Option Addr) (n c : Nat) (g : Bool) (z v p u i : Int) (w : World) (C : TwC w A n c g z v p u i true) (hj : ¬ i < -1152921504606846976) (hi : 1152921504606846976 ≤ i) :
    Calls Try.prog 15 #[.agg #[.slice A n c, .bool g]] w fun e w' => e = .returned (.tuple #[.agg #[.int .i64 0, .int .i64 0], .int .i64 5]) ∧ Below w.heap.size w w' := by
  have HC := Lib.hid C
  clear C
  have n1 : ¬ (w.heap.size = w.heap.size + 1 + 1) := by omega
  have n2 : ¬ (w.heap.size + 1 + 1 = w.heap.size) := by omega
  have T := Lib.hid (Two.new w (.slice A n c) (.bool g) (.int .i64 0) (.int .i64 0) 30 23)
  go_enter Try.func15, Try.ntmps15
  go_wp2_with fail
  go_region_held3 (fun w' => w'.cell? ⟨w.heap.size, 0, none⟩ = some (.slice A n c) ∧ w'.cell? ⟨w.heap.size, 1, none⟩ = some (.bool g)) (go_keep)
    (first
    | (go_at_call 16; ((with_reducible refine (HC.out.fo (World.drew (World.alloc (World.alloc w _) _))).mono ?_); rintro e w2 ⟨A2, n2, c2, g2, rfl, hz2, hf2, hb2⟩); have T2 := Lib.hid (T.out.drew.keep hb2); have Z2 := Lib.hid hz2; have m1 : ¬ w.heap.size = w2.heap.size := (by have := T2.out.l.lt; omega); have m3 : ¬ w2.heap.size = w.heap.size := (by omega); obtain ⟨⟨i0, i1, _, _, _⟩, _, _⟩ := id T2.out; clear hb2 hz2 hf2)
    | (go_at_call 16; ((with_reducible refine (HC.out.fo (World.drew (World.alloc (World.alloc (World.alloc w _) _) _))).mono ?_); rintro e w2 ⟨A2, n2, c2, g2, rfl, hz2, hf2, hb2⟩); have T2 := Lib.hid ((T.out.alloc _).drew.keep hb2); have N2 := (Bl2.new _ _ _ _).drew.keep hb2; simp at N2; have N2 := Lib.hid N2; have Z2 := Lib.hid hz2; have m1 : ¬ w.heap.size = w2.heap.size := (by have := T2.out.l.lt; omega); have m3 : ¬ w2.heap.size = w.heap.size := (by omega); obtain ⟨⟨i0, i1, _, _, _⟩, _, _⟩ := id T2.out; clear hb2 hz2 hf2)
    | (go_at_call 35; ((with_reducible refine (HC.out.fd _ _ _ _ _ T2.out.bel Z2.out).mono ?_); rintro e w3 ⟨A3, n3, c3, g3, rfl, hz3, hf3, hb3⟩); have NF : Hid (∀ ad, A3 = some ad → ad.block ≠ w.heap.size + 1 + 1) := (fun ad e => by have h1 := hf3 ad e; have h2 := N2.out.lt; omega); have T3 := Lib.hid (T2.out.keep hb3); have N3 := Lib.hid (N2.out.keep hb3); obtain ⟨k0, k1, l0, l1, _⟩ := id N3.out; have Z3 := Lib.hid hz3; obtain ⟨⟨i0, i1, _, _, _⟩, _, _⟩ := id T3.out; clear hb3 hz3 hf3)
    | (go_at_call 35; ((with_reducible refine (HC.out.fd _ _ _ _ _ T2.out.bel Z2.out).mono ?_); rintro e w3 ⟨A3, n3, c3, g3, rfl, hz3, hf3, hb3⟩); have T3 := Lib.hid (T2.out.keep hb3); have Z3 := Lib.hid hz3; obtain ⟨⟨i0, i1, _, _, _⟩, _, _⟩ := id T3.out; clear hb3 hz3 hf3)
    | (go_at_call 35; ((with_reducible refine (HC.out.fd _ _ _ _ _ (T2.out.alloc _).bel (Z2.out.alloc _)).mono ?_); rintro e w3 ⟨A3, n3, c3, g3, rfl, hz3, hf3, hb3⟩); have T3 := Lib.hid ((T2.out.alloc _).keep hb3); have NF : Hid (∀ ad, A3 = some ad → ad.block ≠ w2.heap.size) := (fun ad e => by have h1 := hf3 ad e; simp at h1; omega); have N3 : Hid (Bl2 w3 w2.heap.size (.slice none 0 0) (.bool false)) := (Bl2.new _ _ _ _).keep hb3; obtain ⟨k0, k1, l0, l1, _⟩ := id N3.out; have Z3 := Lib.hid hz3; obtain ⟨⟨i0, i1, _, _, _⟩, _, _⟩ := id T3.out; clear hb3 hz3 hf3))
  · have S3 := Lib.hid (TwS.made T3.out Z3.out 30 : TwS w A n c g v w3.heap.size A3 n3 c3 g3 _)
    go_wp2_with fail
    refine (HC.out.fi _ _ _ _ _ S3.out.z).mono ?_
    rintro e w4 ⟨rfl, hb4⟩
    have S4 := Lib.hid (S3.out.keep hb4)
    clear hb4 S3
    obtain ⟨⟨⟨i0, i1, _, _, _⟩, ⟨r0, r1, r2, r3, _⟩, _⟩, ⟨k0, k1, l0, l1, _⟩, _⟩ := id S4.out
    go_wp2_with fail
    refine bodyPost_ret (v := .tuple #[.agg #[.int .i64 0, .int .i64 0], .int .i64 5]) (by simp [results, Try.results15, go_sem, r0, r1]) rfl ?_
    exact ⟨rfl, by first | exact S4.out.t.bel | exact (S4.out.t.bel.setCell (by simp) _).setCell (by simp) _⟩
  · have S3 := Lib.hid (TwS.stored T3.out Z3.out N3.out T2.out.r.lt NF.out : TwS w A n c g v w2.heap.size A3 n3 c3 g3 _)
    go_wp2_with fail
    refine (HC.out.fi _ _ _ _ _ S3.out.z).mono ?_
    rintro e w4 ⟨rfl, hb4⟩
    have S4 := Lib.hid (S3.out.keep hb4)
    clear hb4 S3
    obtain ⟨⟨⟨i0, i1, _, _, _⟩, ⟨r0, r1, r2, r3, _⟩, _⟩, ⟨k0, k1, l0, l1, _⟩, _⟩ := id S4.out
    go_wp2_with fail
    refine bodyPost_ret (v := .tuple #[.agg #[.int .i64 0, .int .i64 0], .int .i64 5]) (by simp [results, Try.results15, go_sem, r0, r1]) rfl ?_
    exact ⟨rfl, by first | exact S4.out.t.bel | exact (S4.out.t.bel.setCell (by simp) _).setCell (by simp) _⟩
  · have S3 := Lib.hid (TwS.stored T3.out Z3.out N3.out (by omega) NF.out : TwS w A n c g v (w.heap.size + 1 + 1) A3 n3 c3 g3 _)
    go_wp2_with fail
    refine (HC.out.fi _ _ _ _ _ S3.out.z).mono ?_
    rintro e w4 ⟨rfl, hb4⟩
    have S4 := Lib.hid (S3.out.keep hb4)
    clear hb4 S3
    obtain ⟨⟨⟨i0, i1, _, _, _⟩, ⟨r0, r1, r2, r3, _⟩, _⟩, ⟨k0, k1, l0, l1, _⟩, _⟩ := id S4.out
    go_wp2_with fail
    refine bodyPost_ret (v := .tuple #[.agg #[.int .i64 0, .int .i64 0], .int .i64 5]) (by simp [results, Try.results15, go_sem, r0, r1]) rfl ?_
    exact ⟨rfl, by first | exact S4.out.t.bel | exact (S4.out.t.bel.setCell (by simp) _).setCell (by simp) _⟩

set_option maxHeartbeats 8000000 in
theorem tw_yes (A : Option Addr) (n c : Nat) (g : Bool) (z v p u : Int) (w : World) (C : TwC w A n c g z v p u v true) (hj : ¬ v < -1152921504606846976) (hi : ¬ 1152921504606846976 ≤ v) :
    Calls Try.prog 15 #[.agg #[.slice A n c, .bool g]] w fun e w' => e = .returned (.tuple #[.agg #[.int .i64 v, .int .i64 u], .int .i64 0]) ∧ Below w.heap.size w w' := by
  have HC := Lib.hid C
  clear C
  have n1 : ¬ (w.heap.size = w.heap.size + 1 + 1) := by omega
  have n2 : ¬ (w.heap.size + 1 + 1 = w.heap.size) := by omega
  have T := Lib.hid (Two.new w (.slice A n c) (.bool g) (.int .i64 0) (.int .i64 0) 30 23)
  go_enter Try.func15, Try.ntmps15
  go_wp2_with fail
  go_region_held3 (fun w' => w'.cell? ⟨w.heap.size, 0, none⟩ = some (.slice A n c) ∧ w'.cell? ⟨w.heap.size, 1, none⟩ = some (.bool g)) (go_keep)
    (first
    | (go_at_call 16; ((with_reducible refine (HC.out.fo (World.drew (World.alloc (World.alloc w _) _))).mono ?_); rintro e w2 ⟨A2, n2, c2, g2, rfl, hz2, hf2, hb2⟩); have T2 := Lib.hid (T.out.drew.keep hb2); have Z2 := Lib.hid hz2; have m1 : ¬ w.heap.size = w2.heap.size := (by have := T2.out.l.lt; omega); have m3 : ¬ w2.heap.size = w.heap.size := (by omega); obtain ⟨⟨i0, i1, _, _, _⟩, _, _⟩ := id T2.out; clear hb2 hz2 hf2)
    | (go_at_call 16; ((with_reducible refine (HC.out.fo (World.drew (World.alloc (World.alloc (World.alloc w _) _) _))).mono ?_); rintro e w2 ⟨A2, n2, c2, g2, rfl, hz2, hf2, hb2⟩); have T2 := Lib.hid ((T.out.alloc _).drew.keep hb2); have N2 := (Bl2.new _ _ _ _).drew.keep hb2; simp at N2; have N2 := Lib.hid N2; have Z2 := Lib.hid hz2; have m1 : ¬ w.heap.size = w2.heap.size := (by have := T2.out.l.lt; omega); have m3 : ¬ w2.heap.size = w.heap.size := (by omega); obtain ⟨⟨i0, i1, _, _, _⟩, _, _⟩ := id T2.out; clear hb2 hz2 hf2)
    | (go_at_call 35; ((with_reducible refine (HC.out.fd _ _ _ _ _ T2.out.bel Z2.out).mono ?_); rintro e w3 ⟨A3, n3, c3, g3, rfl, hz3, hf3, hb3⟩); have NF : Hid (∀ ad, A3 = some ad → ad.block ≠ w.heap.size + 1 + 1) := (fun ad e => by have h1 := hf3 ad e; have h2 := N2.out.lt; omega); have T3 := Lib.hid (T2.out.keep hb3); have N3 := Lib.hid (N2.out.keep hb3); obtain ⟨k0, k1, l0, l1, _⟩ := id N3.out; have Z3 := Lib.hid hz3; obtain ⟨⟨i0, i1, _, _, _⟩, _, _⟩ := id T3.out; clear hb3 hz3 hf3)
    | (go_at_call 35; ((with_reducible refine (HC.out.fd _ _ _ _ _ T2.out.bel Z2.out).mono ?_); rintro e w3 ⟨A3, n3, c3, g3, rfl, hz3, hf3, hb3⟩); have T3 := Lib.hid (T2.out.keep hb3); have Z3 := Lib.hid hz3; obtain ⟨⟨i0, i1, _, _, _⟩, _, _⟩ := id T3.out; clear hb3 hz3 hf3)
    | (go_at_call 35; ((with_reducible refine (HC.out.fd _ _ _ _ _ (T2.out.alloc _).bel (Z2.out.alloc _)).mono ?_); rintro e w3 ⟨A3, n3, c3, g3, rfl, hz3, hf3, hb3⟩); have T3 := Lib.hid ((T2.out.alloc _).keep hb3); have NF : Hid (∀ ad, A3 = some ad → ad.block ≠ w2.heap.size) := (fun ad e => by have h1 := hf3 ad e; simp at h1; omega); have N3 : Hid (Bl2 w3 w2.heap.size (.slice none 0 0) (.bool false)) := (Bl2.new _ _ _ _).keep hb3; obtain ⟨k0, k1, l0, l1, _⟩ := id N3.out; have Z3 := Lib.hid hz3; obtain ⟨⟨i0, i1, _, _, _⟩, _, _⟩ := id T3.out; clear hb3 hz3 hf3))
  · have S3 := Lib.hid (TwS.made T3.out Z3.out 30 : TwS w A n c g v w3.heap.size A3 n3 c3 g3 _)
    go_wp2_with fail
    refine (HC.out.fi _ _ _ _ _ S3.out.z).mono ?_
    rintro e w4 ⟨rfl, hb4⟩
    have S4 := Lib.hid (S3.out.keep hb4)
    clear hb4 S3
    obtain ⟨⟨⟨i0, i1, _, _, _⟩, ⟨r0, r1, r2, r3, _⟩, _⟩, ⟨k0, k1, l0, l1, _⟩, _⟩ := id S4.out
    go_wp2_with fail
    go_region_held3 (fun w' => w'.cell? ⟨w.heap.size, 0, none⟩ = some (.slice A n c) ∧ w'.cell? ⟨w.heap.size, 1, none⟩ = some (.bool g) ∧ w'.cell? ⟨w3.heap.size, 0, none⟩ = some (.slice A3 n3 c3) ∧ w'.cell? ⟨w3.heap.size, 1, none⟩ = some (.bool g3)) (go_keep)
      (first
      | (go_at_call 16; refine (HC.out.fo _).mono ?_; rintro e w5 ⟨A5, n5, c5, g5, rfl, hz, hf, hb⟩; have S := Lib.hid (S4.out.drew.keep hb); have Z5 := Lib.hid hz; obtain ⟨⟨⟨i0, i1, _, _, _⟩, _, _⟩, ⟨k0, k1, l0, l1, _⟩, _⟩ := id S.out; clear hz hf hb)
      | (go_at_call 28; refine (HC.out.fm _ _ _ _ _ _ _ _ _ S.out.z Z5.out).mono ?_; rintro e w6 ⟨A6, n6, c6, g6, rfl, hz, hf, hb⟩; have S := Lib.hid (S.out.keep hb); have Z6 := Lib.hid hz; obtain ⟨⟨⟨i0, i1, _, _, _⟩, _, _⟩, ⟨k0, k1, l0, l1, _⟩, _⟩ := id S.out; clear hz hf hb)
      | (go_at_call 25; refine (HC.out.fn _ _ _ _ _ Z6.out).mono ?_; rintro e w7 ⟨⟨g7, rfl, hz⟩, hb⟩; have S := Lib.hid (S.out.keep hb); have Z7 := Lib.hid hz; obtain ⟨⟨⟨i0, i1, _, _, _⟩, _, _⟩, ⟨k0, k1, l0, l1, _⟩, _⟩ := id S.out; clear hz hb)
      | (go_at_call 24; refine (HC.out.fp _ _ _ _ _ S.out.t.bel Z7.out).mono ?_; rintro e w8 ⟨A8, n8, c8, g8, rfl, hz, hf, hb⟩; have S := Lib.hid (S.out.keep hb); have Z8 := Lib.hid hz; obtain ⟨⟨⟨i0, i1, _, _, _⟩, _, _⟩, ⟨k0, k1, l0, l1, _⟩, _⟩ := id S.out; clear hz hf hb)
      | (go_at_call 19; refine (HC.out.fj _ _ _ _ _ Z8.out).mono ?_; rintro e w9 ⟨rfl, hb⟩; have S := Lib.hid (S.out.keep hb); obtain ⟨⟨⟨i0, i1, _, _, _⟩, ⟨r0, r1, r2, r3, _⟩, _⟩, ⟨k0, k1, l0, l1, _⟩, _⟩ := id S.out; clear hb))
    go_wp2_with fail
    obtain ⟨s0, s1⟩ := store2 r0 r1 (.int .i64 v) (.int .i64 u)
    refine bodyPost_ret (v := .tuple #[.agg #[.int .i64 v, .int .i64 u], .int .i64 0]) (by simp [results, Try.results15, go_sem, s0, s1]) rfl ?_
    exact ⟨rfl, (S.out.t.bel.setCell (by simp) _).setCell (by simp) _⟩
  · have S3 := Lib.hid (TwS.stored T3.out Z3.out N3.out T2.out.r.lt NF.out : TwS w A n c g v w2.heap.size A3 n3 c3 g3 _)
    go_wp2_with fail
    refine (HC.out.fi _ _ _ _ _ S3.out.z).mono ?_
    rintro e w4 ⟨rfl, hb4⟩
    have S4 := Lib.hid (S3.out.keep hb4)
    clear hb4 S3
    obtain ⟨⟨⟨i0, i1, _, _, _⟩, ⟨r0, r1, r2, r3, _⟩, _⟩, ⟨k0, k1, l0, l1, _⟩, _⟩ := id S4.out
    go_wp2_with fail
    go_region_held3 (fun w' => w'.cell? ⟨w.heap.size, 0, none⟩ = some (.slice A n c) ∧ w'.cell? ⟨w.heap.size, 1, none⟩ = some (.bool g) ∧ w'.cell? ⟨w2.heap.size, 0, none⟩ = some (.slice A3 n3 c3) ∧ w'.cell? ⟨w2.heap.size, 1, none⟩ = some (.bool g3)) (go_keep)
      (first
      | (go_at_call 16; refine (HC.out.fo _).mono ?_; rintro e w5 ⟨A5, n5, c5, g5, rfl, hz, hf, hb⟩; have S := Lib.hid (S4.out.drew.keep hb); have Z5 := Lib.hid hz; obtain ⟨⟨⟨i0, i1, _, _, _⟩, _, _⟩, ⟨k0, k1, l0, l1, _⟩, _⟩ := id S.out; clear hz hf hb)
      | (go_at_call 28; refine (HC.out.fm _ _ _ _ _ _ _ _ _ S.out.z Z5.out).mono ?_; rintro e w6 ⟨A6, n6, c6, g6, rfl, hz, hf, hb⟩; have S := Lib.hid (S.out.keep hb); have Z6 := Lib.hid hz; obtain ⟨⟨⟨i0, i1, _, _, _⟩, _, _⟩, ⟨k0, k1, l0, l1, _⟩, _⟩ := id S.out; clear hz hf hb)
      | (go_at_call 25; refine (HC.out.fn _ _ _ _ _ Z6.out).mono ?_; rintro e w7 ⟨⟨g7, rfl, hz⟩, hb⟩; have S := Lib.hid (S.out.keep hb); have Z7 := Lib.hid hz; obtain ⟨⟨⟨i0, i1, _, _, _⟩, _, _⟩, ⟨k0, k1, l0, l1, _⟩, _⟩ := id S.out; clear hz hb)
      | (go_at_call 24; refine (HC.out.fp _ _ _ _ _ S.out.t.bel Z7.out).mono ?_; rintro e w8 ⟨A8, n8, c8, g8, rfl, hz, hf, hb⟩; have S := Lib.hid (S.out.keep hb); have Z8 := Lib.hid hz; obtain ⟨⟨⟨i0, i1, _, _, _⟩, _, _⟩, ⟨k0, k1, l0, l1, _⟩, _⟩ := id S.out; clear hz hf hb)
      | (go_at_call 19; refine (HC.out.fj _ _ _ _ _ Z8.out).mono ?_; rintro e w9 ⟨rfl, hb⟩; have S := Lib.hid (S.out.keep hb); obtain ⟨⟨⟨i0, i1, _, _, _⟩, ⟨r0, r1, r2, r3, _⟩, _⟩, ⟨k0, k1, l0, l1, _⟩, _⟩ := id S.out; clear hb))
    go_wp2_with fail
    obtain ⟨s0, s1⟩ := store2 r0 r1 (.int .i64 v) (.int .i64 u)
    refine bodyPost_ret (v := .tuple #[.agg #[.int .i64 v, .int .i64 u], .int .i64 0]) (by simp [results, Try.results15, go_sem, s0, s1]) rfl ?_
    exact ⟨rfl, (S.out.t.bel.setCell (by simp) _).setCell (by simp) _⟩
  · have S3 := Lib.hid (TwS.stored T3.out Z3.out N3.out (by omega) NF.out : TwS w A n c g v (w.heap.size + 1 + 1) A3 n3 c3 g3 _)
    go_wp2_with fail
    refine (HC.out.fi _ _ _ _ _ S3.out.z).mono ?_
    rintro e w4 ⟨rfl, hb4⟩
    have S4 := Lib.hid (S3.out.keep hb4)
    clear hb4 S3
    obtain ⟨⟨⟨i0, i1, _, _, _⟩, ⟨r0, r1, r2, r3, _⟩, _⟩, ⟨k0, k1, l0, l1, _⟩, _⟩ := id S4.out
    go_wp2_with fail
    go_region_held3 (fun w' => w'.cell? ⟨w.heap.size, 0, none⟩ = some (.slice A n c) ∧ w'.cell? ⟨w.heap.size, 1, none⟩ = some (.bool g) ∧ w'.cell? ⟨(w.heap.size + 1 + 1), 0, none⟩ = some (.slice A3 n3 c3) ∧ w'.cell? ⟨(w.heap.size + 1 + 1), 1, none⟩ = some (.bool g3)) (go_keep)
      (first
      | (go_at_call 16; refine (HC.out.fo _).mono ?_; rintro e w5 ⟨A5, n5, c5, g5, rfl, hz, hf, hb⟩; have S := Lib.hid (S4.out.drew.keep hb); have Z5 := Lib.hid hz; obtain ⟨⟨⟨i0, i1, _, _, _⟩, _, _⟩, ⟨k0, k1, l0, l1, _⟩, _⟩ := id S.out; clear hz hf hb)
      | (go_at_call 28; refine (HC.out.fm _ _ _ _ _ _ _ _ _ S.out.z Z5.out).mono ?_; rintro e w6 ⟨A6, n6, c6, g6, rfl, hz, hf, hb⟩; have S := Lib.hid (S.out.keep hb); have Z6 := Lib.hid hz; obtain ⟨⟨⟨i0, i1, _, _, _⟩, _, _⟩, ⟨k0, k1, l0, l1, _⟩, _⟩ := id S.out; clear hz hf hb)
      | (go_at_call 25; refine (HC.out.fn _ _ _ _ _ Z6.out).mono ?_; rintro e w7 ⟨⟨g7, rfl, hz⟩, hb⟩; have S := Lib.hid (S.out.keep hb); have Z7 := Lib.hid hz; obtain ⟨⟨⟨i0, i1, _, _, _⟩, _, _⟩, ⟨k0, k1, l0, l1, _⟩, _⟩ := id S.out; clear hz hb)
      | (go_at_call 24; refine (HC.out.fp _ _ _ _ _ S.out.t.bel Z7.out).mono ?_; rintro e w8 ⟨A8, n8, c8, g8, rfl, hz, hf, hb⟩; have S := Lib.hid (S.out.keep hb); have Z8 := Lib.hid hz; obtain ⟨⟨⟨i0, i1, _, _, _⟩, _, _⟩, ⟨k0, k1, l0, l1, _⟩, _⟩ := id S.out; clear hz hf hb)
      | (go_at_call 19; refine (HC.out.fj _ _ _ _ _ Z8.out).mono ?_; rintro e w9 ⟨rfl, hb⟩; have S := Lib.hid (S.out.keep hb); obtain ⟨⟨⟨i0, i1, _, _, _⟩, ⟨r0, r1, r2, r3, _⟩, _⟩, ⟨k0, k1, l0, l1, _⟩, _⟩ := id S.out; clear hb))
    go_wp2_with fail
    obtain ⟨s0, s1⟩ := store2 r0 r1 (.int .i64 v) (.int .i64 u)
    refine bodyPost_ret (v := .tuple #[.agg #[.int .i64 v, .int .i64 u], .int .i64 0]) (by simp [results, Try.results15, go_sem, s0, s1]) rfl ?_
    exact ⟨rfl, (S.out.t.bel.setCell (by simp) _).setCell (by simp) _⟩

theorem towide_any (A : Option Addr) (n c : Nat) (g : Bool) (z : Int) (w : World) (hx : NZ w A n c g z) (hz : z.natAbs < 85070591730234615865843651857942052865) :
    Calls Try.prog 15 #[.agg #[.slice A n c, .bool g]] w fun e w' => e = .returned (.tuple #[.agg #[.int .i64 (fitH z), .int .i64 (fitL z)], .int .i64 (fitE z)]) ∧ Below w.heap.size w w' := by
  have C := twC w A n c g z hx hz
  unfold fitH fitL fitE
  by_cases hf : wfit z = true
  · rw [if_pos hf, if_pos hf, if_pos hf]
    have hb := (wfit_iff z).1 hf
    have hi : isI (wh z) = true := by rw [isI_iff]; omega
    unfold iV at C
    rw [hi] at C
    exact tw_yes A n c g z _ _ _ w C (by omega) (by omega)
  · have hf' : wfit z = false := by simpa using hf
    rw [if_neg hf, if_neg hf, if_neg hf]
    have hb := (wfit_not z).1 hf'
    by_cases hi : isI (wh z) = true
    · unfold iV at C
      rw [hi] at C
      by_cases hlow : wh z < -1152921504606846976
      · exact tw_low A n c g z _ _ _ _ w C hlow
      · exact tw_high A n c g z _ _ _ _ w C hlow (by show _ ≤ wh z; omega)
    · have hi' : isI (wh z) = false := by simpa using hi
      rw [hi'] at C
      exact tw_noint A n c g z _ _ _ _ w C
end Go.Proofs.Ytpneahdbiikonaa
