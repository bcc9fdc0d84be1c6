/- Contracts of the reference's numbers: sign, Minus, Plus, Mul, Compare. -/
import Derived.Test.YtpneahdbiikonaaDoorDgO
import Derived.Test.YtpneahdbiikonaaDoorDgS
import Derived.Test.YtpneahdbiikonaaDoorWdM
import Derived.Deep.RegionHeld3
import Derived.Deep.DrawnRows
namespace Go.Proofs.YtpneahdbiikonaaDoor
open Go.RowKit
set_option linter.unusedVariables false
attribute [local go_sem ↓] Go.wp_at_zero Go.wp_at_succ

/-- a number as it lies in memory -/
structure NZ (w : World) (A : Option Addr) (n c : Nat) (g : Bool) (z : Int) : Prop where
  dig : Dig w A n c (dgs z.natAbs)
  sgn : g = decide (z < 0)
theorem NZ.keep {w w' : World} {A : Option Addr} {n c : Nat} {g : Bool} {z : Int} (h : NZ w A n c g z) (hb : Below w.heap.size w w') : NZ w' A n c g z := ⟨h.dig.keep hb, h.sgn⟩
theorem NZ.alloc {w : World} {A : Option Addr} {n c : Nat} {g : Bool} {z : Int} (h : NZ w A n c g z) (o : Obj) : NZ (w.alloc o) A n c g z := ⟨h.dig.alloc o, h.sgn⟩
def Sm (z : Int) : Prop := (dgs z.natAbs).length ≤ 400000
/-- what a function that returns a number leaves behind -/
def RetZ (w : World) (z : Int) (e : Ending) (w' : World) : Prop := ∃ A n c g, e = .returned (.agg #[.slice A n c, .bool g]) ∧ NZ w' A n c g z ∧ Fr w A ∧ Below w.heap.size w w'
def sv (g : Bool) (N : Nat) : Int := if g then -(N : Int) else (N : Int)
theorem sv_abs (g : Bool) (N : Nat) : (sv g N).natAbs = N := by unfold sv; cases g <;> simp
theorem NZ.sv {w : World} {A : Option Addr} {n c : Nat} {g : Bool} {z : Int} (h : NZ w A n c g z) : sv g z.natAbs = z := by
  have := h.sgn
  unfold Proofs.YtpneahdbiikonaaDoor.sv
  by_cases hz : z < 0
  · rw [decide_eq_true hz] at this; rw [this]; simp; omega
  · rw [decide_eq_false hz] at this; rw [this]; simp; omega
theorem NZ.mk' {w : World} {A : Option Addr} {n c : Nat} {g : Bool} {N : Nat} (h : Dig w A n c (dgs N)) (hg : g = true → N ≠ 0) : NZ w A n c g (Proofs.YtpneahdbiikonaaDoor.sv g N) := by
  refine ⟨by rw [sv_abs]; exact h, ?_⟩
  unfold Proofs.YtpneahdbiikonaaDoor.sv
  cases g
  · simp
  · have := hg rfl; simp; omega
theorem bcell {W w1 : World} (hb : Below W.heap.size W w1) : (∀ b o, b < W.heap.size → w1.cell? ⟨b, o, none⟩ = W.cell? ⟨b, o, none⟩) ∧ (∀ b o, b < W.heap.size → w1.frozen? ⟨b, o, none⟩ = W.frozen? ⟨b, o, none⟩) :=
  ⟨fun b o h => hb.cell (p := ⟨b, o, none⟩) h, fun b o h => hb.frozen (p := ⟨b, o, none⟩) h⟩
theorem Dig.any {w w' : World} {A : Option Addr} {n c : Nat} {l : List Nat} (h : Dig w A n c l) (hb : Below w.heap.size w w') : Dig w' A n c l := h.keep hb

theorem sv_neg (g : Bool) (N : Nat) : decide (sv g N < 0) = (g && decide (N ≠ 0)) := by
  unfold sv
  cases g
  · simp
  · rw [Bool.true_and, decide_eq_decide, if_pos rfl]; omega

theorem sign_any (A : Option Addr) (n c N : Nat) (g g' : Bool) (z : Int) (w : World) (h : Dig w A n c (dgs N)) (hz : sv g N = z) (hg : g' = decide (z < 0)) :
    Calls Tryd.prog 53 #[.agg #[.slice A n c, .bool g]] w fun e w' => e = .returned (.agg #[.slice A n c, .bool g']) ∧ Below w.heap.size w w' := by
  have hl := h.len
  rw [← hz, sv_neg] at hg
  clear h hz
  by_cases hN : N = 0
  · have hn : n = 0 := by rw [hl, hN, dgs_zero]; rfl
    have e : g' = false := by rw [hg, hN]; simp
    clear hl hg
    subst hn e
    go_enter Tryd.func53, Tryd.ntmps53
    go_wp2_with fail
    refine bodyPost_ret (v := .agg #[.slice A 0 c, .bool false]) (by simp [results, Tryd.results53, go_sem]) rfl ?_
    exact ⟨rfl, ((Below.refl _ _).alloc (Nat.le_refl _) _).alloc (by simp) _⟩
  · have hn : 0 < n := by rw [hl, dgs_len_pos]; exact hN
    have t0 : ((n : Int) == 0) = false := beq_eq_false_iff_ne.2 (by omega)
    have e : g' = g := by rw [hg]; simp [hN]
    clear hl hg
    subst e
    go_enter Tryd.func53, Tryd.ntmps53
    go_wp2_with fail
    refine bodyPost_ret (v := .agg #[.slice A n c, .bool g']) (by simp [results, Tryd.results53, go_sem]) rfl ?_
    exact ⟨rfl, ((Below.refl _ _).alloc (Nat.le_refl _) _).alloc (by simp) _⟩

theorem sv_not (g : Bool) (N : Nat) : sv (!g) N = -(sv g N) := by unfold sv; cases g <;> simp

/-- storing a number into the result's block -/
theorem store2 {w : World} {b : Nat} {u v : Value} (c0 : w.cell? ⟨b, 0, none⟩ = some u) (c1 : w.cell? ⟨b, 1, none⟩ = some v) (x y : Value) :
    (w.setCell ⟨b, 0, none⟩ x).cell? ⟨b, 0, none⟩ = some x ∧ ((w.setCell ⟨b, 0, none⟩ x).setCell ⟨b, 1, none⟩ y).cell? ⟨b, 1, none⟩ = some y :=
  ⟨World.cell?_setCell_same w _ x c0, World.cell?_setCell_same _ _ y ((World.cell?_setCell_other w _ _ x (by simp)).trans c1)⟩

theorem sv_add (g h : Bool) (a b : Nat) : sv g a + sv h b = if g = h then sv g (a + b) else if b ≤ a then sv g (a - b) else sv h (b - a) := by
  unfold sv
  cases g <;> cases h <;> simp <;> (try split) <;> omega

theorem NZ.zero_sgn {w : World} {A : Option Addr} {n c : Nat} {g : Bool} {z : Int} (h : NZ w A n c g z) : g = true → z.natAbs ≠ 0 := by
  intro e
  have := h.sgn
  rw [e] at this
  have := of_decide_eq_true this.symm
  omega

theorem b3d (w : World) (o1 o2 o3 : Obj) : Below w.heap.size w (((w.alloc o1).alloc o2).alloc o3).drew := ((((Below.refl w.heap.size w).alloc (Nat.le_refl _) o1).alloc (by simp) o2).alloc (by simp; omega) o3).drew
theorem b2d (w : World) (o1 o2 : Obj) : Below w.heap.size w ((w.alloc o1).alloc o2).drew := (((Below.refl w.heap.size w).alloc (Nat.le_refl _) o1).alloc (by simp) o2).drew
theorem Bl2.drew {w : World} {b : Nat} {x y : Value} (h : Bl2 w b x y) : Bl2 w.drew b x y := h.keep ((Below.refl _ _).drew)
theorem bl3 {w w2 : World} {a0 a1 b0 b1 c0 c1 : Value} {T U V : Nat} (hb : Below ((((w.alloc (.cells #[a0, a1] T)).alloc (.cells #[b0, b1] U)).alloc (.cells #[c0, c1] V)).drew).heap.size ((((w.alloc (.cells #[a0, a1] T)).alloc (.cells #[b0, b1] U)).alloc (.cells #[c0, c1] V)).drew) w2) :
    Bl2 w2 w.heap.size a0 a1 ∧ Bl2 w2 (w.heap.size + 1) b0 b1 ∧ Bl2 w2 (w.heap.size + 1 + 1) c0 c1 ∧ Below w.heap.size w w2 := by
  have h1 := (((Bl2.new w a0 a1 T).alloc (.cells #[b0, b1] U)).alloc (.cells #[c0, c1] V)).drew.keep hb
  have h2 := (((Bl2.new (w.alloc (.cells #[a0, a1] T)) b0 b1 U)).alloc (.cells #[c0, c1] V)).drew.keep hb
  have h3 := (Bl2.new ((w.alloc (.cells #[a0, a1] T)).alloc (.cells #[b0, b1] U)) c0 c1 V).drew.keep hb
  simp at h1 h2 h3
  exact ⟨h1, h2, h3, (b3d _ _ _ _).trans (hb.mono (by simp; omega))⟩
theorem bl3p {w w2 : World} {a0 a1 b0 b1 c0 c1 : Value} {T U V : Nat} (hb : Below (((w.alloc (.cells #[a0, a1] T)).alloc (.cells #[b0, b1] U)).alloc (.cells #[c0, c1] V)).heap.size (((w.alloc (.cells #[a0, a1] T)).alloc (.cells #[b0, b1] U)).alloc (.cells #[c0, c1] V)) w2) :
    Bl2 w2 w.heap.size a0 a1 ∧ Bl2 w2 (w.heap.size + 1) b0 b1 ∧ Bl2 w2 (w.heap.size + 1 + 1) c0 c1 ∧ Below w.heap.size w w2 := by
  have h1 := (((Bl2.new w a0 a1 T).alloc (.cells #[b0, b1] U)).alloc (.cells #[c0, c1] V)).keep hb
  have h2 := (((Bl2.new (w.alloc (.cells #[a0, a1] T)) b0 b1 U)).alloc (.cells #[c0, c1] V)).keep hb
  have h3 := (Bl2.new ((w.alloc (.cells #[a0, a1] T)).alloc (.cells #[b0, b1] U)) c0 c1 V).keep hb
  simp at h1 h2 h3
  exact ⟨h1, h2, h3, ((((Below.refl w.heap.size w).alloc (Nat.le_refl _) _).alloc (by simp) _).alloc (by simp; omega) _).trans (hb.mono (by simp; omega))⟩
/-- the end of a function that returns a number: the result is stored into the block b of its own -/
theorem retz_fin {w w2 : World} {A2 : Option Addr} {n2 c2 b : Nat} {g : Bool} {z : Int} (hd : NZ w2 A2 n2 c2 g z) (hf : ∀ ad, A2 = some ad → b < ad.block) (hb : Below w.heap.size w w2) (h1 : w.heap.size ≤ b) :
    RetZ w z (.returned (.agg #[.slice A2 n2 c2, .bool g])) ((w2.setCell ⟨b, 0, none⟩ (.slice A2 n2 c2)).setCell ⟨b, 1, none⟩ (.bool g)) :=
  ⟨_, _, _, _, rfl, ⟨(hd.dig.far ⟨b, 0, none⟩ (fun ad e => by have := hf ad e; show ad.block ≠ b; omega) _).far ⟨b, 1, none⟩ (fun ad e => by have := hf ad e; show ad.block ≠ b; omega) _, hd.sgn⟩,
    fun ad e => by have := hf ad e; omega, (hb.setCell h1 _).setCell h1 _⟩
theorem three_bel {w w2 : World} {o1 o2 o3 : Obj} (hb : Below (((w.alloc o1).alloc o2).alloc o3).heap.size (((w.alloc o1).alloc o2).alloc o3) w2) : Below w.heap.size w w2 :=
  ((((Below.refl w.heap.size w).alloc (Nat.le_refl _) o1).alloc (by simp) o2).alloc (by simp; omega) o3).trans (hb.mono (by simp; omega))

set_option maxHeartbeats 4000000 in
theorem plus_any (A B : Option Addr) (n c m d : Nat) (g h : Bool) (x y : Int) (w : World) (hx : NZ w A n c g x) (hy : NZ w B m d h y) (sx : Sm x) (sy : Sm y) :
    Calls Tryd.prog 35 #[.agg #[.slice A n c, .bool g], .agg #[.slice B m d, .bool h]] w (RetZ w (x + y)) := by
  have hgz := hx.zero_sgn
  have hhz := hy.zero_sgn
  have e0 : x + y = sv g x.natAbs + sv h y.natAbs := by rw [hx.sv, hy.sv]
  rw [sv_add] at e0
  unfold Sm at sx sy
  obtain ⟨a, ha⟩ : ∃ a, a = x.natAbs := ⟨_, rfl⟩
  obtain ⟨b, hb⟩ : ∃ b, b = y.natAbs := ⟨_, rfl⟩
  have DA := hx.dig
  have DB := hy.dig
  rw [← ha] at DA sx e0 hgz
  rw [← hb] at DB sy e0 hhz
  have HA := Lib.hid DA
  have HB := Lib.hid DB
  clear hx hy ha hb DA DB
  have SX := Lib.hid sx
  have SY := Lib.hid sy
  clear sx sy
  by_cases hgh : g = h
  · rw [if_pos hgh] at e0
    have C : Hid (∀ wx, Below w.heap.size w wx → Calls Tryd.prog 52 #[.slice A n c, .slice B m d] wx (Ret wx (dgs (a + b)))) := by
      intro wx hb
      have := sum_any A B n m c d _ _ wx (HA.out.keep hb) (HB.out.keep hb) (can_dgs a) (can_dgs b) (by have := SX.out; omega) (by have := SY.out; omega)
      rw [val_dgs, val_dgs] at this
      exact this
    have F : Hid (∀ w' A' n' c', Dig w' A' n' c' (dgs (a + b)) → NZ w' A' n' c' g (x + y)) := by
      intro w' A' n' c' hd
      rw [e0]
      exact NZ.mk' hd (fun e => by have := hgz e; omega)
    clear e0 hgz hhz
    subst hgh
    have t0 : (g == g) = true := by simp
    have n1 : ¬ (w.heap.size = w.heap.size + 1 + 1) := by omega
    have n2 : ¬ (w.heap.size + 1 + 1 = w.heap.size) := by omega
    go_enter Tryd.func35, Tryd.ntmps35
    go_wp2_with fail
    go_region_held3 (fun w' => w'.cell? ⟨w.heap.size, 0, none⟩ = some (.slice A n c) ∧ w'.cell? ⟨w.heap.size, 1, none⟩ = some (.bool g) ∧ w'.cell? ⟨w.heap.size + 1, 0, none⟩ = some (.slice B m d)) (go_keep)
      (first | (go_at_call 52; refine (C.out _ (b3d _ _ _ _)).mono ?_; rintro e w2 ⟨A2, n2, c2, rfl, hd2, hf2, hb2⟩; obtain ⟨⟨i0, i1, _, _, _⟩, ⟨j0, j1, _, _, _⟩, ⟨k0, k1, l0, l1, _⟩, hbw⟩ := bl3 hb2; have HD := Lib.hid hd2; have HF := Lib.hid hf2; have HW := Lib.hid hbw; clear hd2 hf2 hbw hb2))
    go_wp2_with fail
    obtain ⟨s0, s1⟩ := store2 k0 k1 (.slice A2 n2 c2) (.bool g)
    refine bodyPost_ret (v := .agg #[.slice A2 n2 c2, .bool g]) (by simp [results, Tryd.results35, go_sem, s0, s1]) rfl ?_
    exact retz_fin (F.out _ _ _ _ HD.out) (fun ad e => by have := HF.out ad e; simp at this; omega) HW.out (by omega)
  · rw [if_neg hgh] at e0
    have t0 : (g == h) = false := beq_eq_false_iff_ne.2 hgh
    have OC : Hid (∀ wx, Below w.heap.size w wx → Calls Tryd.prog 39 #[.slice A n c, .slice B m d] wx fun e w' => e = .returned (.int .i64 (ord a b)) ∧ Below wx.heap.size wx w') := by
      intro wx hb
      have := order_any A B n m c d _ _ wx (HA.out.keep hb) (HB.out.keep hb) (can_dgs a) (can_dgs b) (by have := SX.out; omega) (by have := SY.out; omega)
      rw [val_dgs, val_dgs] at this
      exact this
    have n1 : ¬ (w.heap.size = w.heap.size + 1 + 1) := by omega
    have n2 : ¬ (w.heap.size + 1 + 1 = w.heap.size) := by omega
    by_cases hab : b ≤ a
    · rw [if_pos hab] at e0
      have ho := ord_nn.2 hab
      obtain ⟨ov, hov⟩ : ∃ ov, ov = ord a b := ⟨_, rfl⟩
      rw [← hov] at ho OC
      have C : Hid (∀ wx, Below w.heap.size w wx → Calls Tryd.prog 41 #[.slice A n c, .slice B m d] wx (Ret wx (dgs (a - b)))) := by
        intro wx hb
        have := less_any A B n m c d _ _ wx (HA.out.keep hb) (HB.out.keep hb) (can_dgs a).ok (can_dgs b) (by rw [val_dgs, val_dgs]; exact hab) (by have := SX.out; omega) (by have := SY.out; omega)
        rw [val_dgs, val_dgs] at this
        exact this
      obtain ⟨g', hg'⟩ : ∃ g', g' = decide (x + y < 0) := ⟨_, rfl⟩
      have SG : Hid (∀ wx A2 n2 c2, Dig wx A2 n2 c2 (dgs (a - b)) → Calls Tryd.prog 53 #[.agg #[.slice A2 n2 c2, .bool g]] wx fun e w' => e = .returned (.agg #[.slice A2 n2 c2, .bool g']) ∧ Below wx.heap.size wx w') :=
        fun wx A2 n2 c2 hd => sign_any A2 n2 c2 (a - b) g g' (x + y) wx hd e0.symm hg'
      have F : Hid (∀ w' A' n' c', Dig w' A' n' c' (dgs (a - b)) → NZ w' A' n' c' g' (x + y)) := by
        intro w' A' n' c' hd
        exact ⟨by rw [e0, sv_abs]; exact hd, hg'⟩
      clear e0 hgz hhz hov hgh hab hg'
      go_enter Tryd.func35, Tryd.ntmps35
      go_wp2_with fail
      refine (OC.out _ ((((Below.refl w.heap.size w).alloc (Nat.le_refl _) _).alloc (by simp) _).alloc (by simp; omega) _)).mono ?_
      rintro e w1 ⟨rfl, hb1⟩
      obtain ⟨R0, R1, R2, hbw⟩ := bl3p hb1
      obtain ⟨i0, i1, _, _, _⟩ := id R0
      obtain ⟨j0, j1, _, _, _⟩ := id R1
      obtain ⟨k0, k1, l0, l1, _⟩ := id R2
      have HW := Lib.hid hbw
      have HL : Hid (w.heap.size + 1 + 1 < w1.drew.heap.size) := R2.lt
      clear hb1 hbw
      go_wp2_with fail
      go_region_held3 (fun w' => w'.cell? ⟨w.heap.size, 0, none⟩ = some (.slice A n c) ∧ w'.cell? ⟨w.heap.size, 1, none⟩ = some (.bool g) ∧ w'.cell? ⟨w.heap.size + 1, 0, none⟩ = some (.slice B m d)) (go_keep)
        (first
        | (go_at_call 41; refine (C.out _ HW.out.drew).mono ?_; rintro e w2 ⟨A2, n2, c2, rfl, hd2, hf2, hb2⟩; have R0 := R0.drew.keep hb2; have R1 := R1.drew.keep hb2; have R2 := R2.drew.keep hb2; have HW2 := Lib.hid (HW.out.drew.trans (hb2.mono HW.out.drew.size)); obtain ⟨p0, p1, _, _, _⟩ := id R0; obtain ⟨q0, q1, _, _, _⟩ := id R1; have HD := Lib.hid hd2; have HF : Hid (∀ ad, A2 = some ad → w.heap.size + 1 + 1 < ad.block) := (fun ad e => Nat.lt_of_lt_of_le HL.out (hf2 ad e)); clear hd2 hf2 hb2)
        | (go_at_call 53; refine (SG.out _ _ _ _ HD.out).mono ?_; rintro e w3 ⟨rfl, hb3⟩; have R0 := R0.keep hb3; have R1 := R1.keep hb3; have R2 := R2.keep hb3; have HW3 := Lib.hid (HW2.out.trans (hb3.mono HW2.out.size)); have HD := Lib.hid (HD.out.keep hb3); obtain ⟨p0, p1, _, _, _⟩ := id R0; obtain ⟨q0, q1, _, _, _⟩ := id R1; obtain ⟨k0, k1, l0, l1, _⟩ := id R2; clear hb3))
      go_wp2_with fail
      obtain ⟨s0, s1⟩ := store2 k0 k1 (.slice A2 n2 c2) (.bool g')
      refine bodyPost_ret (v := .agg #[.slice A2 n2 c2, .bool g']) (by simp [results, Tryd.results35, go_sem, s0, s1]) rfl ?_
      exact retz_fin (F.out _ _ _ _ HD.out) HF.out HW3.out (by omega)
    · rw [if_neg hab] at e0
      have hba : a ≤ b := by omega
      have ho : ¬ 0 ≤ ord a b := fun z => hab (ord_nn.1 z)
      obtain ⟨ov, hov⟩ : ∃ ov, ov = ord a b := ⟨_, rfl⟩
      rw [← hov] at ho OC
      have C : Hid (∀ wx, Below w.heap.size w wx → Calls Tryd.prog 41 #[.slice B m d, .slice A n c] wx (Ret wx (dgs (b - a)))) := by
        intro wx hb
        have := less_any B A m n d c _ _ wx (HB.out.keep hb) (HA.out.keep hb) (can_dgs b).ok (can_dgs a) (by rw [val_dgs, val_dgs]; exact hba) (by have := SY.out; omega) (by have := SX.out; omega)
        rw [val_dgs, val_dgs] at this
        exact this
      obtain ⟨g', hg'⟩ : ∃ g', g' = decide (x + y < 0) := ⟨_, rfl⟩
      have SG : Hid (∀ wx A2 n2 c2, Dig wx A2 n2 c2 (dgs (b - a)) → Calls Tryd.prog 53 #[.agg #[.slice A2 n2 c2, .bool h]] wx fun e w' => e = .returned (.agg #[.slice A2 n2 c2, .bool g']) ∧ Below wx.heap.size wx w') :=
        fun wx A2 n2 c2 hd => sign_any A2 n2 c2 (b - a) h g' (x + y) wx hd e0.symm hg'
      have F : Hid (∀ w' A' n' c', Dig w' A' n' c' (dgs (b - a)) → NZ w' A' n' c' g' (x + y)) := by
        intro w' A' n' c' hd
        exact ⟨by rw [e0, sv_abs]; exact hd, hg'⟩
      clear e0 hgz hhz hov hgh hab hba hg'
      go_enter Tryd.func35, Tryd.ntmps35
      go_wp2_with fail
      refine (OC.out _ ((((Below.refl w.heap.size w).alloc (Nat.le_refl _) _).alloc (by simp) _).alloc (by simp; omega) _)).mono ?_
      rintro e w1 ⟨rfl, hb1⟩
      obtain ⟨R0, R1, R2, hbw⟩ := bl3p hb1
      obtain ⟨i0, i1, _, _, _⟩ := id R0
      obtain ⟨j0, j1, _, _, _⟩ := id R1
      obtain ⟨k0, k1, l0, l1, _⟩ := id R2
      have HW := Lib.hid hbw
      have HL : Hid (w.heap.size + 1 + 1 < w1.drew.heap.size) := R2.lt
      clear hb1 hbw
      go_wp2_with fail
      go_region_held3 (fun w' => w'.cell? ⟨w.heap.size, 0, none⟩ = some (.slice A n c) ∧ w'.cell? ⟨w.heap.size + 1, 1, none⟩ = some (.bool h) ∧ w'.cell? ⟨w.heap.size + 1, 0, none⟩ = some (.slice B m d)) (go_keep)
        (first
        | (go_at_call 41; refine (C.out _ HW.out.drew).mono ?_; rintro e w2 ⟨A2, n2, c2, rfl, hd2, hf2, hb2⟩; have R0 := R0.drew.keep hb2; have R1 := R1.drew.keep hb2; have R2 := R2.drew.keep hb2; have HW2 := Lib.hid (HW.out.drew.trans (hb2.mono HW.out.drew.size)); obtain ⟨p0, p1, _, _, _⟩ := id R0; obtain ⟨q0, q1, _, _, _⟩ := id R1; have HD := Lib.hid hd2; have HF : Hid (∀ ad, A2 = some ad → w.heap.size + 1 + 1 < ad.block) := (fun ad e => Nat.lt_of_lt_of_le HL.out (hf2 ad e)); clear hd2 hf2 hb2)
        | (go_at_call 53; refine (SG.out _ _ _ _ HD.out).mono ?_; rintro e w3 ⟨rfl, hb3⟩; have R0 := R0.keep hb3; have R1 := R1.keep hb3; have R2 := R2.keep hb3; have HW3 := Lib.hid (HW2.out.trans (hb3.mono HW2.out.size)); have HD := Lib.hid (HD.out.keep hb3); obtain ⟨p0, p1, _, _, _⟩ := id R0; obtain ⟨q0, q1, _, _, _⟩ := id R1; obtain ⟨k0, k1, l0, l1, _⟩ := id R2; clear hb3))
      go_wp2_with fail
      obtain ⟨s0, s1⟩ := store2 k0 k1 (.slice A2 n2 c2) (.bool g')
      refine bodyPost_ret (v := .agg #[.slice A2 n2 c2, .bool g']) (by simp [results, Tryd.results35, go_sem, s0, s1]) rfl ?_
      exact retz_fin (F.out _ _ _ _ HD.out) HF.out HW3.out (by omega)

set_option maxHeartbeats 4000000 in
theorem mul_any (A B : Option Addr) (n c m d : Nat) (g h : Bool) (x y : Int) (w : World) (hx : NZ w A n c g x) (hy : NZ w B m d h y) (sx : Sm x) (sy : Sm y) :
    Calls Tryd.prog 36 #[.agg #[.slice A n c, .bool g], .agg #[.slice B m d, .bool h]] w (RetZ w (x * y)) := by
  have e0 : sv (!(g == h)) (x.natAbs * y.natAbs) = x * y := by
    have h1 := hx.sv
    have h2 := hy.sv
    rw [← h1, ← h2, sv_abs, sv_abs]
    unfold sv
    cases g <;> cases h <;> simp [Int.neg_mul, Int.mul_neg]
  unfold Sm at sx sy
  obtain ⟨a, ha⟩ : ∃ a, a = x.natAbs := ⟨_, rfl⟩
  obtain ⟨b, hb⟩ : ∃ b, b = y.natAbs := ⟨_, rfl⟩
  have DA := hx.dig
  have DB := hy.dig
  rw [← ha] at DA sx e0
  rw [← hb] at DB sy e0
  have HA := Lib.hid DA
  have HB := Lib.hid DB
  clear hx hy ha hb DA DB
  have SX := Lib.hid sx
  have SY := Lib.hid sy
  clear sx sy
  have n1 : ¬ (w.heap.size = w.heap.size + 1 + 1) := by omega
  have n2 : ¬ (w.heap.size + 1 + 1 = w.heap.size) := by omega
  have C : Hid (∀ wx, Below w.heap.size w wx → Calls Tryd.prog 40 #[.slice A n c, .slice B m d] wx (Ret wx (dgs (a * b)))) := by
    intro wx hb
    have := times_any A B n m c d _ _ wx (HA.out.keep hb) (HB.out.keep hb) (can_dgs a).ok (can_dgs b).ok (by have := SX.out; omega) (by have := SY.out; omega)
    rw [val_dgs, val_dgs] at this
    exact this
  obtain ⟨g', hg'⟩ : ∃ g', g' = decide (x * y < 0) := ⟨_, rfl⟩
  have SG : Hid (∀ wx A2 n2 c2, Dig wx A2 n2 c2 (dgs (a * b)) → Calls Tryd.prog 53 #[.agg #[.slice A2 n2 c2, .bool (!(g == h))]] wx fun e w' => e = .returned (.agg #[.slice A2 n2 c2, .bool g']) ∧ Below wx.heap.size wx w') :=
    fun wx A2 n2 c2 hd => sign_any A2 n2 c2 (a * b) (!(g == h)) g' (x * y) wx hd e0 hg'
  have F : Hid (∀ w' A' n' c', Dig w' A' n' c' (dgs (a * b)) → NZ w' A' n' c' g' (x * y)) := by
    intro w' A' n' c' hd
    exact ⟨by rw [← e0, sv_abs]; exact hd, hg'⟩
  clear e0 hg'
  go_enter Tryd.func36, Tryd.ntmps36
  go_wp2_with fail
  go_region_held3 (fun w' => w'.cell? ⟨w.heap.size, 0, none⟩ = some (.slice A n c) ∧ w'.cell? ⟨w.heap.size, 1, none⟩ = some (.bool g) ∧ w'.cell? ⟨w.heap.size + 1, 0, none⟩ = some (.slice B m d) ∧ w'.cell? ⟨w.heap.size + 1, 1, none⟩ = some (.bool h)) (go_keep)
    (first
    | (go_at_call 40; refine (C.out _ (b3d _ _ _ _)).mono ?_; rintro e w2 ⟨A2, n2, c2, rfl, hd2, hf2, hb2⟩; obtain ⟨R0, R1, R2, hbw⟩ := bl3 hb2; have HW2 := Lib.hid hbw; obtain ⟨p0, p1, _, _, _⟩ := id R0; obtain ⟨q0, q1, _, _, _⟩ := id R1; have HD := Lib.hid hd2; have HF : Hid (∀ ad, A2 = some ad → w.heap.size + 1 + 1 < ad.block) := (fun ad e => by have := hf2 ad e; simp at this; omega); clear hd2 hf2 hb2 hbw)
    | (go_at_call 53; refine (SG.out _ _ _ _ HD.out).mono ?_; rintro e w3 ⟨rfl, hb3⟩; have R0 := R0.keep hb3; have R1 := R1.keep hb3; have R2 := R2.keep hb3; have HW3 := Lib.hid (HW2.out.trans (hb3.mono HW2.out.size)); have HD := Lib.hid (HD.out.keep hb3); obtain ⟨p0, p1, _, _, _⟩ := id R0; obtain ⟨q0, q1, _, _, _⟩ := id R1; obtain ⟨k0, k1, l0, l1, _⟩ := id R2; clear hb3))
  go_wp2_with fail
  obtain ⟨s0, s1⟩ := store2 k0 k1 (.slice A2 n2 c2) (.bool g')
  refine bodyPost_ret (v := .agg #[.slice A2 n2 c2, .bool g']) (by simp [results, Tryd.results36, go_sem, s0, s1]) rfl ?_
  exact retz_fin (F.out _ _ _ _ HD.out) HF.out HW3.out (by omega)
end Go.Proofs.YtpneahdbiikonaaDoor
