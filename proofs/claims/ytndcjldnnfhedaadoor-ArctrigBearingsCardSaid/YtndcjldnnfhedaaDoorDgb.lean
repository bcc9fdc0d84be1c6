/- The reference of many digits: products, signed numbers, what the laws call. -/
import Derived.Test.YtndcjldnnfhedaaDoorDga
import Derived.Deep.RegionHeld3
import Derived.Deep.DrawnRows
import Derived.Deep.LoopGhost
/- Contract of the reference's Times. -/
namespace Go.Proofs.YtndcjldnnfhedaaDoor.wd2
set_option maxRecDepth 100000
open Go.RowKit
set_option linter.unusedVariables false

/-- the block that Times fills -/
structure TimW (w : World) (L : Nat) (O : List Nat) (wr : World) : Prop where
  own : wr.ownsRow w.heap.size 3 1 (.slice (some ⟨w.heap.size, 0, none⟩) L L) L (O.map dv)
  bel : Below w.heap.size w wr
theorem TimW.cell {w wr : World} {L : Nat} {O : List Nat} (h : TimW w L O wr) {j : Nat} (hj : j < L) : wr.cell? ⟨w.heap.size, j, none⟩ = some (.int .i64 ((O.getD j 0 : Nat) : Int)) := by
  have hl : O.length = L := by have := h.own.1; simpa using this
  have := h.own.cellAt j (by omega)
  rw [this, List.getElem?_map, List.getElem?_eq_getElem (by omega : j < O.length), List.getD_eq_getElem?_getD, List.getElem?_eq_getElem (by omega : j < O.length)]; rfl
theorem TimW.froz {w wr : World} {L : Nat} {O : List Nat} (h : TimW w L O wr) (j : Nat) : wr.frozen? ⟨w.heap.size, j, none⟩ = false := h.own.frozenAt j
theorem TimW.store {w wr : World} {L : Nat} {O : List Nat} (h : TimW w L O wr) (j x : Nat) {X : Int} (hX : X = (x : Int)) : TimW w L (O.set j x) (wr.setCell ⟨w.heap.size, j, none⟩ (.int .i64 X)) := by
  refine ⟨?_, h.bel.setCell (Nat.le_refl _) _⟩
  have := (h.own.stored j (.int .i64 X)).1
  rw [hX] at this ⊢
  rw [List.map_set]
  exact this
theorem TimW.keep {w wr ws : World} {L : Nat} {O : List Nat} (h : TimW w L O wr) (hb : Below wr.heap.size wr ws) : TimW w L O ws := by
  refine ⟨⟨h.own.1, ?_⟩, h.bel.trans (hb.mono h.bel.size)⟩
  rcases h.own.2 with ⟨hv, _⟩ | ⟨g, cap, cur, hv, hb0, hg, r⟩
  · simp at hv
  · exact .inr ⟨g, cap, cur, hv, hb0, (hb.block g (Array.getElem?_eq_some_iff.1 hg).1).trans hg, r⟩
theorem TimW.lt {w wr : World} {L : Nat} {O : List Nat} (h : TimW w L O wr) : w.heap.size < wr.heap.size := (h.own.lt _ rfl).2
theorem TimW.drew {w wr : World} {L : Nat} {O : List Nat} (h : TimW w L O wr) : TimW w L O wr.drew := ⟨h.own.drew, h.bel.drew⟩

set_option maxHeartbeats 4000000 in
theorem times_any (A B : Option Addr) (n m c d : Nat) (a b : List Nat) (w : World) (ha : Dig w A n c a) (hb : Dig w B m d b) (ca : Dok a) (cb : Dok b) (h1 : a.length ≤ 2000000) (h2 : b.length ≤ 2000000) :
    Calls Tryd.prog 100 #[.slice A n c, .slice B m d] w (Ret w (dgs (val a * val b))) := by
  obtain ⟨i0, hi, hz0, hz1, hz2⟩ := info_parts Tryd.infoI
  have hla := ha.len
  have hlb := hb.len
  have HA := Lib.hid ha
  have HB := Lib.hid hb
  have CA := Lib.hid ca
  have CB := Lib.hid cb
  clear ha hb ca cb
  have LA := Lib.hid hla
  have LB := Lib.hid hlb
  have n1 : n ≤ 2000000 := by omega
  have n2 : m ≤ 2000000 := by omega
  clear hla hlb h1 h2
  go_enter Tryd.func100, Tryd.ntmps100
  go_wp2_with (at_make; refine wpList_make_full _ rfl _ _ 105 rfl w.heap.size 3 i0 (.int .i64 0) 1 Tryd.underlying105 hi hz0 hz1 _ _ _ _ (n + m) rfl rfl (by first | rfl | go_num) (by first | rfl | go_num) (by rw [hz2]; omega) (by unfold maxLen; omega) (Nat.le_refl _) ?_)
  intro w1 hown hgrow
  have hB : Below w.heap.size w w1 := (Below.refl _ _).grown hgrow (Nat.le_refl _) (by intro k hk; cases hk)
  have T0 : Hid (TimW w (n + m) (List.replicate (a.length + b.length) 0) w1) := by
    refine ⟨?_, hB⟩
    have e : (List.replicate (a.length + b.length) 0).map dv = (madeCells #[Value.int .i64 0] (n + m)).toList := by rw [toList_madeCells_one, List.map_replicate, LA.out, LB.out]; rfl
    rw [e]
    simpa [Value.cells] using hown
  clear hgrow hown hB
  go_wp2_with fail
  go_loopw [6] (fun iv wr => ∃ i : Nat, ∃ O : List Nat, i ≤ n ∧ iv = .int .i64 (i : Int) ∧ Hid (TimI a b i O) ∧ Hid (TimW w (n + m) O wr)) (fun iv _ => n - (intOf iv).toNat)
  case atStart => exact ⟨0, _, Nat.zero_le _, rfl, timI_start a b, T0⟩
  case round =>
    clear T0
    obtain ⟨i, O, hin, rfl, hI, hT⟩ := hrel
    by_cases q1 : i < n
    · have z1 : (i : Int) < (n : Int) := by omega
      have hia : i < a.length := by rw [← LA.out]; exact q1
      have J0 : Hid (TimJ a b i 0 0 O) := timJ_start CA.out CB.out hia hI.out
      clear hI
      go_wp2_with fail
      go_loopw [7, 8] (fun cv kv ws => ∃ k cy : Nat, ∃ O' : List Nat, k ≤ m ∧ cv = .int .i64 (cy : Int) ∧ kv = .int .i64 (k : Int) ∧ Hid (TimJ a b i k cy O') ∧ Hid (TimW w (n + m) O' ws)) (fun _ kv _ => m - (intOf kv).toNat)
      case atStart => exact ⟨0, 0, O, Nat.zero_le _, rfl, rfl, J0, hT⟩
      case round =>
        clear hT
        obtain ⟨k, cy, O', hkm, rfl, rfl, hJ, hT⟩ := hrel
        have hcy := hJ.out.c1
        by_cases q2 : k < m
        · have z2 : (k : Int) < (m : Int) := by omega
          have hkb : k < b.length := by rw [← LB.out]; exact q2
          obtain ⟨ga, rfl, hga, hca⟩ := (HA.out.keep hT.out.bel).cell hia
          obtain ⟨gb, rfl, hgb, hcb⟩ := (HB.out.keep hT.out.bel).cell hkb
          have hco := hT.out.cell (j := i + k) (by omega)
          have hfo := hT.out.froz (i + k)
          obtain ⟨x, hx⟩ : ∃ x, x = a.getD i 0 := ⟨_, rfl⟩
          obtain ⟨y, hy⟩ : ∃ y, y = b.getD k 0 := ⟨_, rfl⟩
          obtain ⟨o, ho⟩ : ∃ o, o = O'.getD (i + k) 0 := ⟨_, rfl⟩
          have hxb := CA.out.get i
          have hyb := CB.out.get k
          have hob := hJ.out.ok.get (i + k)
          rw [← hx] at hca hxb
          rw [← hy] at hcb hyb
          rw [← ho] at hco hob
          obtain ⟨z, hz⟩ : ∃ z, z = x * y := ⟨_, rfl⟩
          have hzb : z ≤ 72057593501057025 := by rw [hz]; exact mul_digit hxb hyb
          have E : (x : Int) * (y : Int) = (z : Int) := by rw [hz, Int.natCast_mul]
          have J2 : Hid (TimJ a b i (k + 1) ((o + z + cy) / 268435456) (O'.set (i + k) ((o + z + cy) % 268435456))) := by
            have := timJ_step CA.out CB.out hia hkb hJ.out
            rw [← hx, ← hy, ← ho, ← hz] at this
            exact this
          clear hx hy ho hz hkb
          have W1 : IntKind.i64.wrap ((i : Int) + (k : Int)) = (i : Int) + (k : Int) := IntWalk.i64_in _ (by omega)
          have W2 : IntKind.i64.wrap (z : Int) = (z : Int) := IntWalk.i64_in _ (by omega)
          have W3 : IntKind.i64.wrap ((o : Int) + (z : Int)) = (o : Int) + (z : Int) := IntWalk.i64_in _ (by omega)
          have W4 : IntKind.i64.wrap ((o : Int) + (z : Int) + (cy : Int)) = (o : Int) + (z : Int) + (cy : Int) := IntWalk.i64_in _ (by omega)
          have b0 : (0 : Int) ≤ (i : Int) + (k : Int) := by omega
          have b1 : (i : Int) + (k : Int) < (n : Int) + (m : Int) := by omega
          have b2 : ((i : Int) + (k : Int)).toNat = i + k := by omega
          go_wp2_with fail
          go_region
          all_goals
            clear W1 W2 W3 W4 b2
            go_wp2_with fail
            go_roundw
            case rel => exact ⟨k + 1, (o + z + cy) / 268435456, _, by omega, by go_num, by go_num, J2, (hT.out.drew).store (i + k) ((o + z + cy) % 268435456) (by omega)⟩
            case measure => simp [intOf]; omega
        · have e : k = m := by omega
          subst e
          have z2 : ¬ (k : Int) < (k : Int) := by omega
          have hco := hT.out.cell (j := i + k) (by omega)
          have hfo := hT.out.froz (i + k)
          have I2 : Hid (TimI a b (i + 1) (O'.set (i + k) cy)) := by
            have h := hJ.out
            rw [LB.out] at h ⊢
            exact timJ_end hia h
          go_wp2_with fail
          go_roundw
          case rel => exact ⟨i + 1, _, by omega, by go_num, I2, hT.out.store (i + k) cy rfl⟩
          case measure => simp [intOf]; omega
    · have e : i = n := by omega
      subst e
      have z1 : ¬ (i : Int) < (i : Int) := by omega
      have E : Hid (val O = val a * val b) := by
        have h := hI.out
        rw [LA.out] at h
        exact timI_end h
      have hl : O.length = i + m := by have := hT.out.own.1; simpa using this
      have HL := Lib.hid hl
      clear hl
      go_wp2_with (go_at_call 111; refine (trim_any _ _ _ O _ (dig_of_own hT.out.own) hI.out.ok (by rw [HL.out]; omega)).mono ?_; rintro e w2 ⟨Ar, nr, cr, rfl, hdr, hfr, hbr⟩)
      go_ret
      rw [E.out] at hdr
      exact Ret.under hT.out.bel ⟨Ar, nr, cr, rfl, hdr, hfr, hbr⟩
end Go.Proofs.YtndcjldnnfhedaaDoor.wd2

/- Contract of the reference's Over. -/
namespace Go.Proofs.YtndcjldnnfhedaaDoor.wd2
set_option maxRecDepth 100000
open Go.RowKit
set_option linter.unusedVariables false

/-- what Over leaves behind -/
def Ret2 (w : World) (L M : List Nat) (e : Ending) (w' : World) : Prop :=
  ∃ A n c A' n' c', e = .returned (.tuple #[.slice A n c, .slice A' n' c']) ∧ Dig w' A n c L ∧ Fr w A ∧ Dig w' A' n' c' M ∧ Fr w A' ∧ Below w.heap.size w w'

/-- what Over's walk knows of its divisor -/
structure OvB (w : World) (B : Option Addr) (m d : Nat) (b : List Nat) : Prop where
  dig : Dig w B m d b
  can : Can b
  pos : 0 < val b
  len : b.length ≤ 1000000

/-- the state of Over's outer loop: k digits are left -/
structure OvW (w : World) (a b : List Nat) (k : Nat) (O : List Nat) (R : Nat) (A : Option Addr) (n c : Nat) (wr : World) : Prop where
  inv : OverI a (val b) k O R
  tim : TimW w a.length O wr
  rst : Dig wr A n c (dgs R)
  far : ∀ ad, A = some ad → w.heap.size < ad.block

theorem Dig.single_at (w : World) (H m T : Nat) (hH : w.heap.size = H) : Dig (w.alloc (.cells #[.int .i64 (m : Int)] T)) (some ⟨H, 0, none⟩) 1 1 [m] := by
  subst hH; exact Dig.single w m T
theorem rest_len {b : List Nat} (cb : Can b) {R : Nat} (h : R ≤ val b) : (dgs R).length ≤ b.length := by
  have := dgs_len_mono h
  rw [← can_unique b cb] at this; exact this

end Go.Proofs.YtndcjldnnfhedaaDoor.wd2

/- Contracts of the reference's numbers: sign, Minus, Plus, Mul, Compare. -/
namespace Go.Proofs.YtndcjldnnfhedaaDoor.wd2
set_option maxRecDepth 100000
open Go.RowKit
set_option linter.unusedVariables false
attribute [local go_sem ↓] Go.wp_at_zero Go.wp_at_succ

/-- a number as it lies in memory -/
structure NZ (w : World) (A : Option Addr) (n c : Nat) (g : Bool) (z : Int) : Prop where
  dig : Dig w A n c (dgs z.natAbs)
  sgn : g = decide (z < 0)
theorem NZ.keep {w w' : World} {A : Option Addr} {n c : Nat} {g : Bool} {z : Int} (h : NZ w A n c g z) (hb : Below w.heap.size w w') : NZ w' A n c g z := ⟨h.dig.keep hb, h.sgn⟩
theorem NZ.alloc {w : World} {A : Option Addr} {n c : Nat} {g : Bool} {z : Int} (h : NZ w A n c g z) (o : Obj) : NZ (w.alloc o) A n c g z := ⟨h.dig.alloc o, h.sgn⟩
def Sm (z : Int) : Prop := (dgs z.natAbs).length ≤ 400000
/-- what a function that returns a number leaves behind -/
def RetZ (w : World) (z : Int) (e : Ending) (w' : World) : Prop := ∃ A n c g, e = .returned (.agg #[.slice A n c, .bool g]) ∧ NZ w' A n c g z ∧ Fr w A ∧ Below w.heap.size w w'
def sv (g : Bool) (N : Nat) : Int := if g then -(N : Int) else (N : Int)
theorem sv_abs (g : Bool) (N : Nat) : (sv g N).natAbs = N := by unfold sv; cases g <;> simp
theorem NZ.sv {w : World} {A : Option Addr} {n c : Nat} {g : Bool} {z : Int} (h : NZ w A n c g z) : sv g z.natAbs = z := by
  have := h.sgn
  unfold Proofs.YtndcjldnnfhedaaDoor.wd2.sv
  by_cases hz : z < 0
  · rw [decide_eq_true hz] at this; rw [this]; simp; omega
  · rw [decide_eq_false hz] at this; rw [this]; simp; omega
theorem NZ.mk' {w : World} {A : Option Addr} {n c : Nat} {g : Bool} {N : Nat} (h : Dig w A n c (dgs N)) (hg : g = true → N ≠ 0) : NZ w A n c g (Proofs.YtndcjldnnfhedaaDoor.wd2.sv g N) := by
  refine ⟨by rw [sv_abs]; exact h, ?_⟩
  unfold Proofs.YtndcjldnnfhedaaDoor.wd2.sv
  cases g
  · simp
  · have := hg rfl; simp; omega
theorem bcell {W w1 : World} (hb : Below W.heap.size W w1) : (∀ b o, b < W.heap.size → w1.cell? ⟨b, o, none⟩ = W.cell? ⟨b, o, none⟩) ∧ (∀ b o, b < W.heap.size → w1.frozen? ⟨b, o, none⟩ = W.frozen? ⟨b, o, none⟩) :=
  ⟨fun b o h => hb.cell (p := ⟨b, o, none⟩) h, fun b o h => hb.frozen (p := ⟨b, o, none⟩) h⟩
theorem Dig.any {w w' : World} {A : Option Addr} {n c : Nat} {l : List Nat} (h : Dig w A n c l) (hb : Below w.heap.size w w') : Dig w' A n c l := h.keep hb

theorem sv_neg (g : Bool) (N : Nat) : decide (sv g N < 0) = (g && decide (N ≠ 0)) := by
  unfold sv
  cases g
  · simp
  · rw [Bool.true_and, decide_eq_decide, if_pos rfl]; omega

theorem sign_any (A : Option Addr) (n c N : Nat) (g g' : Bool) (z : Int) (w : World) (h : Dig w A n c (dgs N)) (hz : sv g N = z) (hg : g' = decide (z < 0)) :
    Calls Tryd.prog 99 #[.agg #[.slice A n c, .bool g]] w fun e w' => e = .returned (.agg #[.slice A n c, .bool g']) ∧ Below w.heap.size w w' := by
  have hl := h.len
  rw [← hz, sv_neg] at hg
  clear h hz
  by_cases hN : N = 0
  · have hn : n = 0 := by rw [hl, hN, dgs_zero]; rfl
    have e : g' = false := by rw [hg, hN]; simp
    clear hl hg
    subst hn e
    go_enter Tryd.func99, Tryd.ntmps99
    go_wp2_with fail
    refine bodyPost_ret (v := .agg #[.slice A 0 c, .bool false]) (by simp [results, Tryd.results99, go_sem]) rfl ?_
    exact ⟨rfl, ((Below.refl _ _).alloc (Nat.le_refl _) _).alloc (by simp) _⟩
  · have hn : 0 < n := by rw [hl, dgs_len_pos]; exact hN
    have t0 : ((n : Int) == 0) = false := beq_eq_false_iff_ne.2 (by omega)
    have e : g' = g := by rw [hg]; simp [hN]
    clear hl hg
    subst e
    go_enter Tryd.func99, Tryd.ntmps99
    go_wp2_with fail
    refine bodyPost_ret (v := .agg #[.slice A n c, .bool g']) (by simp [results, Tryd.results99, go_sem]) rfl ?_
    exact ⟨rfl, ((Below.refl _ _).alloc (Nat.le_refl _) _).alloc (by simp) _⟩

theorem sv_not (g : Bool) (N : Nat) : sv (!g) N = -(sv g N) := by unfold sv; cases g <;> simp

/-- storing a number into the result's block -/
theorem store2 {w : World} {b : Nat} {u v : Value} (c0 : w.cell? ⟨b, 0, none⟩ = some u) (c1 : w.cell? ⟨b, 1, none⟩ = some v) (x y : Value) :
    (w.setCell ⟨b, 0, none⟩ x).cell? ⟨b, 0, none⟩ = some x ∧ ((w.setCell ⟨b, 0, none⟩ x).setCell ⟨b, 1, none⟩ y).cell? ⟨b, 1, none⟩ = some y :=
  ⟨World.cell?_setCell_same w _ x c0, World.cell?_setCell_same _ _ y ((World.cell?_setCell_other w _ _ x (by simp)).trans c1)⟩

theorem minus_any (A : Option Addr) (n c : Nat) (g g' : Bool) (z : Int) (w : World) (h : NZ w A n c g z) (hg : g' = decide (-z < 0)) :
    Calls Tryd.prog 75 #[.agg #[.slice A n c, .bool g]] w fun e w' => e = .returned (.agg #[.slice A n c, .bool g']) ∧ Below w.heap.size w w' := by
  have S : Hid (∀ wx, Below w.heap.size w wx → Calls Tryd.prog 99 #[.agg #[.slice A n c, .bool !g]] wx fun e w' => e = .returned (.agg #[.slice A n c, .bool g']) ∧ Below wx.heap.size wx w') := by
    intro wx hb
    exact sign_any A n c z.natAbs (!g) g' (-z) wx (h.dig.keep hb) (by rw [sv_not, h.sv]) hg
  clear h hg
  go_enter Tryd.func75, Tryd.ntmps75
  go_wp2_with fail
  refine (S.out _ (((Below.refl _ _).alloc (Nat.le_refl _) _).alloc (by simp) _)).mono ?_
  rintro e w2 ⟨rfl, hb2⟩
  have HB := Lib.hid hb2
  have R := (Bl2.new (w.alloc (.cells #[.slice A n c, .bool g] 107)) (.slice none 0 0) (.bool false) 107).keep hb2
  simp at R
  obtain ⟨c0, c1, f0, f1, hlt⟩ := R
  clear hb2
  go_wp2_with fail
  obtain ⟨s0, s1⟩ := store2 c0 c1 (.slice A n c) (.bool g')
  refine bodyPost_ret (v := .agg #[.slice A n c, .bool g']) (by simp [results, Tryd.results75, go_sem, s0, s1]) rfl ?_
  exact ⟨rfl, ((((((Below.refl w.heap.size w).alloc (Nat.le_refl _) _).alloc (by simp) _).trans (HB.out.mono (by simp; omega))).setCell (by simp) _).setCell (by simp) _)⟩

theorem sv_add (g h : Bool) (a b : Nat) : sv g a + sv h b = if g = h then sv g (a + b) else if b ≤ a then sv g (a - b) else sv h (b - a) := by
  unfold sv
  cases g <;> cases h <;> simp <;> (try split) <;> omega

theorem NZ.zero_sgn {w : World} {A : Option Addr} {n c : Nat} {g : Bool} {z : Int} (h : NZ w A n c g z) : g = true → z.natAbs ≠ 0 := by
  intro e
  have := h.sgn
  rw [e] at this
  have := of_decide_eq_true this.symm
  omega

theorem b3d (w : World) (o1 o2 o3 : Obj) : Below w.heap.size w (((w.alloc o1).alloc o2).alloc o3).drew := ((((Below.refl w.heap.size w).alloc (Nat.le_refl _) o1).alloc (by simp) o2).alloc (by simp; omega) o3).drew
theorem b2d (w : World) (o1 o2 : Obj) : Below w.heap.size w ((w.alloc o1).alloc o2).drew := (((Below.refl w.heap.size w).alloc (Nat.le_refl _) o1).alloc (by simp) o2).drew
theorem Bl2.drew {w : World} {b : Nat} {x y : Value} (h : Bl2 w b x y) : Bl2 w.drew b x y := h.keep ((Below.refl _ _).drew)
theorem bl3 {w w2 : World} {a0 a1 b0 b1 c0 c1 : Value} {T U V : Nat} (hb : Below ((((w.alloc (.cells #[a0, a1] T)).alloc (.cells #[b0, b1] U)).alloc (.cells #[c0, c1] V)).drew).heap.size ((((w.alloc (.cells #[a0, a1] T)).alloc (.cells #[b0, b1] U)).alloc (.cells #[c0, c1] V)).drew) w2) :
    Bl2 w2 w.heap.size a0 a1 ∧ Bl2 w2 (w.heap.size + 1) b0 b1 ∧ Bl2 w2 (w.heap.size + 1 + 1) c0 c1 ∧ Below w.heap.size w w2 := by
  have h1 := (((Bl2.new w a0 a1 T).alloc (.cells #[b0, b1] U)).alloc (.cells #[c0, c1] V)).drew.keep hb
  have h2 := (((Bl2.new (w.alloc (.cells #[a0, a1] T)) b0 b1 U)).alloc (.cells #[c0, c1] V)).drew.keep hb
  have h3 := (Bl2.new ((w.alloc (.cells #[a0, a1] T)).alloc (.cells #[b0, b1] U)) c0 c1 V).drew.keep hb
  simp at h1 h2 h3
  exact ⟨h1, h2, h3, (b3d _ _ _ _).trans (hb.mono (by simp; omega))⟩
theorem bl3p {w w2 : World} {a0 a1 b0 b1 c0 c1 : Value} {T U V : Nat} (hb : Below (((w.alloc (.cells #[a0, a1] T)).alloc (.cells #[b0, b1] U)).alloc (.cells #[c0, c1] V)).heap.size (((w.alloc (.cells #[a0, a1] T)).alloc (.cells #[b0, b1] U)).alloc (.cells #[c0, c1] V)) w2) :
    Bl2 w2 w.heap.size a0 a1 ∧ Bl2 w2 (w.heap.size + 1) b0 b1 ∧ Bl2 w2 (w.heap.size + 1 + 1) c0 c1 ∧ Below w.heap.size w w2 := by
  have h1 := (((Bl2.new w a0 a1 T).alloc (.cells #[b0, b1] U)).alloc (.cells #[c0, c1] V)).keep hb
  have h2 := (((Bl2.new (w.alloc (.cells #[a0, a1] T)) b0 b1 U)).alloc (.cells #[c0, c1] V)).keep hb
  have h3 := (Bl2.new ((w.alloc (.cells #[a0, a1] T)).alloc (.cells #[b0, b1] U)) c0 c1 V).keep hb
  simp at h1 h2 h3
  exact ⟨h1, h2, h3, ((((Below.refl w.heap.size w).alloc (Nat.le_refl _) _).alloc (by simp) _).alloc (by simp; omega) _).trans (hb.mono (by simp; omega))⟩
/-- the end of a function that returns a number: the result is stored into the block b of its own -/
theorem retz_fin {w w2 : World} {A2 : Option Addr} {n2 c2 b : Nat} {g : Bool} {z : Int} (hd : NZ w2 A2 n2 c2 g z) (hf : ∀ ad, A2 = some ad → b < ad.block) (hb : Below w.heap.size w w2) (h1 : w.heap.size ≤ b) :
    RetZ w z (.returned (.agg #[.slice A2 n2 c2, .bool g])) ((w2.setCell ⟨b, 0, none⟩ (.slice A2 n2 c2)).setCell ⟨b, 1, none⟩ (.bool g)) :=
  ⟨_, _, _, _, rfl, ⟨(hd.dig.far ⟨b, 0, none⟩ (fun ad e => by have := hf ad e; show ad.block ≠ b; omega) _).far ⟨b, 1, none⟩ (fun ad e => by have := hf ad e; show ad.block ≠ b; omega) _, hd.sgn⟩,
    fun ad e => by have := hf ad e; omega, (hb.setCell h1 _).setCell h1 _⟩
theorem three_bel {w w2 : World} {o1 o2 o3 : Obj} (hb : Below (((w.alloc o1).alloc o2).alloc o3).heap.size (((w.alloc o1).alloc o2).alloc o3) w2) : Below w.heap.size w w2 :=
  ((((Below.refl w.heap.size w).alloc (Nat.le_refl _) o1).alloc (by simp) o2).alloc (by simp; omega) o3).trans (hb.mono (by simp; omega))

set_option maxHeartbeats 4000000 in
theorem plus_any (A B : Option Addr) (n c m d : Nat) (g h : Bool) (x y : Int) (w : World) (hx : NZ w A n c g x) (hy : NZ w B m d h y) (sx : Sm x) (sy : Sm y) :
    Calls Tryd.prog 74 #[.agg #[.slice A n c, .bool g], .agg #[.slice B m d, .bool h]] w (RetZ w (x + y)) := by
  have hgz := hx.zero_sgn
  have hhz := hy.zero_sgn
  have e0 : x + y = sv g x.natAbs + sv h y.natAbs := by rw [hx.sv, hy.sv]
  rw [sv_add] at e0
  unfold Sm at sx sy
  obtain ⟨a, ha⟩ : ∃ a, a = x.natAbs := ⟨_, rfl⟩
  obtain ⟨b, hb⟩ : ∃ b, b = y.natAbs := ⟨_, rfl⟩
  have DA := hx.dig
  have DB := hy.dig
  rw [← ha] at DA sx e0 hgz
  rw [← hb] at DB sy e0 hhz
  have HA := Lib.hid DA
  have HB := Lib.hid DB
  clear hx hy ha hb DA DB
  have SX := Lib.hid sx
  have SY := Lib.hid sy
  clear sx sy
  by_cases hgh : g = h
  · rw [if_pos hgh] at e0
    have C : Hid (∀ wx, Below w.heap.size w wx → Calls Tryd.prog 102 #[.slice A n c, .slice B m d] wx (Ret wx (dgs (a + b)))) := by
      intro wx hb
      have := sum_any A B n m c d _ _ wx (HA.out.keep hb) (HB.out.keep hb) (can_dgs a) (can_dgs b) (by have := SX.out; omega) (by have := SY.out; omega)
      rw [val_dgs, val_dgs] at this
      exact this
    have F : Hid (∀ w' A' n' c', Dig w' A' n' c' (dgs (a + b)) → NZ w' A' n' c' g (x + y)) := by
      intro w' A' n' c' hd
      rw [e0]
      exact NZ.mk' hd (fun e => by have := hgz e; omega)
    clear e0 hgz hhz
    subst hgh
    have t0 : (g == g) = true := by simp
    have n1 : ¬ (w.heap.size = w.heap.size + 1 + 1) := by omega
    have n2 : ¬ (w.heap.size + 1 + 1 = w.heap.size) := by omega
    go_enter Tryd.func74, Tryd.ntmps74
    go_wp2_with fail
    go_region_held3 (fun w' => w'.cell? ⟨w.heap.size, 0, none⟩ = some (.slice A n c) ∧ w'.cell? ⟨w.heap.size, 1, none⟩ = some (.bool g) ∧ w'.cell? ⟨w.heap.size + 1, 0, none⟩ = some (.slice B m d)) (go_keep)
      (first | (go_at_call 102; refine (C.out _ (b3d _ _ _ _)).mono ?_; rintro e w2 ⟨A2, n2, c2, rfl, hd2, hf2, hb2⟩; obtain ⟨⟨i0, i1, _, _, _⟩, ⟨j0, j1, _, _, _⟩, ⟨k0, k1, l0, l1, _⟩, hbw⟩ := bl3 hb2; have HD := Lib.hid hd2; have HF := Lib.hid hf2; have HW := Lib.hid hbw; clear hd2 hf2 hbw hb2))
    go_wp2_with fail
    obtain ⟨s0, s1⟩ := store2 k0 k1 (.slice A2 n2 c2) (.bool g)
    refine bodyPost_ret (v := .agg #[.slice A2 n2 c2, .bool g]) (by simp [results, Tryd.results74, go_sem, s0, s1]) rfl ?_
    exact retz_fin (F.out _ _ _ _ HD.out) (fun ad e => by have := HF.out ad e; simp at this; omega) HW.out (by omega)
  · rw [if_neg hgh] at e0
    have t0 : (g == h) = false := beq_eq_false_iff_ne.2 hgh
    have OC : Hid (∀ wx, Below w.heap.size w wx → Calls Tryd.prog 76 #[.slice A n c, .slice B m d] wx fun e w' => e = .returned (.int .i64 (ord a b)) ∧ Below wx.heap.size wx w') := by
      intro wx hb
      have := order_any A B n m c d _ _ wx (HA.out.keep hb) (HB.out.keep hb) (can_dgs a) (can_dgs b) (by have := SX.out; omega) (by have := SY.out; omega)
      rw [val_dgs, val_dgs] at this
      exact this
    have n1 : ¬ (w.heap.size = w.heap.size + 1 + 1) := by omega
    have n2 : ¬ (w.heap.size + 1 + 1 = w.heap.size) := by omega
    by_cases hab : b ≤ a
    · rw [if_pos hab] at e0
      have ho := ord_nn.2 hab
      obtain ⟨ov, hov⟩ : ∃ ov, ov = ord a b := ⟨_, rfl⟩
      rw [← hov] at ho OC
      have C : Hid (∀ wx, Below w.heap.size w wx → Calls Tryd.prog 103 #[.slice A n c, .slice B m d] wx (Ret wx (dgs (a - b)))) := by
        intro wx hb
        have := less_any A B n m c d _ _ wx (HA.out.keep hb) (HB.out.keep hb) (can_dgs a).ok (can_dgs b) (by rw [val_dgs, val_dgs]; exact hab) (by have := SX.out; omega) (by have := SY.out; omega)
        rw [val_dgs, val_dgs] at this
        exact this
      obtain ⟨g', hg'⟩ : ∃ g', g' = decide (x + y < 0) := ⟨_, rfl⟩
      have SG : Hid (∀ wx A2 n2 c2, Dig wx A2 n2 c2 (dgs (a - b)) → Calls Tryd.prog 99 #[.agg #[.slice A2 n2 c2, .bool g]] wx fun e w' => e = .returned (.agg #[.slice A2 n2 c2, .bool g']) ∧ Below wx.heap.size wx w') :=
        fun wx A2 n2 c2 hd => sign_any A2 n2 c2 (a - b) g g' (x + y) wx hd e0.symm hg'
      have F : Hid (∀ w' A' n' c', Dig w' A' n' c' (dgs (a - b)) → NZ w' A' n' c' g' (x + y)) := by
        intro w' A' n' c' hd
        exact ⟨by rw [e0, sv_abs]; exact hd, hg'⟩
      clear e0 hgz hhz hov hgh hab hg'
      go_enter Tryd.func74, Tryd.ntmps74
      go_wp2_with fail
      refine (OC.out _ ((((Below.refl w.heap.size w).alloc (Nat.le_refl _) _).alloc (by simp) _).alloc (by simp; omega) _)).mono ?_
      rintro e w1 ⟨rfl, hb1⟩
      obtain ⟨R0, R1, R2, hbw⟩ := bl3p hb1
      obtain ⟨i0, i1, _, _, _⟩ := id R0
      obtain ⟨j0, j1, _, _, _⟩ := id R1
      obtain ⟨k0, k1, l0, l1, _⟩ := id R2
      have HW := Lib.hid hbw
      have HL : Hid (w.heap.size + 1 + 1 < w1.drew.heap.size) := R2.lt
      clear hb1 hbw
      go_wp2_with fail
      go_region_held3 (fun w' => w'.cell? ⟨w.heap.size, 0, none⟩ = some (.slice A n c) ∧ w'.cell? ⟨w.heap.size, 1, none⟩ = some (.bool g) ∧ w'.cell? ⟨w.heap.size + 1, 0, none⟩ = some (.slice B m d)) (go_keep)
        (first
        | (go_at_call 103; refine (C.out _ HW.out.drew).mono ?_; rintro e w2 ⟨A2, n2, c2, rfl, hd2, hf2, hb2⟩; have R0 := R0.drew.keep hb2; have R1 := R1.drew.keep hb2; have R2 := R2.drew.keep hb2; have HW2 := Lib.hid (HW.out.drew.trans (hb2.mono HW.out.drew.size)); obtain ⟨p0, p1, _, _, _⟩ := id R0; obtain ⟨q0, q1, _, _, _⟩ := id R1; have HD := Lib.hid hd2; have HF : Hid (∀ ad, A2 = some ad → w.heap.size + 1 + 1 < ad.block) := (fun ad e => Nat.lt_of_lt_of_le HL.out (hf2 ad e)); clear hd2 hf2 hb2)
        | (go_at_call 99; refine (SG.out _ _ _ _ HD.out).mono ?_; rintro e w3 ⟨rfl, hb3⟩; have R0 := R0.keep hb3; have R1 := R1.keep hb3; have R2 := R2.keep hb3; have HW3 := Lib.hid (HW2.out.trans (hb3.mono HW2.out.size)); have HD := Lib.hid (HD.out.keep hb3); obtain ⟨p0, p1, _, _, _⟩ := id R0; obtain ⟨q0, q1, _, _, _⟩ := id R1; obtain ⟨k0, k1, l0, l1, _⟩ := id R2; clear hb3))
      go_wp2_with fail
      obtain ⟨s0, s1⟩ := store2 k0 k1 (.slice A2 n2 c2) (.bool g')
      refine bodyPost_ret (v := .agg #[.slice A2 n2 c2, .bool g']) (by simp [results, Tryd.results74, go_sem, s0, s1]) rfl ?_
      exact retz_fin (F.out _ _ _ _ HD.out) HF.out HW3.out (by omega)
    · rw [if_neg hab] at e0
      have hba : a ≤ b := by omega
      have ho : ¬ 0 ≤ ord a b := fun z => hab (ord_nn.1 z)
      obtain ⟨ov, hov⟩ : ∃ ov, ov = ord a b := ⟨_, rfl⟩
      rw [← hov] at ho OC
      have C : Hid (∀ wx, Below w.heap.size w wx → Calls Tryd.prog 103 #[.slice B m d, .slice A n c] wx (Ret wx (dgs (b - a)))) := by
        intro wx hb
        have := less_any B A m n d c _ _ wx (HB.out.keep hb) (HA.out.keep hb) (can_dgs b).ok (can_dgs a) (by rw [val_dgs, val_dgs]; exact hba) (by have := SY.out; omega) (by have := SX.out; omega)
        rw [val_dgs, val_dgs] at this
        exact this
      obtain ⟨g', hg'⟩ : ∃ g', g' = decide (x + y < 0) := ⟨_, rfl⟩
      have SG : Hid (∀ wx A2 n2 c2, Dig wx A2 n2 c2 (dgs (b - a)) → Calls Tryd.prog 99 #[.agg #[.slice A2 n2 c2, .bool h]] wx fun e w' => e = .returned (.agg #[.slice A2 n2 c2, .bool g']) ∧ Below wx.heap.size wx w') :=
        fun wx A2 n2 c2 hd => sign_any A2 n2 c2 (b - a) h g' (x + y) wx hd e0.symm hg'
      have F : Hid (∀ w' A' n' c', Dig w' A' n' c' (dgs (b - a)) → NZ w' A' n' c' g' (x + y)) := by
        intro w' A' n' c' hd
        exact ⟨by rw [e0, sv_abs]; exact hd, hg'⟩
      clear e0 hgz hhz hov hgh hab hba hg'
      go_enter Tryd.func74, Tryd.ntmps74
      go_wp2_with fail
      refine (OC.out _ ((((Below.refl w.heap.size w).alloc (Nat.le_refl _) _).alloc (by simp) _).alloc (by simp; omega) _)).mono ?_
      rintro e w1 ⟨rfl, hb1⟩
      obtain ⟨R0, R1, R2, hbw⟩ := bl3p hb1
      obtain ⟨i0, i1, _, _, _⟩ := id R0
      obtain ⟨j0, j1, _, _, _⟩ := id R1
      obtain ⟨k0, k1, l0, l1, _⟩ := id R2
      have HW := Lib.hid hbw
      have HL : Hid (w.heap.size + 1 + 1 < w1.drew.heap.size) := R2.lt
      clear hb1 hbw
      go_wp2_with fail
      go_region_held3 (fun w' => w'.cell? ⟨w.heap.size, 0, none⟩ = some (.slice A n c) ∧ w'.cell? ⟨w.heap.size + 1, 1, none⟩ = some (.bool h) ∧ w'.cell? ⟨w.heap.size + 1, 0, none⟩ = some (.slice B m d)) (go_keep)
        (first
        | (go_at_call 103; refine (C.out _ HW.out.drew).mono ?_; rintro e w2 ⟨A2, n2, c2, rfl, hd2, hf2, hb2⟩; have R0 := R0.drew.keep hb2; have R1 := R1.drew.keep hb2; have R2 := R2.drew.keep hb2; have HW2 := Lib.hid (HW.out.drew.trans (hb2.mono HW.out.drew.size)); obtain ⟨p0, p1, _, _, _⟩ := id R0; obtain ⟨q0, q1, _, _, _⟩ := id R1; have HD := Lib.hid hd2; have HF : Hid (∀ ad, A2 = some ad → w.heap.size + 1 + 1 < ad.block) := (fun ad e => Nat.lt_of_lt_of_le HL.out (hf2 ad e)); clear hd2 hf2 hb2)
        | (go_at_call 99; refine (SG.out _ _ _ _ HD.out).mono ?_; rintro e w3 ⟨rfl, hb3⟩; have R0 := R0.keep hb3; have R1 := R1.keep hb3; have R2 := R2.keep hb3; have HW3 := Lib.hid (HW2.out.trans (hb3.mono HW2.out.size)); have HD := Lib.hid (HD.out.keep hb3); obtain ⟨p0, p1, _, _, _⟩ := id R0; obtain ⟨q0, q1, _, _, _⟩ := id R1; obtain ⟨k0, k1, l0, l1, _⟩ := id R2; clear hb3))
      go_wp2_with fail
      obtain ⟨s0, s1⟩ := store2 k0 k1 (.slice A2 n2 c2) (.bool g')
      refine bodyPost_ret (v := .agg #[.slice A2 n2 c2, .bool g']) (by simp [results, Tryd.results74, go_sem, s0, s1]) rfl ?_
      exact retz_fin (F.out _ _ _ _ HD.out) HF.out HW3.out (by omega)

set_option maxHeartbeats 4000000 in
theorem mul_any (A B : Option Addr) (n c m d : Nat) (g h : Bool) (x y : Int) (w : World) (hx : NZ w A n c g x) (hy : NZ w B m d h y) (sx : Sm x) (sy : Sm y) :
    Calls Tryd.prog 71 #[.agg #[.slice A n c, .bool g], .agg #[.slice B m d, .bool h]] w (RetZ w (x * y)) := by
  have e0 : sv (!(g == h)) (x.natAbs * y.natAbs) = x * y := by
    have h1 := hx.sv
    have h2 := hy.sv
    rw [← h1, ← h2, sv_abs, sv_abs]
    unfold sv
    cases g <;> cases h <;> simp [Int.neg_mul, Int.mul_neg]
  unfold Sm at sx sy
  obtain ⟨a, ha⟩ : ∃ a, a = x.natAbs := ⟨_, rfl⟩
  obtain ⟨b, hb⟩ : ∃ b, b = y.natAbs := ⟨_, rfl⟩
  have DA := hx.dig
  have DB := hy.dig
  rw [← ha] at DA sx e0
  rw [← hb] at DB sy e0
  have HA := Lib.hid DA
  have HB := Lib.hid DB
  clear hx hy ha hb DA DB
  have SX := Lib.hid sx
  have SY := Lib.hid sy
  clear sx sy
  have n1 : ¬ (w.heap.size = w.heap.size + 1 + 1) := by omega
  have n2 : ¬ (w.heap.size + 1 + 1 = w.heap.size) := by omega
  have C : Hid (∀ wx, Below w.heap.size w wx → Calls Tryd.prog 100 #[.slice A n c, .slice B m d] wx (Ret wx (dgs (a * b)))) := by
    intro wx hb
    have := times_any A B n m c d _ _ wx (HA.out.keep hb) (HB.out.keep hb) (can_dgs a).ok (can_dgs b).ok (by have := SX.out; omega) (by have := SY.out; omega)
    rw [val_dgs, val_dgs] at this
    exact this
  obtain ⟨g', hg'⟩ : ∃ g', g' = decide (x * y < 0) := ⟨_, rfl⟩
  have SG : Hid (∀ wx A2 n2 c2, Dig wx A2 n2 c2 (dgs (a * b)) → Calls Tryd.prog 99 #[.agg #[.slice A2 n2 c2, .bool (!(g == h))]] wx fun e w' => e = .returned (.agg #[.slice A2 n2 c2, .bool g']) ∧ Below wx.heap.size wx w') :=
    fun wx A2 n2 c2 hd => sign_any A2 n2 c2 (a * b) (!(g == h)) g' (x * y) wx hd e0 hg'
  have F : Hid (∀ w' A' n' c', Dig w' A' n' c' (dgs (a * b)) → NZ w' A' n' c' g' (x * y)) := by
    intro w' A' n' c' hd
    exact ⟨by rw [← e0, sv_abs]; exact hd, hg'⟩
  clear e0 hg'
  go_enter Tryd.func71, Tryd.ntmps71
  go_wp2_with fail
  go_region_held3 (fun w' => w'.cell? ⟨w.heap.size, 0, none⟩ = some (.slice A n c) ∧ w'.cell? ⟨w.heap.size, 1, none⟩ = some (.bool g) ∧ w'.cell? ⟨w.heap.size + 1, 0, none⟩ = some (.slice B m d) ∧ w'.cell? ⟨w.heap.size + 1, 1, none⟩ = some (.bool h)) (go_keep)
    (first
    | (go_at_call 100; refine (C.out _ (b3d _ _ _ _)).mono ?_; rintro e w2 ⟨A2, n2, c2, rfl, hd2, hf2, hb2⟩; obtain ⟨R0, R1, R2, hbw⟩ := bl3 hb2; have HW2 := Lib.hid hbw; obtain ⟨p0, p1, _, _, _⟩ := id R0; obtain ⟨q0, q1, _, _, _⟩ := id R1; have HD := Lib.hid hd2; have HF : Hid (∀ ad, A2 = some ad → w.heap.size + 1 + 1 < ad.block) := (fun ad e => by have := hf2 ad e; simp at this; omega); clear hd2 hf2 hb2 hbw)
    | (go_at_call 99; refine (SG.out _ _ _ _ HD.out).mono ?_; rintro e w3 ⟨rfl, hb3⟩; have R0 := R0.keep hb3; have R1 := R1.keep hb3; have R2 := R2.keep hb3; have HW3 := Lib.hid (HW2.out.trans (hb3.mono HW2.out.size)); have HD := Lib.hid (HD.out.keep hb3); obtain ⟨p0, p1, _, _, _⟩ := id R0; obtain ⟨q0, q1, _, _, _⟩ := id R1; obtain ⟨k0, k1, l0, l1, _⟩ := id R2; clear hb3))
  go_wp2_with fail
  obtain ⟨s0, s1⟩ := store2 k0 k1 (.slice A2 n2 c2) (.bool g')
  refine bodyPost_ret (v := .agg #[.slice A2 n2 c2, .bool g']) (by simp [results, Tryd.results71, go_sem, s0, s1]) rfl ?_
  exact retz_fin (F.out _ _ _ _ HD.out) HF.out HW3.out (by omega)
end Go.Proofs.YtndcjldnnfhedaaDoor.wd2

/- Contracts of the reference's Compare, Down and Up. -/
namespace Go.Proofs.YtndcjldnnfhedaaDoor.wd2
set_option maxRecDepth 100000
open Go.RowKit
set_option linter.unusedVariables false
attribute [local go_sem ↓] Go.wp_at_zero Go.wp_at_succ

theorem b3e (w : World) (o1 o2 o3 : Obj) : Below w.heap.size w (((w.alloc o1).alloc o2).drew.alloc o3) := ((((Below.refl w.heap.size w).alloc (Nat.le_refl _) o1).alloc (by simp) o2).drew).alloc (by simp; omega) o3
theorem Sm.neg {z : Int} (h : Sm z) : Sm (-z) := by unfold Sm at *; rw [Int.natAbs_neg]; exact h

theorem sgn_of (z : Int) : (z.natAbs = 0 → sgn z = 0) ∧ (z < 0 → sgn z = -1) ∧ (0 < z → sgn z = 1) := by
  unfold sgn
  refine ⟨fun h => ?_, fun h => if_pos h, fun h => ?_⟩
  · rw [if_neg (by omega), if_neg (by omega)]
  · rw [if_neg (by omega), if_pos h]

/-- two structs of the call's own, and what lay before is as it was -/
structure Two (w : World) (a0 a1 b0 b1 : Value) (wr : World) : Prop where
  l : Bl2 wr w.heap.size a0 a1
  r : Bl2 wr (w.heap.size + 1) b0 b1
  bel : Below w.heap.size w wr
theorem Two.new (w : World) (a0 a1 b0 b1 : Value) (T U : Nat) : Two w a0 a1 b0 b1 ((w.alloc (.cells #[a0, a1] T)).alloc (.cells #[b0, b1] U)) := by
  have h2 := Bl2.new (w.alloc (.cells #[a0, a1] T)) b0 b1 U
  simp at h2
  exact ⟨(Bl2.new w a0 a1 T).alloc _, h2, ((Below.refl _ _).alloc (Nat.le_refl _) _).alloc (by simp) _⟩
theorem Two.keep {w wr w2 : World} {a0 a1 b0 b1 : Value} (h : Two w a0 a1 b0 b1 wr) (hb : Below wr.heap.size wr w2) : Two w a0 a1 b0 b1 w2 := ⟨h.l.keep hb, h.r.keep hb, h.bel.trans (hb.mono h.bel.size)⟩
theorem Two.drew {w wr : World} {a0 a1 b0 b1 : Value} (h : Two w a0 a1 b0 b1 wr) : Two w a0 a1 b0 b1 wr.drew := h.keep (Below.refl _ _).drew
theorem Two.alloc {w wr : World} {a0 a1 b0 b1 : Value} (h : Two w a0 a1 b0 b1 wr) (o : Obj) : Two w a0 a1 b0 b1 (wr.alloc o) := h.keep ((Below.refl _ _).alloc (Nat.le_refl _) o)

theorem NZ.cases {w : World} {A : Option Addr} {n c : Nat} {g : Bool} {z : Int} (h : NZ w A n c g z) : (z = 0 ∧ n = 0) ∨ (z < 0 ∧ 0 < n ∧ g = true) ∨ (0 < z ∧ 0 < n ∧ g = false) := by
  have h1 := h.dig.len
  have h2 := h.sgn
  have h3 := dgs_len_pos z.natAbs
  rcases Int.lt_trichotomy z 0 with q | q | q
  · exact .inr (.inl ⟨q, by rw [h1, h3]; omega, by rw [h2]; exact decide_eq_true q⟩)
  · exact .inl ⟨q, by rw [h1, q]; simp [dgs_zero]⟩
  · exact .inr (.inr ⟨q, by rw [h1, h3]; omega, by rw [h2]; exact decide_eq_false (by omega)⟩)

/-- the quotient rounded down, of signs and absolute values -/
theorem qdn_abs (x y : Int) (hy : y ≠ 0) : qdn x y = if decide (x < 0) = decide (y < 0) then ((x.natAbs / y.natAbs : Nat) : Int) else -((x.natAbs / y.natAbs + (if x.natAbs % y.natAbs = 0 then 0 else 1) : Nat) : Int) := by
  have hB : 0 < y.natAbs := by omega
  obtain ⟨e1, e2⟩ := ediv_of_nat x.natAbs y.natAbs hB
  unfold qdn
  by_cases h0 : 0 < y
  · rw [if_pos h0]
    have hyv : y = (y.natAbs : Int) := by omega
    have d2 : decide (y < 0) = false := decide_eq_false (by omega)
    by_cases hx : x < 0
    · have d1 : decide (x < 0) = true := decide_eq_true hx
      have hxv : x = -(x.natAbs : Int) := by omega
      rw [d1, d2, if_neg (by simp)]
      conv => lhs; rw [hyv, hxv]
      rw [e2]
      split <;> simp
    · have d1 : decide (x < 0) = false := decide_eq_false hx
      have hxv : x = (x.natAbs : Int) := by omega
      rw [d1, d2, if_pos rfl]
      conv => lhs; rw [hyv, hxv]
      rw [e1]
  · rw [if_neg h0]
    have hyv : -y = (y.natAbs : Int) := by omega
    have d2 : decide (y < 0) = true := decide_eq_true (by omega)
    rw [hyv]
    by_cases hx : x < 0
    · have d1 : decide (x < 0) = true := decide_eq_true hx
      have hxv : -x = (x.natAbs : Int) := by omega
      rw [d1, d2, if_pos rfl, hxv, e1]
    · have d1 : decide (x < 0) = false := decide_eq_false hx
      have hxv : x = (x.natAbs : Int) := by omega
      rw [d1, d2, if_neg (by simp)]
      conv => lhs; rw [hxv]
      rw [e2]
      split <;> simp

end Go.Proofs.YtndcjldnnfhedaaDoor.wd2

/- Contracts of the reference's Up and Sqrt. -/
namespace Go.Proofs.YtndcjldnnfhedaaDoor.wd2
set_option maxRecDepth 100000
open Go.RowKit
set_option linter.unusedVariables false
attribute [local go_sem ↓] Go.wp_at_zero Go.wp_at_succ

-- Sqrt
theorem can_snoc_one {a : List Nat} (h : Dok a) : Can (a ++ [1]) := by
  refine ⟨Dok.append.2 ⟨h, dok_single (by omega)⟩, .inr ?_⟩
  rw [val_snoc, List.length_append]
  show pw (a.length + 1 - 1) ≤ _
  rw [Nat.add_sub_cancel]; omega

theorem sq_unique {N r l : Nat} (h1 : r * r ≤ N) (h2 : N < (r + 1) * (r + 1)) (h3 : l * l ≤ N) (h4 : N < (l + 1) * (l + 1)) : l = r := by
  rcases Nat.lt_trichotomy l r with h | h | h
  · have := Nat.mul_le_mul (show l + 1 ≤ r by omega) (show l + 1 ≤ r by omega); omega
  · exact h
  · have := Nat.mul_le_mul (show r + 1 ≤ l by omega) (show r + 1 ≤ l by omega); omega
theorem sq_lt {N l h : Nat} (h1 : l * l ≤ N) (h2 : N < h * h) : l < h := by
  rcases Nat.lt_or_ge l h with q | q
  · exact q
  · have := Nat.mul_le_mul q q; omega
/-- what Sqrt's loop knows of its two bounds -/
structure SqI (w : World) (N lo hh : Nat) (A1 : Option Addr) (n1 c1 : Nat) (A2 : Option Addr) (n2 c2 : Nat) (wr : World) : Prop where
  d1 : Dig wr A1 n1 c1 (dgs lo)
  d2 : Dig wr A2 n2 c2 (dgs hh)
  low : lo * lo ≤ N
  high : N < hh * hh
  len : (dgs hh).length ≤ 400001
  fr : Fr w A1
  bel : Below w.heap.size w wr
theorem can_one : Can [1] := by rw [can_single (m := 1) (by omega) (by omega)]; exact can_dgs 1
theorem can_two : Can [2] := by rw [can_single (m := 2) (by omega) (by omega)]; exact can_dgs 2

end Go.Proofs.YtndcjldnnfhedaaDoor.wd2

/- Contracts of the reference's OfInt (any int) and IsInt. -/
namespace Go.Proofs.YtndcjldnnfhedaaDoor.wd2
set_option maxRecDepth 100000
open Go.RowKit
set_option linter.unusedVariables false
attribute [local go_sem ↓] Go.wp_at_zero Go.wp_at_succ

theorem ofint_any (z : Int) (w : World) (h1 : -9223372036854775808 ≤ z) (h2 : z ≤ 9223372036854775807) :
    Calls Tryd.prog 72 #[.int .i64 z] w (RetZ w z) := by
  by_cases hz : z < 0
  · obtain ⟨N, rfl⟩ : ∃ N : Nat, z = -(N : Int) := ⟨z.natAbs, by omega⟩
    refine (ofint_neg N w (by omega) (by omega)).mono ?_
    rintro e w' ⟨A, n, c, he, hd, hf, hb⟩
    exact ⟨A, n, c, true, he, ⟨by rw [Int.natAbs_neg, Int.natAbs_natCast]; exact hd, (decide_eq_true hz).symm⟩, hf, hb⟩
  · obtain ⟨N, rfl⟩ : ∃ N : Nat, z = (N : Int) := ⟨z.natAbs, by omega⟩
    refine (ofint_pos N w (by omega)).mono ?_
    rintro e w' ⟨A, n, c, he, hd, hf, hb⟩
    exact ⟨A, n, c, false, he, ⟨by rw [Int.natAbs_natCast]; exact hd, (decide_eq_false hz).symm⟩, hf, hb⟩

theorem sm_i64 {z : Int} (h1 : -9223372036854775808 ≤ z) (h2 : z ≤ 9223372036854775808) : Sm z := by
  unfold Sm
  have := dgs_len_ten (n := z.natAbs) (by omega)
  omega
theorem sgn_lt (z : Int) : (sgn z < 0) ↔ z < 0 := by unfold sgn; split; omega; split <;> omega
theorem sgn_gt (z : Int) : (0 < sgn z) ↔ 0 < z := by unfold sgn; split; omega; split <;> omega

/-- one struct of the call's own, and what lay before is as it was -/
structure One (w : World) (a0 a1 : Value) (wr : World) : Prop where
  l : Bl2 wr w.heap.size a0 a1
  bel : Below w.heap.size w wr
theorem One.new (w : World) (a0 a1 : Value) (T : Nat) : One w a0 a1 (w.alloc (.cells #[a0, a1] T)) := ⟨Bl2.new w a0 a1 T, (Below.refl _ _).alloc (Nat.le_refl _) _⟩
theorem One.keep {w wr w2 : World} {a0 a1 : Value} (h : One w a0 a1 wr) (hb : Below wr.heap.size wr w2) : One w a0 a1 w2 := ⟨h.l.keep hb, h.bel.trans (hb.mono h.bel.size)⟩
theorem One.drew {w wr : World} {a0 a1 : Value} (h : One w a0 a1 wr) : One w a0 a1 wr.drew := h.keep (Below.refl _ _).drew
theorem One.alloc {w wr : World} {a0 a1 : Value} (h : One w a0 a1 wr) (o : Obj) : One w a0 a1 (wr.alloc o) := h.keep ((Below.refl _ _).alloc (Nat.le_refl _) o)

theorem ofint_min (wx : World) : Calls Tryd.prog 72 #[.int .i64 (-9223372036854775808)] wx (RetZ wx (-9223372036854775808)) := by
  obtain ⟨M, hM⟩ : ∃ M : Int, M = -9223372036854775808 := ⟨_, rfl⟩
  rw [← hM]
  exact ofint_any M wx (by omega) (by omega)
theorem ofint_max (wx : World) : Calls Tryd.prog 72 #[.int .i64 9223372036854775807] wx (RetZ wx 9223372036854775807) := by
  obtain ⟨M, hM⟩ : ∃ M : Int, M = 9223372036854775807 := ⟨_, rfl⟩
  rw [← hM]
  exact ofint_any M wx (by omega) (by omega)
end Go.Proofs.YtndcjldnnfhedaaDoor.wd2
