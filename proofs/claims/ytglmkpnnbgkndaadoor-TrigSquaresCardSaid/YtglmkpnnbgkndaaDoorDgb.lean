/- The reference of many digits: products, signed numbers, what the laws call. -/
import Derived.Test.YtglmkpnnbgkndaaDoorDga
import Derived.Deep.RegionHeld3
import Derived.Deep.DrawnRows
import Derived.Deep.LoopGhost
/- Contract of the reference's Times. -/
namespace Go.Proofs.YtglmkpnnbgkndaaDoor.wd2
open Go.RowKit
set_option linter.unusedVariables false

/-- the block that Times fills -/
structure TimW (w : World) (L : Nat) (O : List Nat) (wr : World) : Prop where
  own : wr.ownsRow w.heap.size 3 1 (.slice (some ⟨w.heap.size, 0, none⟩) L L) L (O.map dv)
  bel : Below w.heap.size w wr
theorem TimW.cell {w wr : World} {L : Nat} {O : List Nat} (h : TimW w L O wr) {j : Nat} (hj : j < L) : wr.cell? ⟨w.heap.size, j, none⟩ = some (.int .i64 ((O.getD j 0 : Nat) : Int)) := by
  have hl : O.length = L := by have := h.own.1; simpa using this
  have := h.own.cellAt j (by omega)
  rw [this, List.getElem?_map, List.getElem?_eq_getElem (by omega : j < O.length), List.getD_eq_getElem?_getD, List.getElem?_eq_getElem (by omega : j < O.length)]; rfl
theorem TimW.froz {w wr : World} {L : Nat} {O : List Nat} (h : TimW w L O wr) (j : Nat) : wr.frozen? ⟨w.heap.size, j, none⟩ = false := h.own.frozenAt j
theorem TimW.store {w wr : World} {L : Nat} {O : List Nat} (h : TimW w L O wr) (j x : Nat) {X : Int} (hX : X = (x : Int)) : TimW w L (O.set j x) (wr.setCell ⟨w.heap.size, j, none⟩ (.int .i64 X)) := by
  refine ⟨?_, h.bel.setCell (Nat.le_refl _) _⟩
  have := (h.own.stored j (.int .i64 X)).1
  rw [hX] at this ⊢
  rw [List.map_set]
  exact this
theorem TimW.keep {w wr ws : World} {L : Nat} {O : List Nat} (h : TimW w L O wr) (hb : Below wr.heap.size wr ws) : TimW w L O ws := by
  refine ⟨⟨h.own.1, ?_⟩, h.bel.trans (hb.mono h.bel.size)⟩
  rcases h.own.2 with ⟨hv, _⟩ | ⟨g, cap, cur, hv, hb0, hg, r⟩
  · simp at hv
  · exact .inr ⟨g, cap, cur, hv, hb0, (hb.block g (Array.getElem?_eq_some_iff.1 hg).1).trans hg, r⟩
theorem TimW.lt {w wr : World} {L : Nat} {O : List Nat} (h : TimW w L O wr) : w.heap.size < wr.heap.size := (h.own.lt _ rfl).2
theorem TimW.drew {w wr : World} {L : Nat} {O : List Nat} (h : TimW w L O wr) : TimW w L O wr.drew := ⟨h.own.drew, h.bel.drew⟩

set_option maxHeartbeats 4000000 in
theorem times_any (A B : Option Addr) (n m c d : Nat) (a b : List Nat) (w : World) (ha : Dig w A n c a) (hb : Dig w B m d b) (ca : Dok a) (cb : Dok b) (h1 : a.length ≤ 2000000) (h2 : b.length ≤ 2000000) :
    Calls Tryd.prog 60 #[.slice A n c, .slice B m d] w (Ret w (dgs (val a * val b))) := by
  obtain ⟨i0, hi, hz0, hz1, hz2⟩ := info_parts Tryd.infoI
  have hla := ha.len
  have hlb := hb.len
  have HA := Lib.hid ha
  have HB := Lib.hid hb
  have CA := Lib.hid ca
  have CB := Lib.hid cb
  clear ha hb ca cb
  have LA := Lib.hid hla
  have LB := Lib.hid hlb
  have n1 : n ≤ 2000000 := by omega
  have n2 : m ≤ 2000000 := by omega
  clear hla hlb h1 h2
  go_enter Tryd.func60, Tryd.ntmps60
  go_wp2_with (at_make; refine wpList_make_full _ rfl _ _ 40 rfl w.heap.size 3 i0 (.int .i64 0) 1 Tryd.underlying40 hi hz0 hz1 _ _ _ _ (n + m) rfl rfl (by first | rfl | go_num) (by first | rfl | go_num) (by rw [hz2]; omega) (by unfold maxLen; omega) (Nat.le_refl _) ?_)
  intro w1 hown hgrow
  have hB : Below w.heap.size w w1 := (Below.refl _ _).grown hgrow (Nat.le_refl _) (by intro k hk; cases hk)
  have T0 : Hid (TimW w (n + m) (List.replicate (a.length + b.length) 0) w1) := by
    refine ⟨?_, hB⟩
    have e : (List.replicate (a.length + b.length) 0).map dv = (madeCells #[Value.int .i64 0] (n + m)).toList := by rw [toList_madeCells_one, List.map_replicate, LA.out, LB.out]; rfl
    rw [e]
    simpa [Value.cells] using hown
  clear hgrow hown hB
  go_wp2_with fail
  go_loopw [6] (fun iv wr => ∃ i : Nat, ∃ O : List Nat, i ≤ n ∧ iv = .int .i64 (i : Int) ∧ Hid (TimI a b i O) ∧ Hid (TimW w (n + m) O wr)) (fun iv _ => n - (intOf iv).toNat)
  case atStart => exact ⟨0, _, Nat.zero_le _, rfl, timI_start a b, T0⟩
  case round =>
    clear T0
    obtain ⟨i, O, hin, rfl, hI, hT⟩ := hrel
    by_cases q1 : i < n
    · have z1 : (i : Int) < (n : Int) := by omega
      have hia : i < a.length := by rw [← LA.out]; exact q1
      have J0 : Hid (TimJ a b i 0 0 O) := timJ_start CA.out CB.out hia hI.out
      clear hI
      go_wp2_with fail
      go_loopw [7, 8] (fun cv kv ws => ∃ k cy : Nat, ∃ O' : List Nat, k ≤ m ∧ cv = .int .i64 (cy : Int) ∧ kv = .int .i64 (k : Int) ∧ Hid (TimJ a b i k cy O') ∧ Hid (TimW w (n + m) O' ws)) (fun _ kv _ => m - (intOf kv).toNat)
      case atStart => exact ⟨0, 0, O, Nat.zero_le _, rfl, rfl, J0, hT⟩
      case round =>
        clear hT
        obtain ⟨k, cy, O', hkm, rfl, rfl, hJ, hT⟩ := hrel
        have hcy := hJ.out.c1
        by_cases q2 : k < m
        · have z2 : (k : Int) < (m : Int) := by omega
          have hkb : k < b.length := by rw [← LB.out]; exact q2
          obtain ⟨ga, rfl, hga, hca⟩ := (HA.out.keep hT.out.bel).cell hia
          obtain ⟨gb, rfl, hgb, hcb⟩ := (HB.out.keep hT.out.bel).cell hkb
          have hco := hT.out.cell (j := i + k) (by omega)
          have hfo := hT.out.froz (i + k)
          obtain ⟨x, hx⟩ : ∃ x, x = a.getD i 0 := ⟨_, rfl⟩
          obtain ⟨y, hy⟩ : ∃ y, y = b.getD k 0 := ⟨_, rfl⟩
          obtain ⟨o, ho⟩ : ∃ o, o = O'.getD (i + k) 0 := ⟨_, rfl⟩
          have hxb := CA.out.get i
          have hyb := CB.out.get k
          have hob := hJ.out.ok.get (i + k)
          rw [← hx] at hca hxb
          rw [← hy] at hcb hyb
          rw [← ho] at hco hob
          obtain ⟨z, hz⟩ : ∃ z, z = x * y := ⟨_, rfl⟩
          have hzb : z ≤ 72057593501057025 := by rw [hz]; exact mul_digit hxb hyb
          have E : (x : Int) * (y : Int) = (z : Int) := by rw [hz, Int.natCast_mul]
          have J2 : Hid (TimJ a b i (k + 1) ((o + z + cy) / 268435456) (O'.set (i + k) ((o + z + cy) % 268435456))) := by
            have := timJ_step CA.out CB.out hia hkb hJ.out
            rw [← hx, ← hy, ← ho, ← hz] at this
            exact this
          clear hx hy ho hz hkb
          have W1 : IntKind.i64.wrap ((i : Int) + (k : Int)) = (i : Int) + (k : Int) := IntWalk.i64_in _ (by omega)
          have W2 : IntKind.i64.wrap (z : Int) = (z : Int) := IntWalk.i64_in _ (by omega)
          have W3 : IntKind.i64.wrap ((o : Int) + (z : Int)) = (o : Int) + (z : Int) := IntWalk.i64_in _ (by omega)
          have W4 : IntKind.i64.wrap ((o : Int) + (z : Int) + (cy : Int)) = (o : Int) + (z : Int) + (cy : Int) := IntWalk.i64_in _ (by omega)
          have b0 : (0 : Int) ≤ (i : Int) + (k : Int) := by omega
          have b1 : (i : Int) + (k : Int) < (n : Int) + (m : Int) := by omega
          have b2 : ((i : Int) + (k : Int)).toNat = i + k := by omega
          go_wp2_with fail
          go_region
          all_goals
            clear W1 W2 W3 W4 b2
            go_wp2_with fail
            go_roundw
            case rel => exact ⟨k + 1, (o + z + cy) / 268435456, _, by omega, by go_num, by go_num, J2, (hT.out.drew).store (i + k) ((o + z + cy) % 268435456) (by omega)⟩
            case measure => simp [intOf]; omega
        · have e : k = m := by omega
          subst e
          have z2 : ¬ (k : Int) < (k : Int) := by omega
          have hco := hT.out.cell (j := i + k) (by omega)
          have hfo := hT.out.froz (i + k)
          have I2 : Hid (TimI a b (i + 1) (O'.set (i + k) cy)) := by
            have h := hJ.out
            rw [LB.out] at h ⊢
            exact timJ_end hia h
          go_wp2_with fail
          go_roundw
          case rel => exact ⟨i + 1, _, by omega, by go_num, I2, hT.out.store (i + k) cy rfl⟩
          case measure => simp [intOf]; omega
    · have e : i = n := by omega
      subst e
      have z1 : ¬ (i : Int) < (i : Int) := by omega
      have E : Hid (val O = val a * val b) := by
        have h := hI.out
        rw [LA.out] at h
        exact timI_end h
      have hl : O.length = i + m := by have := hT.out.own.1; simpa using this
      have HL := Lib.hid hl
      clear hl
      go_wp2_with (go_at_call 68; refine (trim_any _ _ _ O _ (dig_of_own hT.out.own) hI.out.ok (by rw [HL.out]; omega)).mono ?_; rintro e w2 ⟨Ar, nr, cr, rfl, hdr, hfr, hbr⟩)
      go_ret
      rw [E.out] at hdr
      exact Ret.under hT.out.bel ⟨Ar, nr, cr, rfl, hdr, hfr, hbr⟩
end Go.Proofs.YtglmkpnnbgkndaaDoor.wd2

/- Contract of the reference's Over. -/
namespace Go.Proofs.YtglmkpnnbgkndaaDoor.wd2
open Go.RowKit
set_option linter.unusedVariables false

/-- what Over leaves behind -/
def Ret2 (w : World) (L M : List Nat) (e : Ending) (w' : World) : Prop :=
  ∃ A n c A' n' c', e = .returned (.tuple #[.slice A n c, .slice A' n' c']) ∧ Dig w' A n c L ∧ Fr w A ∧ Dig w' A' n' c' M ∧ Fr w A' ∧ Below w.heap.size w w'

/-- what Over's walk knows of its divisor -/
structure OvB (w : World) (B : Option Addr) (m d : Nat) (b : List Nat) : Prop where
  dig : Dig w B m d b
  can : Can b
  pos : 0 < val b
  len : b.length ≤ 1000000

/-- the state of Over's outer loop: k digits are left -/
structure OvW (w : World) (a b : List Nat) (k : Nat) (O : List Nat) (R : Nat) (A : Option Addr) (n c : Nat) (wr : World) : Prop where
  inv : OverI a (val b) k O R
  tim : TimW w a.length O wr
  rst : Dig wr A n c (dgs R)
  far : ∀ ad, A = some ad → w.heap.size < ad.block

theorem Dig.single_at (w : World) (H m T : Nat) (hH : w.heap.size = H) : Dig (w.alloc (.cells #[.int .i64 (m : Int)] T)) (some ⟨H, 0, none⟩) 1 1 [m] := by
  subst hH; exact Dig.single w m T
theorem rest_len {b : List Nat} (cb : Can b) {R : Nat} (h : R ≤ val b) : (dgs R).length ≤ b.length := by
  have := dgs_len_mono h
  rw [← can_unique b cb] at this; exact this

set_option maxRecDepth 100000 in
set_option maxHeartbeats 8000000 in
theorem over_any (A B : Option Addr) (n m c d : Nat) (a b : List Nat) (w : World) (ha : Dig w A n c a) (ca : Dok a) (hb : OvB w B m d b) (h1 : a.length ≤ 1000000) :
    Calls Tryd.prog 67 #[.slice A n c, .slice B m d] w (Ret2 w (dgs (val a / val b)) (dgs (val a % val b))) := by
  obtain ⟨i0, hi, hz0, hz1, hz2⟩ := info_parts Tryd.infoI
  have hla := ha.len
  have HA := Lib.hid ha
  have HB := Lib.hid hb
  have CA := Lib.hid ca
  clear ha hb ca
  have LA := Lib.hid hla
  have n1 : n ≤ 1000000 := by omega
  clear hla h1
  go_enter Tryd.func67, Tryd.ntmps67
  go_wp2_with (at_make; refine wpList_make_full _ rfl _ _ 40 rfl w.heap.size 3 i0 (.int .i64 0) 1 Tryd.underlying40 hi hz0 hz1 _ _ _ _ n rfl rfl (by first | rfl | go_num) (by first | rfl | go_num) (by rw [hz2]; omega) (by unfold maxLen; omega) (Nat.le_refl _) ?_)
  intro w1 hown hgrow
  have hB : Below w.heap.size w w1 := (Below.refl _ _).grown hgrow (Nat.le_refl _) (by intro k hk; cases hk)
  have T0 : Hid (TimW w a.length (List.replicate a.length 0) w1) := by
    refine ⟨?_, hB⟩
    have e : (List.replicate a.length 0).map dv = (madeCells #[Value.int .i64 0] n).toList := by rw [toList_madeCells_one, List.map_replicate, LA.out]; rfl
    rw [e, ← LA.out]
    simpa [Value.cells] using hown
  clear hgrow hown hB
  go_wp2_with fail
  go_loopw [6, 8] (fun rv iv wr => ∃ (k R : Nat) (O : List Nat) (A' : Option Addr) (n' c' : Nat), k ≤ n ∧ iv = .int .i64 ((k : Int) - 1) ∧ rv = .slice A' n' c' ∧ Hid (OvW w a b k O R A' n' c' wr)) (fun _ iv _ => (intOf iv + 1).toNat)
  case atStart => exact ⟨n, 0, _, none, 0, 0, Nat.le_refl _, by first | rfl | go_num, rfl, ⟨by rw [LA.out]; exact overI_start a _ HB.out.pos, T0.out, by rw [dgs_zero]; exact Dig.nil _, fun _ h => by cases h⟩⟩
  case round =>
    clear T0
    obtain ⟨k, R, O, A', n', c', hkn, rfl, rfl, hW⟩ := hrel
    by_cases hk0 : k = 0
    · subst hk0
      have E := overI_end hW.out.inv
      have hol : O.length = n := by have := hW.out.inv.len; rw [this, LA.out]
      have HOL := Lib.hid hol
      have EQ := Lib.hid E.1
      have ER := Lib.hid E.2
      clear E hol
      go_wp2_with fail
      have td := dig_of_own hW.out.tim.own
      rw [← LA.out] at td
      refine (trim_any _ _ _ O _ td hW.out.inv.ok (by rw [HOL.out]; omega)).mono ?_
      rintro e w2 ⟨Ar, nr, cr, rfl, hdr, hfr, hbr⟩
      have HD := Lib.hid hdr
      have HF := Lib.hid hfr
      have HBr := Lib.hid hbr
      clear hdr hfr hbr td
      go_wp2_with fail
      go_ret2
      have h2 := hW.out.rst.keep HBr.out
      rw [ER.out] at h2
      have h3 := HD.out
      rw [EQ.out] at h3
      exact ⟨_, _, _, _, _, _, rfl, h3, HF.out.under hW.out.tim.bel.size, h2, fun ad e => Nat.le_of_lt (hW.out.far ad e), hW.out.tim.bel.trans (HBr.out.mono hW.out.tim.bel.size)⟩
    · obtain ⟨j, rfl⟩ : ∃ j, k = j + 1 := ⟨k - 1, by omega⟩
      have hja : j < a.length := by rw [← LA.out]; omega
      have HJ := Lib.hid hja
      clear hja
      obtain ⟨g, rfl, hg, hcl⟩ := (HA.out.keep hW.out.tim.bel).cell HJ.out
      obtain ⟨x, hx⟩ : ∃ x, x = a.getD j 0 := ⟨_, rfl⟩
      have hxb := CA.out.get j
      rw [← hx] at hcl hxb
      have HX := Lib.hid hx
      clear hx
      have en : ((j + 1 : Nat) : Int) - 1 = (j : Int) := by omega
      rw [en]
      have hn' : n' ≤ 1000000 := by
        have h1 := hW.out.rst.len
        have h2 := rest_len HB.out.can (Nat.le_of_lt hW.out.inv.lt)
        have h3 := HB.out.len
        omega
      have H63 : Hid (1 + n' ≤ maxLen) := by show _ ≤ _; unfold maxLen; omega
      clear en
      go_wp2_with (at_builtin; refine wpList_append_dig _ rfl _ _ _ rfl wr.heap.size 3 i0 (.int .i64 0) Tryd.underlying40 hi hz0 hz1 hz2 rfl _ 1 [.int .i64 (x : Int)] rfl (World.ownsRow_lit wr #[.int .i64 (x : Int)] 1 (Nat.le_refl _) (by unfold maxLen; omega) rfl) A' n' c' (dgs R) rfl (hW.out.rst.alloc _) H63.out (by omega) (by simp) ?_)
      intro v2 w2 hown2 hgrow2
      obtain ⟨Av, cv, rfl⟩ := own_shape hown2
      have B2 : Hid (Below wr.heap.size wr w2) := ((Below.refl _ _).alloc (Nat.le_refl _) _).grown hgrow2 (by simp) (by intro k hk; simp [Value.ownBlock] at hk; omega)
      have D2 : Hid (Dig w2 Av (1 + n') cv (x :: dgs R)) := dig_of_own (by simpa [dv] using hown2)
      clear hown2 hgrow2
      obtain ⟨R', hR'⟩ : ∃ R', R' = x + 268435456 * R := ⟨_, rfl⟩
      have TR : Hid (∀ wx, Dig wx Av (1 + n') cv (x :: dgs R) → Calls Tryd.prog 68 #[.slice Av (1 + n') cv] wx (Ret wx (dgs R'))) := by
        intro wx hd
        have := trim_any Av (1 + n') cv (x :: dgs R) wx hd (Dok.cons.2 ⟨hxb, (can_dgs R).ok⟩) (by have := hd.len; omega)
        rw [show val (x :: dgs R) = R' by rw [hR']; simp only [val, val_dgs]] at this
        exact this
      have HR' := Lib.hid hR'
      clear hR'
      go_wp2_with fail
      refine (TR.out _ D2.out).mono ?_
      rintro e w3 ⟨A2, n2, c2, rfl, hd3, hf3, hb3⟩
      have T3 : Hid (TimW w a.length O w3) := (hW.out.tim.keep B2.out).keep hb3
      have F3 : Hid (∀ ad, A2 = some ad → w.heap.size < ad.block) := fun ad e => by
        have h1 := hf3 ad e
        have h2 := B2.out.size
        have h3 := hW.out.tim.lt
        omega
      have D3 := Lib.hid hd3
      have hI : Hid (OverI a (val b) (j + 1) O R) := hW.out.inv
      clear hd3 hf3 hb3 TR D2
      clear hW B2
      obtain ⟨vb, hvb⟩ : ∃ vb, vb = val b := ⟨_, rfl⟩
      have UP : Hid (R' < (268435455 + 1) * vb) := by
        have := overI_high hI.out CA.out
        rw [← HX.out, ← HR'.out, ← hvb] at this
        exact this
      have VB := Lib.hid hvb
      clear hvb
      have hn2 : n2 ≤ 1000001 := by
        have h1 := D3.out.len
        have h2 : (dgs R').length ≤ b.length + 1 := by
          refine dgs_len_le _ _ (Nat.lt_of_lt_of_le UP.out ?_)
          rw [VB.out]
          show 268435456 * val b ≤ 268435456 * pw b.length
          have := val_lt HB.out.can.ok
          omega
        have h3 := HB.out.len
        omega
      go_wp2_with fail
      go_loopw [9, 10] (fun lv hv ws => ∃ lo hi : Nat, lv = .int .i64 (lo : Int) ∧ hv = .int .i64 (hi : Int) ∧ lo ≤ hi ∧ hi ≤ 268435455 ∧ Hid (lo * vb ≤ R' ∧ R' < (hi + 1) * vb) ∧ Hid (Below w3.heap.size w3 ws)) (fun lv hv _ => (intOf hv - intOf lv).toNat)
      case atStart => exact ⟨0, 268435455, rfl, rfl, by omega, by omega, ⟨by rw [Nat.zero_mul]; exact Nat.zero_le _, UP.out⟩, Below.refl _ _⟩
      case round =>
        obtain ⟨lo, hh, rfl, rfl, hlh, hhb, hP, hBw⟩ := hrel
        by_cases q1 : lo < hh
        · have z1 : (lo : Int) < (hh : Int) := by omega
          obtain ⟨mm, hmm⟩ : ∃ mm, mm = (lo + hh + 1) / 2 := ⟨_, rfl⟩
          have E : ((lo : Int) + (hh : Int) + 1) / 2 = (mm : Int) := by rw [hmm]; omega
          have m1 : lo < mm := by omega
          have m2 : mm ≤ hh := by omega
          clear hmm
          have TI : Hid (∀ wx, Dig wx B m d b → Dig wx (some ⟨wr.heap.size, 0, none⟩) 1 1 [mm] → Calls Tryd.prog 60 #[.slice B m d, .slice (some ⟨wr.heap.size, 0, none⟩) 1 1] wx (Ret wx (dgs (vb * mm)))) := by
            intro wx h1 h2
            have := times_any B _ m 1 d 1 b [mm] wx h1 h2 HB.out.can.ok (dok_single (by omega)) (by have := HB.out.len; omega) (by simp)
            rw [val_single, ← VB.out] at this
            exact this
          have OL : Hid ((dgs (vb * mm)).length ≤ 4000000) := by
            have := dgs_len_mul vb mm
            have h1 : (dgs vb).length ≤ b.length := rest_len HB.out.can (by rw [VB.out]; exact Nat.le_refl _)
            have h2 := dgs_len_le mm 1 (show mm < 268435456 * 1 by omega)
            have h3 := HB.out.len
            show _ ≤ _; omega
          have OR : Hid (∀ A4 n4 c4 wx, Dig wx A4 n4 c4 (dgs (vb * mm)) → Dig wx A2 n2 c2 (dgs R') → Calls Tryd.prog 62 #[.slice A4 n4 c4, .slice A2 n2 c2] wx fun e w' => e = .returned (.int .i64 (ord (vb * mm) R')) ∧ Below wx.heap.size wx w') := by
            intro A4 n4 c4 wx h1 h2
            have := order_any A4 A2 n4 n2 c4 c2 _ _ wx h1 h2 (can_dgs _) (can_dgs _) OL.out (by rw [← h2.len]; omega)
            rw [val_dgs, val_dgs] at this
            exact this
          by_cases q2 : vb * mm ≤ R'
          · have ho := ord_le.2 q2
            obtain ⟨ov, hov⟩ : ∃ ov, ov = ord (vb * mm) R' := ⟨_, rfl⟩
            rw [← hov] at ho OR
            clear hov
            have P2 : Hid (mm * vb ≤ R' ∧ R' < (hh + 1) * vb) := ⟨by rw [Nat.mul_comm]; exact q2, hP.out.2⟩
            clear q2 OL hP
            go_wp2_with fail
            refine (TI.out _ ((HB.out.dig.keep (T3.out.keep hBw.out).bel).alloc _) (Dig.single _ _ _)).mono ?_
            rintro e w4 ⟨A4, n4, c4, rfl, hd4, hf4, hb4⟩
            have D4 := Lib.hid hd4
            have B4 := Lib.hid hb4
            clear hd4 hf4 hb4
            go_wp2_with fail
            refine (OR.out _ _ _ _ D4.out (((D3.out.keep hBw.out).alloc _).keep B4.out)).mono ?_
            rintro e w5 ⟨rfl, hb5⟩
            have BN : Hid (Below w3.heap.size w3 w5) := ((hBw.out.alloc hBw.out.size _).trans (B4.out.mono (by have := hBw.out.size; simp; omega))).trans (hb5.mono (by have := hBw.out.size; have := B4.out.size; simp at this; omega))
            clear hb5
            go_wp2_with fail
            go_roundw
            case rel => exact ⟨mm, hh, rfl, rfl, m2, hhb, P2, BN⟩
            case measure => simp [intOf]; omega
          · have ho : ¬ ord (vb * mm) R' ≤ 0 := fun h => q2 (ord_le.1 h)
            obtain ⟨ov, hov⟩ : ∃ ov, ov = ord (vb * mm) R' := ⟨_, rfl⟩
            rw [← hov] at ho OR
            clear hov
            have P2 : Hid (lo * vb ≤ R' ∧ R' < (mm - 1 + 1) * vb) := ⟨hP.out.1, by rw [show mm - 1 + 1 = mm by omega, Nat.mul_comm]; omega⟩
            clear q2 OL hP
            go_wp2_with fail
            refine (TI.out _ ((HB.out.dig.keep (T3.out.keep hBw.out).bel).alloc _) (Dig.single _ _ _)).mono ?_
            rintro e w4 ⟨A4, n4, c4, rfl, hd4, hf4, hb4⟩
            have D4 := Lib.hid hd4
            have B4 := Lib.hid hb4
            clear hd4 hf4 hb4
            go_wp2_with fail
            refine (OR.out _ _ _ _ D4.out (((D3.out.keep hBw.out).alloc _).keep B4.out)).mono ?_
            rintro e w5 ⟨rfl, hb5⟩
            have BN : Hid (Below w3.heap.size w3 w5) := ((hBw.out.alloc hBw.out.size _).trans (B4.out.mono (by have := hBw.out.size; simp; omega))).trans (hb5.mono (by have := hBw.out.size; have := B4.out.size; simp at this; omega))
            clear hb5
            go_wp2_with fail
            go_roundw
            case rel => exact ⟨lo, mm - 1, rfl, by go_num, by omega, by omega, P2, BN⟩
            case measure => simp [intOf]; omega
        · have e : lo = hh := by omega
          subst e
          have z1 : ¬ (lo : Int) < (lo : Int) := by omega
          have T4 : Hid (TimW w a.length O wr) := T3.out.keep hBw.out
          have D4 : Hid (Dig wr A2 n2 c2 (dgs R')) := D3.out.keep hBw.out
          clear T3 D3
          have hco := T4.out.cell HJ.out
          have hfo := T4.out.froz j
          have hjn : (j : Int) < (n : Int) := by omega
          have z0 : ¬ ((j + 1 : Nat)) = 0 := by omega
          have T5 : Hid (TimW w a.length (O.set j lo) (wr.setCell ⟨w.heap.size, j, none⟩ (.int .i64 (lo : Int)))) := T4.out.store j lo rfl
          have D5 : Hid (Dig (wr.setCell ⟨w.heap.size, j, none⟩ (.int .i64 (lo : Int))) A2 n2 c2 (dgs R')) := D4.out.far _ (fun ad e => by have := F3.out ad e; show ad.block ≠ w.heap.size; omega) _
          have B5 : Hid (Below w.heap.size w (wr.setCell ⟨w.heap.size, j, none⟩ (.int .i64 (lo : Int)))) := T5.out.bel
          have hl5 : Hid (n = a.length) := LA.out
          have TR1 : Hid (∀ wx A5 n5 c5, Dig wx A5 n5 c5 [lo] → Calls Tryd.prog 68 #[.slice A5 n5 c5] wx (Ret wx (dgs lo))) := by
            intro wx A5 n5 c5 hd
            have := trim_any A5 n5 c5 [lo] wx hd (dok_single (by omega)) (by simp)
            rw [val_single] at this
            exact this
          have LO : Hid ((dgs lo).length ≤ 1) := dgs_len_le lo 1 (show lo < 268435456 * 1 by omega)
          have TI : Hid (∀ wx A5 n5 c5, Dig wx B m d b → Dig wx A5 n5 c5 (dgs lo) → Calls Tryd.prog 60 #[.slice B m d, .slice A5 n5 c5] wx (Ret wx (dgs (vb * lo)))) := by
            intro wx A5 n5 c5 h1 h2
            have := times_any B A5 m n5 d c5 b (dgs lo) wx h1 h2 HB.out.can.ok (can_dgs lo).ok (by have := HB.out.len; omega) (by have := LO.out; omega)
            rw [val_dgs, ← VB.out] at this
            exact this
          have PL : Hid (vb * lo ≤ R') := by have := hP.out.1; show _ ≤ _; rw [Nat.mul_comm]; exact this
          have LS : Hid (∀ wx A6 n6 c6, Dig wx A2 n2 c2 (dgs R') → Dig wx A6 n6 c6 (dgs (vb * lo)) → Calls Tryd.prog 63 #[.slice A2 n2 c2, .slice A6 n6 c6] wx (Ret wx (dgs (R' - vb * lo)))) := by
            intro wx A6 n6 c6 h1 h2
            have hlr : (dgs R').length ≤ 2000000 := by rw [← h1.len]; omega
            have := less_any A2 A6 n2 n6 c2 c6 _ _ wx h1 h2 (can_dgs _).ok (can_dgs _) (by rw [val_dgs, val_dgs]; exact PL.out) hlr (Nat.le_trans (dgs_len_mono PL.out) hlr)
            rw [val_dgs, val_dgs] at this
            exact this
          have INV : Hid (OverI a vb j (O.set j lo) (R' - vb * lo)) := by
            have := overI_step hI.out HJ.out (low := lo) (by omega) (by rw [← HX.out, ← HR'.out, ← VB.out]; exact hP.out.1) (by rw [← HX.out, ← HR'.out, ← VB.out]; exact hP.out.2)
            rw [← HX.out, ← HR'.out, ← VB.out, Nat.mul_comm lo] at this
            exact this
          clear hI hP UP
          go_wp2_with fail
          refine (TR1.out _ (some ⟨wr.heap.size, 0, none⟩) 1 1 (Dig.single_at _ _ lo 3 (by simp))).mono ?_
          rintro e w6 ⟨A6, n6, c6, rfl, hd6, hf6, hb6⟩
          have D6 := Lib.hid hd6
          have T6 : Hid (TimW w a.length (O.set j lo) w6) := (T5.out.keep ((Below.refl _ _).alloc (Nat.le_refl _) _)).keep hb6
          have E6 : Hid (Dig w6 A2 n2 c2 (dgs R')) := (D5.out.alloc _).keep hb6
          clear hd6 hf6 hb6 T5 D5 B5
          go_wp2_with fail
          refine (TI.out _ _ _ _ (HB.out.dig.keep T6.out.bel) D6.out).mono ?_
          rintro e w7 ⟨A7, n7, c7, rfl, hd7, hf7, hb7⟩
          have D7 := Lib.hid hd7
          have T7 : Hid (TimW w a.length (O.set j lo) w7) := T6.out.keep hb7
          have E7 : Hid (Dig w7 A2 n2 c2 (dgs R')) := E6.out.keep hb7
          clear hd7 hf7 hb7 T6 E6 D6
          go_wp2_with fail
          refine (LS.out _ _ _ _ E7.out D7.out).mono ?_
          rintro e w8 ⟨A8, n8, c8, rfl, hd8, hf8, hb8⟩
          have D8 := Lib.hid hd8
          have T8 : Hid (TimW w a.length (O.set j lo) w8) := T7.out.keep hb8
          have F8 : Hid (∀ ad, A8 = some ad → w.heap.size < ad.block) := fun ad e => by have h1 := hf8 ad e; have h2 := T7.out.lt; omega
          clear hd8 hf8 hb8 T7 E7 D7
          go_wp2_with fail
          go_roundw
          case rel => exact ⟨j, R' - vb * lo, _, A8, n8, c8, by omega, by first | rfl | go_num, rfl, ⟨by rw [← VB.out]; exact INV.out, T8.out, D8.out, F8.out⟩⟩
          case measure => simp [intOf]
end Go.Proofs.YtglmkpnnbgkndaaDoor.wd2

/- Contracts of the reference's numbers: sign, Minus, Plus, Mul, Compare. -/
namespace Go.Proofs.YtglmkpnnbgkndaaDoor.wd2
open Go.RowKit
set_option linter.unusedVariables false
attribute [local go_sem ↓] Go.wp_at_zero Go.wp_at_succ

/-- a number as it lies in memory -/
structure NZ (w : World) (A : Option Addr) (n c : Nat) (g : Bool) (z : Int) : Prop where
  dig : Dig w A n c (dgs z.natAbs)
  sgn : g = decide (z < 0)
theorem NZ.keep {w w' : World} {A : Option Addr} {n c : Nat} {g : Bool} {z : Int} (h : NZ w A n c g z) (hb : Below w.heap.size w w') : NZ w' A n c g z := ⟨h.dig.keep hb, h.sgn⟩
theorem NZ.alloc {w : World} {A : Option Addr} {n c : Nat} {g : Bool} {z : Int} (h : NZ w A n c g z) (o : Obj) : NZ (w.alloc o) A n c g z := ⟨h.dig.alloc o, h.sgn⟩
def Sm (z : Int) : Prop := (dgs z.natAbs).length ≤ 400000
/-- what a function that returns a number leaves behind -/
def RetZ (w : World) (z : Int) (e : Ending) (w' : World) : Prop := ∃ A n c g, e = .returned (.agg #[.slice A n c, .bool g]) ∧ NZ w' A n c g z ∧ Fr w A ∧ Below w.heap.size w w'
def sv (g : Bool) (N : Nat) : Int := if g then -(N : Int) else (N : Int)
theorem sv_abs (g : Bool) (N : Nat) : (sv g N).natAbs = N := by unfold sv; cases g <;> simp
theorem NZ.sv {w : World} {A : Option Addr} {n c : Nat} {g : Bool} {z : Int} (h : NZ w A n c g z) : sv g z.natAbs = z := by
  have := h.sgn
  unfold Proofs.YtglmkpnnbgkndaaDoor.wd2.sv
  by_cases hz : z < 0
  · rw [decide_eq_true hz] at this; rw [this]; simp; omega
  · rw [decide_eq_false hz] at this; rw [this]; simp; omega
theorem NZ.mk' {w : World} {A : Option Addr} {n c : Nat} {g : Bool} {N : Nat} (h : Dig w A n c (dgs N)) (hg : g = true → N ≠ 0) : NZ w A n c g (Proofs.YtglmkpnnbgkndaaDoor.wd2.sv g N) := by
  refine ⟨by rw [sv_abs]; exact h, ?_⟩
  unfold Proofs.YtglmkpnnbgkndaaDoor.wd2.sv
  cases g
  · simp
  · have := hg rfl; simp; omega
theorem bcell {W w1 : World} (hb : Below W.heap.size W w1) : (∀ b o, b < W.heap.size → w1.cell? ⟨b, o, none⟩ = W.cell? ⟨b, o, none⟩) ∧ (∀ b o, b < W.heap.size → w1.frozen? ⟨b, o, none⟩ = W.frozen? ⟨b, o, none⟩) :=
  ⟨fun b o h => hb.cell (p := ⟨b, o, none⟩) h, fun b o h => hb.frozen (p := ⟨b, o, none⟩) h⟩
theorem Dig.any {w w' : World} {A : Option Addr} {n c : Nat} {l : List Nat} (h : Dig w A n c l) (hb : Below w.heap.size w w') : Dig w' A n c l := h.keep hb

theorem sv_neg (g : Bool) (N : Nat) : decide (sv g N < 0) = (g && decide (N ≠ 0)) := by
  unfold sv
  cases g
  · simp
  · rw [Bool.true_and, decide_eq_decide, if_pos rfl]; omega

theorem sign_any (A : Option Addr) (n c N : Nat) (g g' : Bool) (z : Int) (w : World) (h : Dig w A n c (dgs N)) (hz : sv g N = z) (hg : g' = decide (z < 0)) :
    Calls Tryd.prog 59 #[.agg #[.slice A n c, .bool g]] w fun e w' => e = .returned (.agg #[.slice A n c, .bool g']) ∧ Below w.heap.size w w' := by
  have hl := h.len
  rw [← hz, sv_neg] at hg
  clear h hz
  by_cases hN : N = 0
  · have hn : n = 0 := by rw [hl, hN, dgs_zero]; rfl
    have e : g' = false := by rw [hg, hN]; simp
    clear hl hg
    subst hn e
    go_enter Tryd.func59, Tryd.ntmps59
    go_wp2_with fail
    refine bodyPost_ret (v := .agg #[.slice A 0 c, .bool false]) (by simp [results, Tryd.results59, go_sem]) rfl ?_
    exact ⟨rfl, ((Below.refl _ _).alloc (Nat.le_refl _) _).alloc (by simp) _⟩
  · have hn : 0 < n := by rw [hl, dgs_len_pos]; exact hN
    have t0 : ((n : Int) == 0) = false := beq_eq_false_iff_ne.2 (by omega)
    have e : g' = g := by rw [hg]; simp [hN]
    clear hl hg
    subst e
    go_enter Tryd.func59, Tryd.ntmps59
    go_wp2_with fail
    refine bodyPost_ret (v := .agg #[.slice A n c, .bool g']) (by simp [results, Tryd.results59, go_sem]) rfl ?_
    exact ⟨rfl, ((Below.refl _ _).alloc (Nat.le_refl _) _).alloc (by simp) _⟩

theorem sv_not (g : Bool) (N : Nat) : sv (!g) N = -(sv g N) := by unfold sv; cases g <;> simp

/-- storing a number into the result's block -/
theorem store2 {w : World} {b : Nat} {u v : Value} (c0 : w.cell? ⟨b, 0, none⟩ = some u) (c1 : w.cell? ⟨b, 1, none⟩ = some v) (x y : Value) :
    (w.setCell ⟨b, 0, none⟩ x).cell? ⟨b, 0, none⟩ = some x ∧ ((w.setCell ⟨b, 0, none⟩ x).setCell ⟨b, 1, none⟩ y).cell? ⟨b, 1, none⟩ = some y :=
  ⟨World.cell?_setCell_same w _ x c0, World.cell?_setCell_same _ _ y ((World.cell?_setCell_other w _ _ x (by simp)).trans c1)⟩

theorem minus_any (A : Option Addr) (n c : Nat) (g g' : Bool) (z : Int) (w : World) (h : NZ w A n c g z) (hg : g' = decide (-z < 0)) :
    Calls Tryd.prog 45 #[.agg #[.slice A n c, .bool g]] w fun e w' => e = .returned (.agg #[.slice A n c, .bool g']) ∧ Below w.heap.size w w' := by
  have S : Hid (∀ wx, Below w.heap.size w wx → Calls Tryd.prog 59 #[.agg #[.slice A n c, .bool !g]] wx fun e w' => e = .returned (.agg #[.slice A n c, .bool g']) ∧ Below wx.heap.size wx w') := by
    intro wx hb
    exact sign_any A n c z.natAbs (!g) g' (-z) wx (h.dig.keep hb) (by rw [sv_not, h.sv]) hg
  clear h hg
  go_enter Tryd.func45, Tryd.ntmps45
  go_wp2_with fail
  refine (S.out _ (((Below.refl _ _).alloc (Nat.le_refl _) _).alloc (by simp) _)).mono ?_
  rintro e w2 ⟨rfl, hb2⟩
  have HB := Lib.hid hb2
  have R := (Bl2.new (w.alloc (.cells #[.slice A n c, .bool g] 42)) (.slice none 0 0) (.bool false) 42).keep hb2
  simp at R
  obtain ⟨c0, c1, f0, f1, hlt⟩ := R
  clear hb2
  go_wp2_with fail
  obtain ⟨s0, s1⟩ := store2 c0 c1 (.slice A n c) (.bool g')
  refine bodyPost_ret (v := .agg #[.slice A n c, .bool g']) (by simp [results, Tryd.results45, go_sem, s0, s1]) rfl ?_
  exact ⟨rfl, ((((((Below.refl w.heap.size w).alloc (Nat.le_refl _) _).alloc (by simp) _).trans (HB.out.mono (by simp; omega))).setCell (by simp) _).setCell (by simp) _)⟩

theorem sv_add (g h : Bool) (a b : Nat) : sv g a + sv h b = if g = h then sv g (a + b) else if b ≤ a then sv g (a - b) else sv h (b - a) := by
  unfold sv
  cases g <;> cases h <;> simp <;> (try split) <;> omega

theorem NZ.zero_sgn {w : World} {A : Option Addr} {n c : Nat} {g : Bool} {z : Int} (h : NZ w A n c g z) : g = true → z.natAbs ≠ 0 := by
  intro e
  have := h.sgn
  rw [e] at this
  have := of_decide_eq_true this.symm
  omega

theorem b3d (w : World) (o1 o2 o3 : Obj) : Below w.heap.size w (((w.alloc o1).alloc o2).alloc o3).drew := ((((Below.refl w.heap.size w).alloc (Nat.le_refl _) o1).alloc (by simp) o2).alloc (by simp; omega) o3).drew
theorem b2d (w : World) (o1 o2 : Obj) : Below w.heap.size w ((w.alloc o1).alloc o2).drew := (((Below.refl w.heap.size w).alloc (Nat.le_refl _) o1).alloc (by simp) o2).drew
theorem Bl2.drew {w : World} {b : Nat} {x y : Value} (h : Bl2 w b x y) : Bl2 w.drew b x y := h.keep ((Below.refl _ _).drew)
theorem bl3 {w w2 : World} {a0 a1 b0 b1 c0 c1 : Value} {T U V : Nat} (hb : Below ((((w.alloc (.cells #[a0, a1] T)).alloc (.cells #[b0, b1] U)).alloc (.cells #[c0, c1] V)).drew).heap.size ((((w.alloc (.cells #[a0, a1] T)).alloc (.cells #[b0, b1] U)).alloc (.cells #[c0, c1] V)).drew) w2) :
    Bl2 w2 w.heap.size a0 a1 ∧ Bl2 w2 (w.heap.size + 1) b0 b1 ∧ Bl2 w2 (w.heap.size + 1 + 1) c0 c1 ∧ Below w.heap.size w w2 := by
  have h1 := (((Bl2.new w a0 a1 T).alloc (.cells #[b0, b1] U)).alloc (.cells #[c0, c1] V)).drew.keep hb
  have h2 := (((Bl2.new (w.alloc (.cells #[a0, a1] T)) b0 b1 U)).alloc (.cells #[c0, c1] V)).drew.keep hb
  have h3 := (Bl2.new ((w.alloc (.cells #[a0, a1] T)).alloc (.cells #[b0, b1] U)) c0 c1 V).drew.keep hb
  simp at h1 h2 h3
  exact ⟨h1, h2, h3, (b3d _ _ _ _).trans (hb.mono (by simp; omega))⟩
theorem bl3p {w w2 : World} {a0 a1 b0 b1 c0 c1 : Value} {T U V : Nat} (hb : Below (((w.alloc (.cells #[a0, a1] T)).alloc (.cells #[b0, b1] U)).alloc (.cells #[c0, c1] V)).heap.size (((w.alloc (.cells #[a0, a1] T)).alloc (.cells #[b0, b1] U)).alloc (.cells #[c0, c1] V)) w2) :
    Bl2 w2 w.heap.size a0 a1 ∧ Bl2 w2 (w.heap.size + 1) b0 b1 ∧ Bl2 w2 (w.heap.size + 1 + 1) c0 c1 ∧ Below w.heap.size w w2 := by
  have h1 := (((Bl2.new w a0 a1 T).alloc (.cells #[b0, b1] U)).alloc (.cells #[c0, c1] V)).keep hb
  have h2 := (((Bl2.new (w.alloc (.cells #[a0, a1] T)) b0 b1 U)).alloc (.cells #[c0, c1] V)).keep hb
  have h3 := (Bl2.new ((w.alloc (.cells #[a0, a1] T)).alloc (.cells #[b0, b1] U)) c0 c1 V).keep hb
  simp at h1 h2 h3
  exact ⟨h1, h2, h3, ((((Below.refl w.heap.size w).alloc (Nat.le_refl _) _).alloc (by simp) _).alloc (by simp; omega) _).trans (hb.mono (by simp; omega))⟩
/-- the end of a function that returns a number: the result is stored into the block b of its own -/
theorem retz_fin {w w2 : World} {A2 : Option Addr} {n2 c2 b : Nat} {g : Bool} {z : Int} (hd : NZ w2 A2 n2 c2 g z) (hf : ∀ ad, A2 = some ad → b < ad.block) (hb : Below w.heap.size w w2) (h1 : w.heap.size ≤ b) :
    RetZ w z (.returned (.agg #[.slice A2 n2 c2, .bool g])) ((w2.setCell ⟨b, 0, none⟩ (.slice A2 n2 c2)).setCell ⟨b, 1, none⟩ (.bool g)) :=
  ⟨_, _, _, _, rfl, ⟨(hd.dig.far ⟨b, 0, none⟩ (fun ad e => by have := hf ad e; show ad.block ≠ b; omega) _).far ⟨b, 1, none⟩ (fun ad e => by have := hf ad e; show ad.block ≠ b; omega) _, hd.sgn⟩,
    fun ad e => by have := hf ad e; omega, (hb.setCell h1 _).setCell h1 _⟩
theorem three_bel {w w2 : World} {o1 o2 o3 : Obj} (hb : Below (((w.alloc o1).alloc o2).alloc o3).heap.size (((w.alloc o1).alloc o2).alloc o3) w2) : Below w.heap.size w w2 :=
  ((((Below.refl w.heap.size w).alloc (Nat.le_refl _) o1).alloc (by simp) o2).alloc (by simp; omega) o3).trans (hb.mono (by simp; omega))

set_option maxHeartbeats 4000000 in
theorem plus_any (A B : Option Addr) (n c m d : Nat) (g h : Bool) (x y : Int) (w : World) (hx : NZ w A n c g x) (hy : NZ w B m d h y) (sx : Sm x) (sy : Sm y) :
    Calls Tryd.prog 44 #[.agg #[.slice A n c, .bool g], .agg #[.slice B m d, .bool h]] w (RetZ w (x + y)) := by
  have hgz := hx.zero_sgn
  have hhz := hy.zero_sgn
  have e0 : x + y = sv g x.natAbs + sv h y.natAbs := by rw [hx.sv, hy.sv]
  rw [sv_add] at e0
  unfold Sm at sx sy
  obtain ⟨a, ha⟩ : ∃ a, a = x.natAbs := ⟨_, rfl⟩
  obtain ⟨b, hb⟩ : ∃ b, b = y.natAbs := ⟨_, rfl⟩
  have DA := hx.dig
  have DB := hy.dig
  rw [← ha] at DA sx e0 hgz
  rw [← hb] at DB sy e0 hhz
  have HA := Lib.hid DA
  have HB := Lib.hid DB
  clear hx hy ha hb DA DB
  have SX := Lib.hid sx
  have SY := Lib.hid sy
  clear sx sy
  by_cases hgh : g = h
  · rw [if_pos hgh] at e0
    have C : Hid (∀ wx, Below w.heap.size w wx → Calls Tryd.prog 61 #[.slice A n c, .slice B m d] wx (Ret wx (dgs (a + b)))) := by
      intro wx hb
      have := sum_any A B n m c d _ _ wx (HA.out.keep hb) (HB.out.keep hb) (can_dgs a) (can_dgs b) (by have := SX.out; omega) (by have := SY.out; omega)
      rw [val_dgs, val_dgs] at this
      exact this
    have F : Hid (∀ w' A' n' c', Dig w' A' n' c' (dgs (a + b)) → NZ w' A' n' c' g (x + y)) := by
      intro w' A' n' c' hd
      rw [e0]
      exact NZ.mk' hd (fun e => by have := hgz e; omega)
    clear e0 hgz hhz
    subst hgh
    have t0 : (g == g) = true := by simp
    have n1 : ¬ (w.heap.size = w.heap.size + 1 + 1) := by omega
    have n2 : ¬ (w.heap.size + 1 + 1 = w.heap.size) := by omega
    go_enter Tryd.func44, Tryd.ntmps44
    go_wp2_with fail
    go_region_held3 (fun w' => w'.cell? ⟨w.heap.size, 0, none⟩ = some (.slice A n c) ∧ w'.cell? ⟨w.heap.size, 1, none⟩ = some (.bool g) ∧ w'.cell? ⟨w.heap.size + 1, 0, none⟩ = some (.slice B m d)) (go_keep)
      (first | (go_at_call 61; refine (C.out _ (b3d _ _ _ _)).mono ?_; rintro e w2 ⟨A2, n2, c2, rfl, hd2, hf2, hb2⟩; obtain ⟨⟨i0, i1, _, _, _⟩, ⟨j0, j1, _, _, _⟩, ⟨k0, k1, l0, l1, _⟩, hbw⟩ := bl3 hb2; have HD := Lib.hid hd2; have HF := Lib.hid hf2; have HW := Lib.hid hbw; clear hd2 hf2 hbw hb2))
    go_wp2_with fail
    obtain ⟨s0, s1⟩ := store2 k0 k1 (.slice A2 n2 c2) (.bool g)
    refine bodyPost_ret (v := .agg #[.slice A2 n2 c2, .bool g]) (by simp [results, Tryd.results44, go_sem, s0, s1]) rfl ?_
    exact retz_fin (F.out _ _ _ _ HD.out) (fun ad e => by have := HF.out ad e; simp at this; omega) HW.out (by omega)
  · rw [if_neg hgh] at e0
    have t0 : (g == h) = false := beq_eq_false_iff_ne.2 hgh
    have OC : Hid (∀ wx, Below w.heap.size w wx → Calls Tryd.prog 62 #[.slice A n c, .slice B m d] wx fun e w' => e = .returned (.int .i64 (ord a b)) ∧ Below wx.heap.size wx w') := by
      intro wx hb
      have := order_any A B n m c d _ _ wx (HA.out.keep hb) (HB.out.keep hb) (can_dgs a) (can_dgs b) (by have := SX.out; omega) (by have := SY.out; omega)
      rw [val_dgs, val_dgs] at this
      exact this
    have n1 : ¬ (w.heap.size = w.heap.size + 1 + 1) := by omega
    have n2 : ¬ (w.heap.size + 1 + 1 = w.heap.size) := by omega
    by_cases hab : b ≤ a
    · rw [if_pos hab] at e0
      have ho := ord_nn.2 hab
      obtain ⟨ov, hov⟩ : ∃ ov, ov = ord a b := ⟨_, rfl⟩
      rw [← hov] at ho OC
      have C : Hid (∀ wx, Below w.heap.size w wx → Calls Tryd.prog 63 #[.slice A n c, .slice B m d] wx (Ret wx (dgs (a - b)))) := by
        intro wx hb
        have := less_any A B n m c d _ _ wx (HA.out.keep hb) (HB.out.keep hb) (can_dgs a).ok (can_dgs b) (by rw [val_dgs, val_dgs]; exact hab) (by have := SX.out; omega) (by have := SY.out; omega)
        rw [val_dgs, val_dgs] at this
        exact this
      obtain ⟨g', hg'⟩ : ∃ g', g' = decide (x + y < 0) := ⟨_, rfl⟩
      have SG : Hid (∀ wx A2 n2 c2, Dig wx A2 n2 c2 (dgs (a - b)) → Calls Tryd.prog 59 #[.agg #[.slice A2 n2 c2, .bool g]] wx fun e w' => e = .returned (.agg #[.slice A2 n2 c2, .bool g']) ∧ Below wx.heap.size wx w') :=
        fun wx A2 n2 c2 hd => sign_any A2 n2 c2 (a - b) g g' (x + y) wx hd e0.symm hg'
      have F : Hid (∀ w' A' n' c', Dig w' A' n' c' (dgs (a - b)) → NZ w' A' n' c' g' (x + y)) := by
        intro w' A' n' c' hd
        exact ⟨by rw [e0, sv_abs]; exact hd, hg'⟩
      clear e0 hgz hhz hov hgh hab hg'
      go_enter Tryd.func44, Tryd.ntmps44
      go_wp2_with fail
      refine (OC.out _ ((((Below.refl w.heap.size w).alloc (Nat.le_refl _) _).alloc (by simp) _).alloc (by simp; omega) _)).mono ?_
      rintro e w1 ⟨rfl, hb1⟩
      obtain ⟨R0, R1, R2, hbw⟩ := bl3p hb1
      obtain ⟨i0, i1, _, _, _⟩ := id R0
      obtain ⟨j0, j1, _, _, _⟩ := id R1
      obtain ⟨k0, k1, l0, l1, _⟩ := id R2
      have HW := Lib.hid hbw
      have HL : Hid (w.heap.size + 1 + 1 < w1.drew.heap.size) := R2.lt
      clear hb1 hbw
      go_wp2_with fail
      go_region_held3 (fun w' => w'.cell? ⟨w.heap.size, 0, none⟩ = some (.slice A n c) ∧ w'.cell? ⟨w.heap.size, 1, none⟩ = some (.bool g) ∧ w'.cell? ⟨w.heap.size + 1, 0, none⟩ = some (.slice B m d)) (go_keep)
        (first
        | (go_at_call 63; refine (C.out _ HW.out.drew).mono ?_; rintro e w2 ⟨A2, n2, c2, rfl, hd2, hf2, hb2⟩; have R0 := R0.drew.keep hb2; have R1 := R1.drew.keep hb2; have R2 := R2.drew.keep hb2; have HW2 := Lib.hid (HW.out.drew.trans (hb2.mono HW.out.drew.size)); obtain ⟨p0, p1, _, _, _⟩ := id R0; obtain ⟨q0, q1, _, _, _⟩ := id R1; have HD := Lib.hid hd2; have HF : Hid (∀ ad, A2 = some ad → w.heap.size + 1 + 1 < ad.block) := (fun ad e => Nat.lt_of_lt_of_le HL.out (hf2 ad e)); clear hd2 hf2 hb2)
        | (go_at_call 59; refine (SG.out _ _ _ _ HD.out).mono ?_; rintro e w3 ⟨rfl, hb3⟩; have R0 := R0.keep hb3; have R1 := R1.keep hb3; have R2 := R2.keep hb3; have HW3 := Lib.hid (HW2.out.trans (hb3.mono HW2.out.size)); have HD := Lib.hid (HD.out.keep hb3); obtain ⟨p0, p1, _, _, _⟩ := id R0; obtain ⟨q0, q1, _, _, _⟩ := id R1; obtain ⟨k0, k1, l0, l1, _⟩ := id R2; clear hb3))
      go_wp2_with fail
      obtain ⟨s0, s1⟩ := store2 k0 k1 (.slice A2 n2 c2) (.bool g')
      refine bodyPost_ret (v := .agg #[.slice A2 n2 c2, .bool g']) (by simp [results, Tryd.results44, go_sem, s0, s1]) rfl ?_
      exact retz_fin (F.out _ _ _ _ HD.out) HF.out HW3.out (by omega)
    · rw [if_neg hab] at e0
      have hba : a ≤ b := by omega
      have ho : ¬ 0 ≤ ord a b := fun z => hab (ord_nn.1 z)
      obtain ⟨ov, hov⟩ : ∃ ov, ov = ord a b := ⟨_, rfl⟩
      rw [← hov] at ho OC
      have C : Hid (∀ wx, Below w.heap.size w wx → Calls Tryd.prog 63 #[.slice B m d, .slice A n c] wx (Ret wx (dgs (b - a)))) := by
        intro wx hb
        have := less_any B A m n d c _ _ wx (HB.out.keep hb) (HA.out.keep hb) (can_dgs b).ok (can_dgs a) (by rw [val_dgs, val_dgs]; exact hba) (by have := SY.out; omega) (by have := SX.out; omega)
        rw [val_dgs, val_dgs] at this
        exact this
      obtain ⟨g', hg'⟩ : ∃ g', g' = decide (x + y < 0) := ⟨_, rfl⟩
      have SG : Hid (∀ wx A2 n2 c2, Dig wx A2 n2 c2 (dgs (b - a)) → Calls Tryd.prog 59 #[.agg #[.slice A2 n2 c2, .bool h]] wx fun e w' => e = .returned (.agg #[.slice A2 n2 c2, .bool g']) ∧ Below wx.heap.size wx w') :=
        fun wx A2 n2 c2 hd => sign_any A2 n2 c2 (b - a) h g' (x + y) wx hd e0.symm hg'
      have F : Hid (∀ w' A' n' c', Dig w' A' n' c' (dgs (b - a)) → NZ w' A' n' c' g' (x + y)) := by
        intro w' A' n' c' hd
        exact ⟨by rw [e0, sv_abs]; exact hd, hg'⟩
      clear e0 hgz hhz hov hgh hab hba hg'
      go_enter Tryd.func44, Tryd.ntmps44
      go_wp2_with fail
      refine (OC.out _ ((((Below.refl w.heap.size w).alloc (Nat.le_refl _) _).alloc (by simp) _).alloc (by simp; omega) _)).mono ?_
      rintro e w1 ⟨rfl, hb1⟩
      obtain ⟨R0, R1, R2, hbw⟩ := bl3p hb1
      obtain ⟨i0, i1, _, _, _⟩ := id R0
      obtain ⟨j0, j1, _, _, _⟩ := id R1
      obtain ⟨k0, k1, l0, l1, _⟩ := id R2
      have HW := Lib.hid hbw
      have HL : Hid (w.heap.size + 1 + 1 < w1.drew.heap.size) := R2.lt
      clear hb1 hbw
      go_wp2_with fail
      go_region_held3 (fun w' => w'.cell? ⟨w.heap.size, 0, none⟩ = some (.slice A n c) ∧ w'.cell? ⟨w.heap.size + 1, 1, none⟩ = some (.bool h) ∧ w'.cell? ⟨w.heap.size + 1, 0, none⟩ = some (.slice B m d)) (go_keep)
        (first
        | (go_at_call 63; refine (C.out _ HW.out.drew).mono ?_; rintro e w2 ⟨A2, n2, c2, rfl, hd2, hf2, hb2⟩; have R0 := R0.drew.keep hb2; have R1 := R1.drew.keep hb2; have R2 := R2.drew.keep hb2; have HW2 := Lib.hid (HW.out.drew.trans (hb2.mono HW.out.drew.size)); obtain ⟨p0, p1, _, _, _⟩ := id R0; obtain ⟨q0, q1, _, _, _⟩ := id R1; have HD := Lib.hid hd2; have HF : Hid (∀ ad, A2 = some ad → w.heap.size + 1 + 1 < ad.block) := (fun ad e => Nat.lt_of_lt_of_le HL.out (hf2 ad e)); clear hd2 hf2 hb2)
        | (go_at_call 59; refine (SG.out _ _ _ _ HD.out).mono ?_; rintro e w3 ⟨rfl, hb3⟩; have R0 := R0.keep hb3; have R1 := R1.keep hb3; have R2 := R2.keep hb3; have HW3 := Lib.hid (HW2.out.trans (hb3.mono HW2.out.size)); have HD := Lib.hid (HD.out.keep hb3); obtain ⟨p0, p1, _, _, _⟩ := id R0; obtain ⟨q0, q1, _, _, _⟩ := id R1; obtain ⟨k0, k1, l0, l1, _⟩ := id R2; clear hb3))
      go_wp2_with fail
      obtain ⟨s0, s1⟩ := store2 k0 k1 (.slice A2 n2 c2) (.bool g')
      refine bodyPost_ret (v := .agg #[.slice A2 n2 c2, .bool g']) (by simp [results, Tryd.results44, go_sem, s0, s1]) rfl ?_
      exact retz_fin (F.out _ _ _ _ HD.out) HF.out HW3.out (by omega)

set_option maxHeartbeats 4000000 in
theorem mul_any (A B : Option Addr) (n c m d : Nat) (g h : Bool) (x y : Int) (w : World) (hx : NZ w A n c g x) (hy : NZ w B m d h y) (sx : Sm x) (sy : Sm y) :
    Calls Tryd.prog 41 #[.agg #[.slice A n c, .bool g], .agg #[.slice B m d, .bool h]] w (RetZ w (x * y)) := by
  have e0 : sv (!(g == h)) (x.natAbs * y.natAbs) = x * y := by
    have h1 := hx.sv
    have h2 := hy.sv
    rw [← h1, ← h2, sv_abs, sv_abs]
    unfold sv
    cases g <;> cases h <;> simp [Int.neg_mul, Int.mul_neg]
  unfold Sm at sx sy
  obtain ⟨a, ha⟩ : ∃ a, a = x.natAbs := ⟨_, rfl⟩
  obtain ⟨b, hb⟩ : ∃ b, b = y.natAbs := ⟨_, rfl⟩
  have DA := hx.dig
  have DB := hy.dig
  rw [← ha] at DA sx e0
  rw [← hb] at DB sy e0
  have HA := Lib.hid DA
  have HB := Lib.hid DB
  clear hx hy ha hb DA DB
  have SX := Lib.hid sx
  have SY := Lib.hid sy
  clear sx sy
  have n1 : ¬ (w.heap.size = w.heap.size + 1 + 1) := by omega
  have n2 : ¬ (w.heap.size + 1 + 1 = w.heap.size) := by omega
  have C : Hid (∀ wx, Below w.heap.size w wx → Calls Tryd.prog 60 #[.slice A n c, .slice B m d] wx (Ret wx (dgs (a * b)))) := by
    intro wx hb
    have := times_any A B n m c d _ _ wx (HA.out.keep hb) (HB.out.keep hb) (can_dgs a).ok (can_dgs b).ok (by have := SX.out; omega) (by have := SY.out; omega)
    rw [val_dgs, val_dgs] at this
    exact this
  obtain ⟨g', hg'⟩ : ∃ g', g' = decide (x * y < 0) := ⟨_, rfl⟩
  have SG : Hid (∀ wx A2 n2 c2, Dig wx A2 n2 c2 (dgs (a * b)) → Calls Tryd.prog 59 #[.agg #[.slice A2 n2 c2, .bool (!(g == h))]] wx fun e w' => e = .returned (.agg #[.slice A2 n2 c2, .bool g']) ∧ Below wx.heap.size wx w') :=
    fun wx A2 n2 c2 hd => sign_any A2 n2 c2 (a * b) (!(g == h)) g' (x * y) wx hd e0 hg'
  have F : Hid (∀ w' A' n' c', Dig w' A' n' c' (dgs (a * b)) → NZ w' A' n' c' g' (x * y)) := by
    intro w' A' n' c' hd
    exact ⟨by rw [← e0, sv_abs]; exact hd, hg'⟩
  clear e0 hg'
  go_enter Tryd.func41, Tryd.ntmps41
  go_wp2_with fail
  go_region_held3 (fun w' => w'.cell? ⟨w.heap.size, 0, none⟩ = some (.slice A n c) ∧ w'.cell? ⟨w.heap.size, 1, none⟩ = some (.bool g) ∧ w'.cell? ⟨w.heap.size + 1, 0, none⟩ = some (.slice B m d) ∧ w'.cell? ⟨w.heap.size + 1, 1, none⟩ = some (.bool h)) (go_keep)
    (first
    | (go_at_call 60; refine (C.out _ (b3d _ _ _ _)).mono ?_; rintro e w2 ⟨A2, n2, c2, rfl, hd2, hf2, hb2⟩; obtain ⟨R0, R1, R2, hbw⟩ := bl3 hb2; have HW2 := Lib.hid hbw; obtain ⟨p0, p1, _, _, _⟩ := id R0; obtain ⟨q0, q1, _, _, _⟩ := id R1; have HD := Lib.hid hd2; have HF : Hid (∀ ad, A2 = some ad → w.heap.size + 1 + 1 < ad.block) := (fun ad e => by have := hf2 ad e; simp at this; omega); clear hd2 hf2 hb2 hbw)
    | (go_at_call 59; refine (SG.out _ _ _ _ HD.out).mono ?_; rintro e w3 ⟨rfl, hb3⟩; have R0 := R0.keep hb3; have R1 := R1.keep hb3; have R2 := R2.keep hb3; have HW3 := Lib.hid (HW2.out.trans (hb3.mono HW2.out.size)); have HD := Lib.hid (HD.out.keep hb3); obtain ⟨p0, p1, _, _, _⟩ := id R0; obtain ⟨q0, q1, _, _, _⟩ := id R1; obtain ⟨k0, k1, l0, l1, _⟩ := id R2; clear hb3))
  go_wp2_with fail
  obtain ⟨s0, s1⟩ := store2 k0 k1 (.slice A2 n2 c2) (.bool g')
  refine bodyPost_ret (v := .agg #[.slice A2 n2 c2, .bool g']) (by simp [results, Tryd.results41, go_sem, s0, s1]) rfl ?_
  exact retz_fin (F.out _ _ _ _ HD.out) HF.out HW3.out (by omega)
end Go.Proofs.YtglmkpnnbgkndaaDoor.wd2

/- Contracts of the reference's Compare, Down and Up. -/
namespace Go.Proofs.YtglmkpnnbgkndaaDoor.wd2
open Go.RowKit
set_option linter.unusedVariables false
attribute [local go_sem ↓] Go.wp_at_zero Go.wp_at_succ

theorem b3e (w : World) (o1 o2 o3 : Obj) : Below w.heap.size w (((w.alloc o1).alloc o2).drew.alloc o3) := ((((Below.refl w.heap.size w).alloc (Nat.le_refl _) o1).alloc (by simp) o2).drew).alloc (by simp; omega) o3
theorem Sm.neg {z : Int} (h : Sm z) : Sm (-z) := by unfold Sm at *; rw [Int.natAbs_neg]; exact h

theorem sgn_of (z : Int) : (z.natAbs = 0 → sgn z = 0) ∧ (z < 0 → sgn z = -1) ∧ (0 < z → sgn z = 1) := by
  unfold sgn
  refine ⟨fun h => ?_, fun h => if_pos h, fun h => ?_⟩
  · rw [if_neg (by omega), if_neg (by omega)]
  · rw [if_neg (by omega), if_pos h]

/-- two structs of the call's own, and what lay before is as it was -/
structure Two (w : World) (a0 a1 b0 b1 : Value) (wr : World) : Prop where
  l : Bl2 wr w.heap.size a0 a1
  r : Bl2 wr (w.heap.size + 1) b0 b1
  bel : Below w.heap.size w wr
theorem Two.new (w : World) (a0 a1 b0 b1 : Value) (T U : Nat) : Two w a0 a1 b0 b1 ((w.alloc (.cells #[a0, a1] T)).alloc (.cells #[b0, b1] U)) := by
  have h2 := Bl2.new (w.alloc (.cells #[a0, a1] T)) b0 b1 U
  simp at h2
  exact ⟨(Bl2.new w a0 a1 T).alloc _, h2, ((Below.refl _ _).alloc (Nat.le_refl _) _).alloc (by simp) _⟩
theorem Two.keep {w wr w2 : World} {a0 a1 b0 b1 : Value} (h : Two w a0 a1 b0 b1 wr) (hb : Below wr.heap.size wr w2) : Two w a0 a1 b0 b1 w2 := ⟨h.l.keep hb, h.r.keep hb, h.bel.trans (hb.mono h.bel.size)⟩
theorem Two.drew {w wr : World} {a0 a1 b0 b1 : Value} (h : Two w a0 a1 b0 b1 wr) : Two w a0 a1 b0 b1 wr.drew := h.keep (Below.refl _ _).drew
theorem Two.alloc {w wr : World} {a0 a1 b0 b1 : Value} (h : Two w a0 a1 b0 b1 wr) (o : Obj) : Two w a0 a1 b0 b1 (wr.alloc o) := h.keep ((Below.refl _ _).alloc (Nat.le_refl _) o)

theorem NZ.cases {w : World} {A : Option Addr} {n c : Nat} {g : Bool} {z : Int} (h : NZ w A n c g z) : (z = 0 ∧ n = 0) ∨ (z < 0 ∧ 0 < n ∧ g = true) ∨ (0 < z ∧ 0 < n ∧ g = false) := by
  have h1 := h.dig.len
  have h2 := h.sgn
  have h3 := dgs_len_pos z.natAbs
  rcases Int.lt_trichotomy z 0 with q | q | q
  · exact .inr (.inl ⟨q, by rw [h1, h3]; omega, by rw [h2]; exact decide_eq_true q⟩)
  · exact .inl ⟨q, by rw [h1, q]; simp [dgs_zero]⟩
  · exact .inr (.inr ⟨q, by rw [h1, h3]; omega, by rw [h2]; exact decide_eq_false (by omega)⟩)

set_option maxHeartbeats 4000000 in
theorem compare_num (A B : Option Addr) (n c m d : Nat) (g h : Bool) (x y : Int) (w : World) (hx : NZ w A n c g x) (hy : NZ w B m d h y) (sx : Sm x) (sy : Sm y) :
    Calls Tryd.prog 42 #[.agg #[.slice A n c, .bool g], .agg #[.slice B m d, .bool h]] w fun e w' => e = .returned (.int .i64 (sgn (x - y))) ∧ Below w.heap.size w w' := by
  have n1 : ¬ (w.heap.size = w.heap.size + 1 + 1) := by omega
  have n2 : ¬ (w.heap.size + 1 + 1 = w.heap.size) := by omega
  obtain ⟨h', hh'⟩ : ∃ h', h' = decide (-y < 0) := ⟨_, rfl⟩
  have CM : Hid (∀ wx, Below w.heap.size w wx → Calls Tryd.prog 45 #[.agg #[.slice B m d, .bool h]] wx fun e w' => e = .returned (.agg #[.slice B m d, .bool h']) ∧ Below wx.heap.size wx w') :=
    fun wx hb => minus_any B m d h h' y wx (hy.keep hb) hh'
  have CP : Hid (∀ wx, Below w.heap.size w wx → Calls Tryd.prog 44 #[.agg #[.slice A n c, .bool g], .agg #[.slice B m d, .bool h']] wx (RetZ wx (x - y))) := by
    intro wx hb
    have := plus_any A B n c m d g h' x (-y) wx (hx.keep hb) ⟨by rw [Int.natAbs_neg]; exact hy.dig.keep hb, hh'⟩ sx sy.neg
    rw [← Int.sub_eq_add_neg] at this
    exact this
  clear hx hy hh'
  obtain ⟨z, hz⟩ : ∃ z, z = x - y := ⟨_, rfl⟩
  rw [← hz] at CP ⊢
  obtain ⟨r, hr⟩ : ∃ r, r = sgn z := ⟨_, rfl⟩
  rw [← hr]
  have SZ := Lib.hid (sgn_of z)
  have HR := Lib.hid hr
  clear hz hr
  have T0 := Lib.hid (Two.new w (.slice A n c) (.bool g) (.slice B m d) (.bool h) 42 42).drew
  go_enter Tryd.func42, Tryd.ntmps42
  go_wp2_with fail
  go_region_held3 (fun w' => w'.cell? ⟨w.heap.size, 0, none⟩ = some (.slice A n c) ∧ w'.cell? ⟨w.heap.size, 1, none⟩ = some (.bool g) ∧ w'.cell? ⟨w.heap.size + 1, 0, none⟩ = some (.slice B m d) ∧ w'.cell? ⟨w.heap.size + 1, 1, none⟩ = some (.bool h)) (go_keep)
    (first
    | (go_at_call 45; refine (CM.out _ T0.out.bel).mono ?_; rintro e w2 ⟨rfl, hb2⟩; have T2 := Lib.hid (T0.out.keep hb2); have m1 : ¬ w.heap.size = w2.heap.size := (by have := T2.out.l.lt; omega); have m2 : ¬ w.heap.size + 1 = w2.heap.size := (by have := T2.out.r.lt; omega); have m3 : ¬ w2.heap.size = w.heap.size := (by omega); have m4 : ¬ w2.heap.size = w.heap.size + 1 := (by omega); obtain ⟨⟨i0, i1, _, _, _⟩, ⟨j0, j1, _, _, _⟩, _⟩ := id T2.out; clear hb2)
    | (go_at_call 45; refine (CM.out _ (T0.out.alloc _).bel).mono ?_; rintro e w2 ⟨rfl, hb2⟩; have T2 := Lib.hid ((T0.out.alloc _).keep hb2); have N2 := Lib.hid ((Bl2.new _ _ _ _).keep hb2); obtain ⟨⟨i0, i1, _, _, _⟩, ⟨j0, j1, _, _, _⟩, _⟩ := id T2.out; clear hb2)
    | (go_at_call 44; refine (CP.out _ T2.out.bel).mono ?_; rintro e w3 ⟨A3, n3, c3, g3, rfl, hz3, hf3, hb3⟩; have T3 := Lib.hid (T2.out.keep hb3); (try (obtain ⟨k0, k1, l0, l1, _⟩ := N2.out.keep hb3; simp at k0 k1 l0 l1)); have HZ := Lib.hid hz3; obtain ⟨⟨i0, i1, _, _, _⟩, ⟨j0, j1, _, _, _⟩, _⟩ := id T3.out; clear hb3 hz3 hf3)
    | (go_at_call 44; refine (CP.out _ (T2.out.alloc _).bel).mono ?_; rintro e w3 ⟨A3, n3, c3, g3, rfl, hz3, hf3, hb3⟩; have T3 := Lib.hid ((T2.out.alloc _).keep hb3); (obtain ⟨k0, k1, l0, l1, _⟩ := (Bl2.new _ _ _ _).keep hb3); have HZ := Lib.hid hz3; obtain ⟨⟨i0, i1, _, _, _⟩, ⟨j0, j1, _, _, _⟩, _⟩ := id T3.out; clear hb3 hz3 hf3))
  all_goals
    rcases HZ.out.cases with ⟨q0, q1⟩ | ⟨q0, q1, q2⟩ | ⟨q0, q1, q2⟩
    · have E : Hid (r = 0) := HR.out.trans (SZ.out.1 (by omega))
      subst q1
      clear q0
      go_wp2_with fail
      go_ret
      exact ⟨dret_int E.out.symm, by first | exact (T3.out.bel.alloc T3.out.bel.size _) | exact (T3.out.bel.setCell (by first | exact T2.out.bel.size | (simp; done) | (simp; omega)) _).setCell (by first | exact T2.out.bel.size | (simp; done) | (simp; omega)) _⟩
    · have E : Hid (r = -1) := HR.out.trans (SZ.out.2.1 q0)
      subst q2
      have t0 : ((n3 : Int) == 0) = false := beq_eq_false_iff_ne.2 (by omega)
      clear q0
      go_wp2_with fail
      go_ret
      exact ⟨dret_int E.out.symm, by first | exact (T3.out.bel.alloc T3.out.bel.size _) | exact (T3.out.bel.setCell (by first | exact T2.out.bel.size | (simp; done) | (simp; omega)) _).setCell (by first | exact T2.out.bel.size | (simp; done) | (simp; omega)) _⟩
    · have E : Hid (r = 1) := HR.out.trans (SZ.out.2.2 q0)
      subst q2
      have t0 : ((n3 : Int) == 0) = false := beq_eq_false_iff_ne.2 (by omega)
      clear q0
      go_wp2_with fail
      go_ret
      exact ⟨dret_int E.out.symm, by first | exact (T3.out.bel.alloc T3.out.bel.size _) | exact (T3.out.bel.setCell (by first | exact T2.out.bel.size | (simp; done) | (simp; omega)) _).setCell (by first | exact T2.out.bel.size | (simp; done) | (simp; omega)) _⟩

/-- the quotient rounded down, of signs and absolute values -/
theorem qdn_abs (x y : Int) (hy : y ≠ 0) : qdn x y = if decide (x < 0) = decide (y < 0) then ((x.natAbs / y.natAbs : Nat) : Int) else -((x.natAbs / y.natAbs + (if x.natAbs % y.natAbs = 0 then 0 else 1) : Nat) : Int) := by
  have hB : 0 < y.natAbs := by omega
  obtain ⟨e1, e2⟩ := ediv_of_nat x.natAbs y.natAbs hB
  unfold qdn
  by_cases h0 : 0 < y
  · rw [if_pos h0]
    have hyv : y = (y.natAbs : Int) := by omega
    have d2 : decide (y < 0) = false := decide_eq_false (by omega)
    by_cases hx : x < 0
    · have d1 : decide (x < 0) = true := decide_eq_true hx
      have hxv : x = -(x.natAbs : Int) := by omega
      rw [d1, d2, if_neg (by simp)]
      conv => lhs; rw [hyv, hxv]
      rw [e2]
      split <;> simp
    · have d1 : decide (x < 0) = false := decide_eq_false hx
      have hxv : x = (x.natAbs : Int) := by omega
      rw [d1, d2, if_pos rfl]
      conv => lhs; rw [hyv, hxv]
      rw [e1]
  · rw [if_neg h0]
    have hyv : -y = (y.natAbs : Int) := by omega
    have d2 : decide (y < 0) = true := decide_eq_true (by omega)
    rw [hyv]
    by_cases hx : x < 0
    · have d1 : decide (x < 0) = true := decide_eq_true hx
      have hxv : -x = (x.natAbs : Int) := by omega
      rw [d1, d2, if_pos rfl, hxv, e1]
    · have d1 : decide (x < 0) = false := decide_eq_false hx
      have hxv : x = (x.natAbs : Int) := by omega
      rw [d1, d2, if_neg (by simp)]
      conv => lhs; rw [hxv]
      rw [e2]
      split <;> simp

set_option maxHeartbeats 4000000 in
theorem down_any (A B : Option Addr) (n c m d : Nat) (g h : Bool) (x y : Int) (w : World) (hx : NZ w A n c g x) (hy : NZ w B m d h y) (h0 : y ≠ 0) (sx : Sm x) (sy : Sm y) :
    Calls Tryd.prog 57 #[.agg #[.slice A n c, .bool g], .agg #[.slice B m d, .bool h]] w (RetZ w (qdn x y)) := by
  have Q := qdn_abs x y h0
  rw [← hx.sgn, ← hy.sgn] at Q
  unfold Sm at sx sy
  have hv0 : y.natAbs ≠ 0 := by omega
  obtain ⟨a, ha⟩ : ∃ a, a = x.natAbs := ⟨_, rfl⟩
  obtain ⟨b, hb⟩ : ∃ b, b = y.natAbs := ⟨_, rfl⟩
  have DA := hx.dig
  have DB := hy.dig
  rw [← ha] at DA sx Q
  rw [← hb] at DB sy Q hv0
  have HA := Lib.hid DA
  have HB := Lib.hid DB
  clear hx hy ha hb DA DB
  have SX := Lib.hid sx
  have SY := Lib.hid sy
  have H0 := Lib.hid hv0
  clear sx sy hv0
  obtain ⟨z, hz⟩ : ∃ z, z = qdn x y := ⟨_, rfl⟩
  rw [← hz] at Q ⊢
  clear hz
  have CO : Hid (∀ wx, Below w.heap.size w wx → Calls Tryd.prog 67 #[.slice A n c, .slice B m d] wx (Ret2 wx (dgs (a / b)) (dgs (a % b)))) := by
    intro wx hb
    have := over_any A B n m c d (dgs a) (dgs b) wx (HA.out.keep hb) (can_dgs a).ok ⟨HB.out.keep hb, can_dgs b, by rw [val_dgs]; exact Nat.pos_of_ne_zero H0.out, by have := SY.out; omega⟩ (by have := SX.out; omega)
    rw [val_dgs, val_dgs] at this
    exact this
  have QL : Hid ((dgs (a / b)).length ≤ 400000) := Nat.le_trans (dgs_len_mono (Nat.div_le_self _ _)) SX.out
  by_cases hgh : g = h
  · rw [if_pos hgh] at Q
    have t0 : (g == h) = true := beq_iff_eq.2 hgh
    have F : Hid (∀ w' A' n' c', Dig w' A' n' c' (dgs (a / b)) → NZ w' A' n' c' false z) := by
      intro w' A' n' c' hd
      rw [Q]
      exact ⟨by rw [Int.natAbs_natCast]; exact hd, (decide_eq_false (by have := Int.natCast_nonneg (a / b); omega)).symm⟩
    clear Q hgh
    go_enter Tryd.func57, Tryd.ntmps57
    go_wp2_with fail
    refine (CO.out _ ((((Below.refl w.heap.size w).alloc (Nat.le_refl _) _).alloc (by simp) _).alloc (by simp; omega) _)).mono ?_
    rintro e w1 ⟨A1, n1, c1, A2, n2, c2, rfl, hd1, hf1, hd2, hf2, hb1⟩
    obtain ⟨R0, R1, R2, hbw⟩ := bl3p hb1
    obtain ⟨i0, i1, _, _, _⟩ := id R0
    obtain ⟨j0, j1, _, _, _⟩ := id R1
    obtain ⟨k0, k1, l0, l1, _⟩ := id R2
    have HW := Lib.hid hbw
    have HD := Lib.hid hd1
    have HF : Hid (∀ ad, A1 = some ad → w.heap.size + 1 + 1 < ad.block) := fun ad e => by have := hf1 ad e; simp at this; omega
    clear hb1 hbw hd1 hf1 hd2 hf2
    go_wp2_with fail
    obtain ⟨s0, s1⟩ := store2 k0 k1 (.slice A1 n1 c1) (.bool false)
    refine bodyPost_ret (v := .agg #[.slice A1 n1 c1, .bool false]) (by simp [results, Tryd.results57, go_sem, s0, s1]) rfl ?_
    exact retz_fin (F.out _ _ _ _ HD.out) HF.out HW.out (by omega)
  · rw [if_neg hgh] at Q
    have t0 : (g == h) = false := beq_eq_false_iff_ne.2 hgh
    by_cases hr : a % b = 0
    · rw [if_pos hr, Nat.add_zero] at Q
      obtain ⟨g', hg'⟩ : ∃ g', g' = decide (z < 0) := ⟨_, rfl⟩
      have SG : Hid (∀ wx A2 n2 c2, Dig wx A2 n2 c2 (dgs (a / b)) → Calls Tryd.prog 59 #[.agg #[.slice A2 n2 c2, .bool true]] wx fun e w' => e = .returned (.agg #[.slice A2 n2 c2, .bool g']) ∧ Below wx.heap.size wx w') :=
        fun wx A2 n2 c2 hd => sign_any A2 n2 c2 (a / b) true g' z wx hd Q.symm hg'
      have F : Hid (∀ w' A' n' c', Dig w' A' n' c' (dgs (a / b)) → NZ w' A' n' c' g' z) := by
        intro w' A' n' c' hd
        exact ⟨by rw [Q, Int.natAbs_neg, Int.natAbs_natCast]; exact hd, hg'⟩
      have R0L : Hid ((dgs (a % b)).length = 0) := by show _ = _; rw [hr, dgs_zero]; rfl
      clear Q hgh hr hg'
      go_enter Tryd.func57, Tryd.ntmps57
      go_wp2_with fail
      refine (CO.out _ ((((Below.refl w.heap.size w).alloc (Nat.le_refl _) _).alloc (by simp) _).alloc (by simp; omega) _)).mono ?_
      rintro e w1 ⟨A1, n1, c1, A2, n2, c2, rfl, hd1, hf1, hd2, hf2, hb1⟩
      obtain ⟨R0, R1, R2, hbw⟩ := bl3p hb1
      obtain ⟨i0, i1, _, _, _⟩ := id R0
      obtain ⟨j0, j1, _, _, _⟩ := id R1
      have hn2 : n2 = 0 := hd2.len.trans R0L.out
      subst hn2
      have HW := Lib.hid hbw
      have HD := Lib.hid hd1
      have HF : Hid (∀ ad, A1 = some ad → w.heap.size + 1 + 1 < ad.block) := fun ad e => by have := hf1 ad e; simp at this; omega
      clear hb1 hbw hd1 hf1 hd2 hf2
      go_wp2_with fail
      refine (SG.out _ _ _ _ HD.out).mono ?_
      rintro e w2 ⟨rfl, hb2⟩
      obtain ⟨k0, k1, l0, l1, _⟩ := R2.keep hb2
      have HW2 := Lib.hid (HW.out.trans (hb2.mono HW.out.size))
      have HD2 := Lib.hid (HD.out.keep hb2)
      clear hb2
      go_wp2_with fail
      obtain ⟨s0, s1⟩ := store2 k0 k1 (.slice A1 n1 c1) (.bool g')
      refine bodyPost_ret (v := .agg #[.slice A1 n1 c1, .bool g']) (by simp [results, Tryd.results57, go_sem, s0, s1]) rfl ?_
      exact retz_fin (F.out _ _ _ _ HD2.out) HF.out HW2.out (by omega)
    · rw [if_neg hr] at Q
      obtain ⟨g', hg'⟩ : ∃ g', g' = decide (z < 0) := ⟨_, rfl⟩
      have SG : Hid (∀ wx A2 n2 c2, Dig wx A2 n2 c2 (dgs (a / b + 1)) → Calls Tryd.prog 59 #[.agg #[.slice A2 n2 c2, .bool true]] wx fun e w' => e = .returned (.agg #[.slice A2 n2 c2, .bool g']) ∧ Below wx.heap.size wx w') :=
        fun wx A2 n2 c2 hd => sign_any A2 n2 c2 (a / b + 1) true g' z wx hd Q.symm hg'
      have F : Hid (∀ w' A' n' c', Dig w' A' n' c' (dgs (a / b + 1)) → NZ w' A' n' c' g' z) := by
        intro w' A' n' c' hd
        exact ⟨by rw [Q, Int.natAbs_neg, Int.natAbs_natCast]; exact hd, hg'⟩
      have SU : Hid (∀ wx A1 n1 c1 B1, Dig wx A1 n1 c1 (dgs (a / b)) → Dig wx B1 1 1 [1] → Calls Tryd.prog 61 #[.slice A1 n1 c1, .slice B1 1 1] wx (Ret wx (dgs (a / b + 1)))) := by
        intro wx A1 n1 c1 B1 h1 h2
        have := sum_any A1 B1 n1 1 c1 1 (dgs (a / b)) [1] wx h1 h2 (can_dgs _) (by rw [can_single (m := 1) (by omega) (by omega)]; exact can_dgs 1) (by have := QL.out; omega) (by simp)
        rw [val_dgs, val_single] at this
        exact this
      have R0L : Hid (0 < (dgs (a % b)).length) := by show 0 < _; rw [dgs_len_pos]; exact hr
      clear Q hgh hr hg'
      go_enter Tryd.func57, Tryd.ntmps57
      go_wp2_with fail
      refine (CO.out _ ((((Below.refl w.heap.size w).alloc (Nat.le_refl _) _).alloc (by simp) _).alloc (by simp; omega) _)).mono ?_
      rintro e w1 ⟨A1, n1, c1, A2, n2, c2, rfl, hd1, hf1, hd2, hf2, hb1⟩
      obtain ⟨R0, R1, R2, hbw⟩ := bl3p hb1
      obtain ⟨i0, i1, _, _, _⟩ := id R0
      obtain ⟨j0, j1, _, _, _⟩ := id R1
      have hn2 : 0 < n2 := by have h1 := hd2.len; have h2 := R0L.out; omega
      have hn2' : (0 : Int) < (n2 : Int) := by omega
      have HW := Lib.hid hbw
      have HD := Lib.hid hd1
      have HL : Hid (w.heap.size + 1 + 1 < w1.heap.size) := R2.lt
      clear hb1 hbw hd1 hf1 hd2 hf2
      go_wp2_with fail
      refine (SU.out _ _ _ _ _ (HD.out.alloc _) (Dig.single _ _ _)).mono ?_
      rintro e w2 ⟨A3, n3, c3, rfl, hd3, hf3, hb3⟩
      have R3 := (R2.alloc _).keep hb3
      have HW2 : Hid (Below w.heap.size w w2) := (HW.out.alloc HW.out.size _).trans (hb3.mono (by have := HW.out.size; simp; omega))
      have HF : Hid (∀ ad, A3 = some ad → w.heap.size + 1 + 1 < ad.block) := fun ad e => by have h1 := hf3 ad e; have h2 := HL.out; simp at h1; omega
      have HD3 := Lib.hid hd3
      clear hd3 hf3 hb3
      go_wp2_with fail
      refine (SG.out _ _ _ _ HD3.out).mono ?_
      rintro e w3 ⟨rfl, hb4⟩
      obtain ⟨k0, k1, l0, l1, _⟩ := R3.keep hb4
      have HW3 := Lib.hid (HW2.out.trans (hb4.mono HW2.out.size))
      have HD4 := Lib.hid (HD3.out.keep hb4)
      clear hb4
      go_wp2_with fail
      obtain ⟨s0, s1⟩ := store2 k0 k1 (.slice A3 n3 c3) (.bool g')
      refine bodyPost_ret (v := .agg #[.slice A3 n3 c3, .bool g']) (by simp [results, Tryd.results57, go_sem, s0, s1]) rfl ?_
      exact retz_fin (F.out _ _ _ _ HD4.out) HF.out HW3.out (by omega)
end Go.Proofs.YtglmkpnnbgkndaaDoor.wd2

/- Contracts of the reference's Up and Sqrt. -/
namespace Go.Proofs.YtglmkpnnbgkndaaDoor.wd2
open Go.RowKit
set_option linter.unusedVariables false
attribute [local go_sem ↓] Go.wp_at_zero Go.wp_at_succ

-- Sqrt
theorem can_snoc_one {a : List Nat} (h : Dok a) : Can (a ++ [1]) := by
  refine ⟨Dok.append.2 ⟨h, dok_single (by omega)⟩, .inr ?_⟩
  rw [val_snoc, List.length_append]
  show pw (a.length + 1 - 1) ≤ _
  rw [Nat.add_sub_cancel]; omega

theorem sq_unique {N r l : Nat} (h1 : r * r ≤ N) (h2 : N < (r + 1) * (r + 1)) (h3 : l * l ≤ N) (h4 : N < (l + 1) * (l + 1)) : l = r := by
  rcases Nat.lt_trichotomy l r with h | h | h
  · have := Nat.mul_le_mul (show l + 1 ≤ r by omega) (show l + 1 ≤ r by omega); omega
  · exact h
  · have := Nat.mul_le_mul (show r + 1 ≤ l by omega) (show r + 1 ≤ l by omega); omega
theorem sq_lt {N l h : Nat} (h1 : l * l ≤ N) (h2 : N < h * h) : l < h := by
  rcases Nat.lt_or_ge l h with q | q
  · exact q
  · have := Nat.mul_le_mul q q; omega
/-- what Sqrt's loop knows of its two bounds -/
structure SqI (w : World) (N lo hh : Nat) (A1 : Option Addr) (n1 c1 : Nat) (A2 : Option Addr) (n2 c2 : Nat) (wr : World) : Prop where
  d1 : Dig wr A1 n1 c1 (dgs lo)
  d2 : Dig wr A2 n2 c2 (dgs hh)
  low : lo * lo ≤ N
  high : N < hh * hh
  len : (dgs hh).length ≤ 400001
  fr : Fr w A1
  bel : Below w.heap.size w wr
theorem can_one : Can [1] := by rw [can_single (m := 1) (by omega) (by omega)]; exact can_dgs 1
theorem can_two : Can [2] := by rw [can_single (m := 2) (by omega) (by omega)]; exact can_dgs 2

end Go.Proofs.YtglmkpnnbgkndaaDoor.wd2

/- Contracts of the reference's OfInt (any int) and IsInt. -/
namespace Go.Proofs.YtglmkpnnbgkndaaDoor.wd2
open Go.RowKit
set_option linter.unusedVariables false
attribute [local go_sem ↓] Go.wp_at_zero Go.wp_at_succ

theorem ofint_any (z : Int) (w : World) (h1 : -9223372036854775808 ≤ z) (h2 : z ≤ 9223372036854775807) :
    Calls Tryd.prog 55 #[.int .i64 z] w (RetZ w z) := by
  by_cases hz : z < 0
  · obtain ⟨N, rfl⟩ : ∃ N : Nat, z = -(N : Int) := ⟨z.natAbs, by omega⟩
    refine (ofint_neg N w (by omega) (by omega)).mono ?_
    rintro e w' ⟨A, n, c, he, hd, hf, hb⟩
    exact ⟨A, n, c, true, he, ⟨by rw [Int.natAbs_neg, Int.natAbs_natCast]; exact hd, (decide_eq_true hz).symm⟩, hf, hb⟩
  · obtain ⟨N, rfl⟩ : ∃ N : Nat, z = (N : Int) := ⟨z.natAbs, by omega⟩
    refine (ofint_pos N w (by omega)).mono ?_
    rintro e w' ⟨A, n, c, he, hd, hf, hb⟩
    exact ⟨A, n, c, false, he, ⟨by rw [Int.natAbs_natCast]; exact hd, (decide_eq_false hz).symm⟩, hf, hb⟩

theorem sm_i64 {z : Int} (h1 : -9223372036854775808 ≤ z) (h2 : z ≤ 9223372036854775808) : Sm z := by
  unfold Sm
  have := dgs_len_ten (n := z.natAbs) (by omega)
  omega
theorem sgn_lt (z : Int) : (sgn z < 0) ↔ z < 0 := by unfold sgn; split; omega; split <;> omega
theorem sgn_gt (z : Int) : (0 < sgn z) ↔ 0 < z := by unfold sgn; split; omega; split <;> omega

/-- one struct of the call's own, and what lay before is as it was -/
structure One (w : World) (a0 a1 : Value) (wr : World) : Prop where
  l : Bl2 wr w.heap.size a0 a1
  bel : Below w.heap.size w wr
theorem One.new (w : World) (a0 a1 : Value) (T : Nat) : One w a0 a1 (w.alloc (.cells #[a0, a1] T)) := ⟨Bl2.new w a0 a1 T, (Below.refl _ _).alloc (Nat.le_refl _) _⟩
theorem One.keep {w wr w2 : World} {a0 a1 : Value} (h : One w a0 a1 wr) (hb : Below wr.heap.size wr w2) : One w a0 a1 w2 := ⟨h.l.keep hb, h.bel.trans (hb.mono h.bel.size)⟩
theorem One.drew {w wr : World} {a0 a1 : Value} (h : One w a0 a1 wr) : One w a0 a1 wr.drew := h.keep (Below.refl _ _).drew
theorem One.alloc {w wr : World} {a0 a1 : Value} (h : One w a0 a1 wr) (o : Obj) : One w a0 a1 (wr.alloc o) := h.keep ((Below.refl _ _).alloc (Nat.le_refl _) o)

/-- what IsInt's walk asks of its callees -/
structure IsC (w : World) (A : Option Addr) (n c : Nat) (g : Bool) (r1 r2 : Int) : Prop where
  c1 : ∀ wx, Calls Tryd.prog 55 #[.int .i64 (-9223372036854775808)] wx (RetZ wx (-9223372036854775808))
  c2 : ∀ wx, Calls Tryd.prog 55 #[.int .i64 9223372036854775807] wx (RetZ wx 9223372036854775807)
  k1 : ∀ wx A' n' c' g', Below w.heap.size w wx → NZ wx A' n' c' g' (-9223372036854775808) → Calls Tryd.prog 42 #[.agg #[.slice A n c, .bool g], .agg #[.slice A' n' c', .bool g']] wx fun e w' => e = .returned (.int .i64 r1) ∧ Below wx.heap.size wx w'
  k2 : ∀ wx A' n' c' g', Below w.heap.size w wx → NZ wx A' n' c' g' 9223372036854775807 → Calls Tryd.prog 42 #[.agg #[.slice A n c, .bool g], .agg #[.slice A' n' c', .bool g']] wx fun e w' => e = .returned (.int .i64 r2) ∧ Below wx.heap.size wx w'

theorem ofint_min (wx : World) : Calls Tryd.prog 55 #[.int .i64 (-9223372036854775808)] wx (RetZ wx (-9223372036854775808)) := by
  obtain ⟨M, hM⟩ : ∃ M : Int, M = -9223372036854775808 := ⟨_, rfl⟩
  rw [← hM]
  exact ofint_any M wx (by omega) (by omega)
theorem ofint_max (wx : World) : Calls Tryd.prog 55 #[.int .i64 9223372036854775807] wx (RetZ wx 9223372036854775807) := by
  obtain ⟨M, hM⟩ : ∃ M : Int, M = 9223372036854775807 := ⟨_, rfl⟩
  rw [← hM]
  exact ofint_any M wx (by omega) (by omega)
theorem isC (w : World) (A : Option Addr) (n c : Nat) (g : Bool) (x a b : Int) (ha : a = -9223372036854775808) (hb : b = 9223372036854775807) (hx : NZ w A n c g x) (sx : Sm x) : IsC w A n c g (sgn (x - a)) (sgn (x - b)) := by
  have s1 : Sm a := sm_i64 (by omega) (by omega)
  have s2 : Sm b := sm_i64 (by omega) (by omega)
  refine ⟨ofint_min, ofint_max, ?_, ?_⟩
  · rw [← ha]
    intro wx A' n' c' g' hb hz
    exact compare_num A A' n c n' c' g g' x a wx (hx.keep hb) hz sx s1
  · rw [← hb]
    intro wx A' n' c' g' hb hz
    exact compare_num A A' n c n' c' g g' x b wx (hx.keep hb) hz sx s2

set_option maxHeartbeats 4000000 in
theorem isint_low (A : Option Addr) (n c : Nat) (g : Bool) (r1 r2 : Int) (w : World) (C : IsC w A n c g r1 r2) (hr : r1 < 0) :
    Calls Tryd.prog 58 #[.agg #[.slice A n c, .bool g]] w fun e w' => e = .returned (.tuple #[.int .i64 0, .bool false]) ∧ Below w.heap.size w w' := by
  have HC := Lib.hid C
  have t1 : decide (r1 < 0) = true := decide_eq_true hr
  clear C
  have T0 := Lib.hid (One.new w (.slice A n c) (.bool g) 42).drew
  go_enter Tryd.func58, Tryd.ntmps58
  go_wp2_with fail
  go_region_with
    (first
    | (go_at_call 55; refine (HC.out.c1 _).mono ?_; rintro e w2 ⟨A2, n2, c2, g2, rfl, hz2, hf2, hb2⟩; have T2 := Lib.hid (T0.out.keep hb2); have Z2 := Lib.hid hz2; obtain ⟨⟨i0, i1, _, _, _⟩, _⟩ := id T2.out; clear hb2 hz2 hf2)
    | (go_at_call 42; refine (HC.out.k1 _ _ _ _ _ T2.out.bel Z2.out).mono ?_; rintro e w3 ⟨rfl, hb3⟩; have T3 := Lib.hid (T2.out.keep hb3); obtain ⟨⟨i0, i1, _, _, _⟩, _⟩ := id T3.out; clear hb3))
  all_goals
    go_wp2_with fail
    go_ret2
    exact ⟨rfl, T3.out.bel⟩

set_option maxHeartbeats 4000000 in
theorem isint_high (A : Option Addr) (n c : Nat) (g : Bool) (r1 r2 : Int) (w : World) (C : IsC w A n c g r1 r2) (hr : ¬ r1 < 0) (hs : 0 < r2) :
    Calls Tryd.prog 58 #[.agg #[.slice A n c, .bool g]] w fun e w' => e = .returned (.tuple #[.int .i64 0, .bool false]) ∧ Below w.heap.size w w' := by
  have HC := Lib.hid C
  have t1 : decide (r1 < 0) = false := decide_eq_false hr
  have t2 : decide (0 < r2) = true := decide_eq_true hs
  clear C
  have T0 := Lib.hid (One.new w (.slice A n c) (.bool g) 42).drew
  go_enter Tryd.func58, Tryd.ntmps58
  go_wp2_with fail
  go_region_with
    (first
    | (go_at_call 55; ((with_reducible refine (HC.out.c1 _).mono ?_); rintro e w2 ⟨A2, n2, c2, g2, rfl, hz2, hf2, hb2⟩; have T2 := Lib.hid (T0.out.keep hb2); have Z2 := Lib.hid hz2; obtain ⟨⟨i0, i1, _, _, _⟩, _⟩ := id T2.out; clear hb2 hz2 hf2))
    | (go_at_call 55; ((with_reducible refine (HC.out.c2 _).mono ?_); rintro e w4 ⟨A4, n4, c4, g4, rfl, hz4, hf4, hb4⟩; have T4 := Lib.hid (T3.out.keep hb4); have Z4 := Lib.hid hz4; obtain ⟨⟨i0, i1, _, _, _⟩, _⟩ := id T4.out; clear hb4 hz4 hf4))
    | (go_at_call 42; (refine (HC.out.k2 _ _ _ _ _ T4.out.bel Z4.out).mono ?_; rintro e w5 ⟨rfl, hb5⟩; have T5 := Lib.hid (T4.out.keep hb5); obtain ⟨⟨i0, i1, _, _, _⟩, _⟩ := id T5.out; clear hb5))
    | (go_at_call 42; (refine (HC.out.k1 _ _ _ _ _ T2.out.bel Z2.out).mono ?_; rintro e w3 ⟨rfl, hb3⟩; have T3 := Lib.hid (T2.out.keep hb3); obtain ⟨⟨i0, i1, _, _, _⟩, _⟩ := id T3.out; clear hb3)))
  all_goals
    go_wp2_with fail
    go_ret2
    exact ⟨rfl, T5.out.bel⟩

set_option maxHeartbeats 8000000 in
theorem isint_yes (A : Option Addr) (n c N : Nat) (g : Bool) (r1 r2 : Int) (w : World) (C : IsC w A n c g r1 r2) (hd : Dig w A n c (dgs N)) (hN : N ≤ 9223372036854775808) (hg : g = false → N ≤ 9223372036854775807) (hr : ¬ r1 < 0) (hs : ¬ 0 < r2) :
    Calls Tryd.prog 58 #[.agg #[.slice A n c, .bool g]] w fun e w' => e = .returned (.tuple #[.int .i64 (sv g N), .bool true]) ∧ Below w.heap.size w w' := by
  have HC := Lib.hid C
  have HD := Lib.hid hd
  have t1 : decide (r1 < 0) = false := decide_eq_false hr
  have t2 : decide (0 < r2) = false := decide_eq_false hs
  have hl := hd.len
  have hn4 : n ≤ 10 := by rw [hl]; exact dgs_len_ten (by omega)
  have HL := Lib.hid hl
  have HG := Lib.hid hg
  clear C hd hl hg
  have T0 := Lib.hid (One.new w (.slice A n c) (.bool g) 42).drew
  go_enter Tryd.func58, Tryd.ntmps58
  go_wp2_with fail
  go_region_with
    (first
    | (go_at_call 55; ((with_reducible refine (HC.out.c1 _).mono ?_); rintro e w2 ⟨A2, n2, c2, g2, rfl, hz2, hf2, hb2⟩; have T2 := Lib.hid (T0.out.keep hb2); have Z2 := Lib.hid hz2; obtain ⟨⟨i0, i1, _, _, _⟩, _⟩ := id T2.out; clear hb2 hz2 hf2))
    | (go_at_call 55; ((with_reducible refine (HC.out.c2 _).mono ?_); rintro e w4 ⟨A4, n4, c4, g4, rfl, hz4, hf4, hb4⟩; have T4 := Lib.hid (T3.out.keep hb4); have Z4 := Lib.hid hz4; obtain ⟨⟨i0, i1, _, _, _⟩, _⟩ := id T4.out; clear hb4 hz4 hf4))
    | (go_at_call 42; (refine (HC.out.k2 _ _ _ _ _ T4.out.bel Z4.out).mono ?_; rintro e w5 ⟨rfl, hb5⟩; have T5 := Lib.hid (T4.out.keep hb5); obtain ⟨⟨i0, i1, _, _, _⟩, _⟩ := id T5.out; clear hb5))
    | (go_at_call 42; (refine (HC.out.k1 _ _ _ _ _ T2.out.bel Z2.out).mono ?_; rintro e w3 ⟨rfl, hb3⟩; have T3 := Lib.hid (T2.out.keep hb3); obtain ⟨⟨i0, i1, _, _, _⟩, _⟩ := id T3.out; clear hb3)))
  all_goals
    have HD5 := Lib.hid (HD.out.keep T5.out.bel)
    go_wp2_with fail
    go_loop [4, 5] (fun nv iv => ∃ k : Nat, k ≤ n ∧ iv = .int .i64 ((k : Int) - 1) ∧ nv = .int .i64 (sv g (val ((dgs N).drop k)))) (fun _ iv => (intOf iv + 1).toNat)
    case atStart => exact ⟨n, Nat.le_refl _, by first | rfl | go_num, by rw [List.drop_of_length_le (by rw [← HL.out]; exact Nat.le_refl _)]; cases g <;> rfl⟩
    case round =>
      obtain ⟨k, hk, rfl, rfl⟩ := hrel
      by_cases hk0 : k = 0
      · subst hk0
        have E : Hid (sv g (val ((dgs N).drop 0)) = sv g N) := by show _ = _; rw [List.drop_zero, val_dgs]
        obtain ⟨q, hq⟩ : ∃ q, q = sv g (val ((dgs N).drop 0)) := ⟨_, rfl⟩
        rw [← hq] at E ⊢
        clear hq
        go_wp2_with fail
        go_ret2
        exact ⟨by rw [E.out]; rfl, T5.out.bel⟩
      · obtain ⟨j, rfl⟩ : ∃ j, k = j + 1 := ⟨k - 1, by omega⟩
        have hjl : j < (dgs N).length := by rw [← HL.out]; omega
        obtain ⟨ga, rfl, hga, hca⟩ := HD5.out.cell hjl
        have hvd := val_drop_succ (dgs N) j hjl
        have hvt := val_take_drop (dgs N) j (by omega)
        rw [val_dgs] at hvt
        have hpj := pw_pos j
        have hle : val ((dgs N).drop j) ≤ N := by
          have : 1 * val ((dgs N).drop j) ≤ pw j * val ((dgs N).drop j) := Nat.mul_le_mul_right _ hpj
          omega
        obtain ⟨x, hx⟩ : ∃ x, x = (dgs N).getD j 0 := ⟨_, rfl⟩
        obtain ⟨V, hV⟩ : ∃ V, V = val ((dgs N).drop (j + 1)) := ⟨_, rfl⟩
        obtain ⟨W, hW⟩ : ∃ W, W = val ((dgs N).drop j) := ⟨_, rfl⟩
        rw [← hx] at hca hvd
        rw [← hV, ← hW] at hvd
        rw [← hW] at hle
        have en : ((j + 1 : Nat) : Int) - 1 = (j : Int) := by omega
        rw [en, ← hV]
        have HWe := Lib.hid hW
        have b0 : x ≤ W := by omega
        have b1 : 268435456 * V ≤ W := by omega
        have hjn : (j : Int) < (n : Int) := by omega
        clear hvt hx hV hW en hpj hjl
        cases g
        · have hm : W ≤ 9223372036854775807 := Nat.le_trans hle (HG.out rfl)
          show Code.wp _ _ _ _ _
          rw [show sv false V = (V : Int) from rfl]
          have RL : Hid ((V : Int) * 268435456 + (x : Int) = sv false (val ((dgs N).drop j))) := by show _ = _; rw [← HWe.out]; show _ = (W : Int); omega
          have b2 : (V : Int) * 268435456 + (x : Int) ≤ 9223372036854775807 := by omega
          clear hvd
          go_wp2_with fail
          go_round
          case rel => exact ⟨j, by omega, by first | rfl | go_num, by rw [RL.out]⟩
          case measure => simp [intOf]
        · have hm : W ≤ 9223372036854775808 := Nat.le_trans hle hN
          rw [show sv true V = -(V : Int) from rfl]
          have RL : Hid (-(V : Int) * 268435456 + -(x : Int) = sv true (val ((dgs N).drop j))) := by show _ = _; rw [← HWe.out]; show _ = -(W : Int); omega
          have b2 : -9223372036854775808 ≤ -(V : Int) * 268435456 + -(x : Int) := by omega
          clear hvd
          go_wp2_with fail
          go_round
          case rel => exact ⟨j, by omega, by first | rfl | go_num, by rw [RL.out]⟩
          case measure => simp [intOf]
end Go.Proofs.YtglmkpnnbgkndaaDoor.wd2
