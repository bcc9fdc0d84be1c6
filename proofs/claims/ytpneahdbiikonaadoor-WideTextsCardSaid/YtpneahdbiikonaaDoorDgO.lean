/- Contract of the reference's Over. -/
import Derived.Test.YtpneahdbiikonaaDoorDgT
namespace Go.Proofs.YtpneahdbiikonaaDoor
open Go.RowKit
set_option linter.unusedVariables false

/-- what Over leaves behind -/
def Ret2 (w : World) (L M : List Nat) (e : Ending) (w' : World) : Prop :=
  ∃ A n c A' n' c', e = .returned (.tuple #[.slice A n c, .slice A' n' c']) ∧ Dig w' A n c L ∧ Fr w A ∧ Dig w' A' n' c' M ∧ Fr w A' ∧ Below w.heap.size w w'

/-- what Over's walk knows of its divisor -/
structure OvB (w : World) (B : Option Addr) (m d : Nat) (b : List Nat) : Prop where
  dig : Dig w B m d b
  can : Can b
  pos : 0 < val b
  len : b.length ≤ 1000000

/-- the state of Over's outer loop: k digits are left -/
structure OvW (w : World) (a b : List Nat) (k : Nat) (O : List Nat) (R : Nat) (A : Option Addr) (n c : Nat) (wr : World) : Prop where
  inv : OverI a (val b) k O R
  tim : TimW w a.length O wr
  rst : Dig wr A n c (dgs R)
  far : ∀ ad, A = some ad → w.heap.size < ad.block

theorem Dig.single_at (w : World) (H m T : Nat) (hH : w.heap.size = H) : Dig (w.alloc (.cells #[.int .i64 (m : Int)] T)) (some ⟨H, 0, none⟩) 1 1 [m] := by
  subst hH; exact Dig.single w m T
theorem rest_len {b : List Nat} (cb : Can b) {R : Nat} (h : R ≤ val b) : (dgs R).length ≤ b.length := by
  have := dgs_len_mono h
  rw [← can_unique b cb] at this; exact this

set_option maxRecDepth 100000 in
set_option maxHeartbeats 8000000 in
theorem over_any (A B : Option Addr) (n m c d : Nat) (a b : List Nat) (w : World) (ha : Dig w A n c a) (ca : Dok a) (hb : OvB w B m d b) (h1 : a.length ≤ 1000000) :
    Calls Tryd.prog 19 #[.slice A n c, .slice B m d] w (Ret2 w (dgs (val a / val b)) (dgs (val a % val b))) := by
  obtain ⟨i0, hi, hz0, hz1, hz2⟩ := info_parts Tryd.infoI
  have hla := ha.len
  have HA := Lib.hid ha
  have HB := Lib.hid hb
  have CA := Lib.hid ca
  clear ha hb ca
  have LA := Lib.hid hla
  have n1 : n ≤ 1000000 := by omega
  clear hla h1
  go_enter Tryd.func19, Tryd.ntmps19
  go_wp2_with (at_make; refine wpList_make_full _ rfl _ _ 42 rfl w.heap.size 3 i0 (.int .i64 0) 1 Tryd.underlying42 hi hz0 hz1 _ _ _ _ n rfl rfl (by first | rfl | go_num) (by first | rfl | go_num) (by rw [hz2]; omega) (by unfold maxLen; omega) (Nat.le_refl _) ?_)
  intro w1 hown hgrow
  have hB : Below w.heap.size w w1 := (Below.refl _ _).grown hgrow (Nat.le_refl _) (by intro k hk; cases hk)
  have T0 : Hid (TimW w a.length (List.replicate a.length 0) w1) := by
    refine ⟨?_, hB⟩
    have e : (List.replicate a.length 0).map dv = (madeCells #[Value.int .i64 0] n).toList := by rw [toList_madeCells_one, List.map_replicate, LA.out]; rfl
    rw [e, ← LA.out]
    simpa [Value.cells] using hown
  clear hgrow hown hB
  go_wp2_with fail
  go_loopw [6, 8] (fun rv iv wr => ∃ (k R : Nat) (O : List Nat) (A' : Option Addr) (n' c' : Nat), k ≤ n ∧ iv = .int .i64 ((k : Int) - 1) ∧ rv = .slice A' n' c' ∧ Hid (OvW w a b k O R A' n' c' wr)) (fun _ iv _ => (intOf iv + 1).toNat)
  case atStart => exact ⟨n, 0, _, none, 0, 0, Nat.le_refl _, by first | rfl | go_num, rfl, ⟨by rw [LA.out]; exact overI_start a _ HB.out.pos, T0.out, by rw [dgs_zero]; exact Dig.nil _, fun _ h => by cases h⟩⟩
  case round =>
    clear T0
    obtain ⟨k, R, O, A', n', c', hkn, rfl, rfl, hW⟩ := hrel
    by_cases hk0 : k = 0
    · subst hk0
      have E := overI_end hW.out.inv
      have hol : O.length = n := by have := hW.out.inv.len; rw [this, LA.out]
      have HOL := Lib.hid hol
      have EQ := Lib.hid E.1
      have ER := Lib.hid E.2
      clear E hol
      go_wp2_with fail
      have td := dig_of_own hW.out.tim.own
      rw [← LA.out] at td
      refine (trim_any _ _ _ O _ td hW.out.inv.ok (by rw [HOL.out]; omega)).mono ?_
      rintro e w2 ⟨Ar, nr, cr, rfl, hdr, hfr, hbr⟩
      have HD := Lib.hid hdr
      have HF := Lib.hid hfr
      have HBr := Lib.hid hbr
      clear hdr hfr hbr td
      go_wp2_with fail
      go_ret2
      have h2 := hW.out.rst.keep HBr.out
      rw [ER.out] at h2
      have h3 := HD.out
      rw [EQ.out] at h3
      exact ⟨_, _, _, _, _, _, rfl, h3, HF.out.under hW.out.tim.bel.size, h2, fun ad e => Nat.le_of_lt (hW.out.far ad e), hW.out.tim.bel.trans (HBr.out.mono hW.out.tim.bel.size)⟩
    · obtain ⟨j, rfl⟩ : ∃ j, k = j + 1 := ⟨k - 1, by omega⟩
      have hja : j < a.length := by rw [← LA.out]; omega
      have HJ := Lib.hid hja
      clear hja
      obtain ⟨g, rfl, hg, hcl⟩ := (HA.out.keep hW.out.tim.bel).cell HJ.out
      obtain ⟨x, hx⟩ : ∃ x, x = a.getD j 0 := ⟨_, rfl⟩
      have hxb := CA.out.get j
      rw [← hx] at hcl hxb
      have HX := Lib.hid hx
      clear hx
      have en : ((j + 1 : Nat) : Int) - 1 = (j : Int) := by omega
      rw [en]
      have hn' : n' ≤ 1000000 := by
        have h1 := hW.out.rst.len
        have h2 := rest_len HB.out.can (Nat.le_of_lt hW.out.inv.lt)
        have h3 := HB.out.len
        omega
      have H63 : Hid (1 + n' ≤ maxLen) := by show _ ≤ _; unfold maxLen; omega
      clear en
      go_wp2_with (at_builtin; refine wpList_append_dig _ rfl _ _ _ rfl wr.heap.size 3 i0 (.int .i64 0) Tryd.underlying42 hi hz0 hz1 hz2 rfl _ 1 [.int .i64 (x : Int)] rfl (World.ownsRow_lit wr #[.int .i64 (x : Int)] 1 (Nat.le_refl _) (by unfold maxLen; omega) rfl) A' n' c' (dgs R) rfl (hW.out.rst.alloc _) H63.out (by omega) (by simp) ?_)
      intro v2 w2 hown2 hgrow2
      obtain ⟨Av, cv, rfl⟩ := own_shape hown2
      have B2 : Hid (Below wr.heap.size wr w2) := ((Below.refl _ _).alloc (Nat.le_refl _) _).grown hgrow2 (by simp) (by intro k hk; simp [Value.ownBlock] at hk; omega)
      have D2 : Hid (Dig w2 Av (1 + n') cv (x :: dgs R)) := dig_of_own (by simpa [dv] using hown2)
      clear hown2 hgrow2
      obtain ⟨R', hR'⟩ : ∃ R', R' = x + 268435456 * R := ⟨_, rfl⟩
      have TR : Hid (∀ wx, Dig wx Av (1 + n') cv (x :: dgs R) → Calls Tryd.prog 38 #[.slice Av (1 + n') cv] wx (Ret wx (dgs R'))) := by
        intro wx hd
        have := trim_any Av (1 + n') cv (x :: dgs R) wx hd (Dok.cons.2 ⟨hxb, (can_dgs R).ok⟩) (by have := hd.len; omega)
        rw [show val (x :: dgs R) = R' by rw [hR']; simp only [val, val_dgs]] at this
        exact this
      have HR' := Lib.hid hR'
      clear hR'
      go_wp2_with fail
      refine (TR.out _ D2.out).mono ?_
      rintro e w3 ⟨A2, n2, c2, rfl, hd3, hf3, hb3⟩
      have T3 : Hid (TimW w a.length O w3) := (hW.out.tim.keep B2.out).keep hb3
      have F3 : Hid (∀ ad, A2 = some ad → w.heap.size < ad.block) := fun ad e => by
        have h1 := hf3 ad e
        have h2 := B2.out.size
        have h3 := hW.out.tim.lt
        omega
      have D3 := Lib.hid hd3
      have hI : Hid (OverI a (val b) (j + 1) O R) := hW.out.inv
      clear hd3 hf3 hb3 TR D2
      clear hW B2
      obtain ⟨vb, hvb⟩ : ∃ vb, vb = val b := ⟨_, rfl⟩
      have UP : Hid (R' < (268435455 + 1) * vb) := by
        have := overI_high hI.out CA.out
        rw [← HX.out, ← HR'.out, ← hvb] at this
        exact this
      have VB := Lib.hid hvb
      clear hvb
      have hn2 : n2 ≤ 1000001 := by
        have h1 := D3.out.len
        have h2 : (dgs R').length ≤ b.length + 1 := by
          refine dgs_len_le _ _ (Nat.lt_of_lt_of_le UP.out ?_)
          rw [VB.out]
          show 268435456 * val b ≤ 268435456 * pw b.length
          have := val_lt HB.out.can.ok
          omega
        have h3 := HB.out.len
        omega
      go_wp2_with fail
      go_loopw [9, 10] (fun lv hv ws => ∃ lo hi : Nat, lv = .int .i64 (lo : Int) ∧ hv = .int .i64 (hi : Int) ∧ lo ≤ hi ∧ hi ≤ 268435455 ∧ Hid (lo * vb ≤ R' ∧ R' < (hi + 1) * vb) ∧ Hid (Below w3.heap.size w3 ws)) (fun lv hv _ => (intOf hv - intOf lv).toNat)
      case atStart => exact ⟨0, 268435455, rfl, rfl, by omega, by omega, ⟨by rw [Nat.zero_mul]; exact Nat.zero_le _, UP.out⟩, Below.refl _ _⟩
      case round =>
        obtain ⟨lo, hh, rfl, rfl, hlh, hhb, hP, hBw⟩ := hrel
        by_cases q1 : lo < hh
        · have z1 : (lo : Int) < (hh : Int) := by omega
          obtain ⟨mm, hmm⟩ : ∃ mm, mm = (lo + hh + 1) / 2 := ⟨_, rfl⟩
          have E : ((lo : Int) + (hh : Int) + 1) / 2 = (mm : Int) := by rw [hmm]; omega
          have m1 : lo < mm := by omega
          have m2 : mm ≤ hh := by omega
          clear hmm
          have TI : Hid (∀ wx, Dig wx B m d b → Dig wx (some ⟨wr.heap.size, 0, none⟩) 1 1 [mm] → Calls Tryd.prog 40 #[.slice B m d, .slice (some ⟨wr.heap.size, 0, none⟩) 1 1] wx (Ret wx (dgs (vb * mm)))) := by
            intro wx h1 h2
            have := times_any B _ m 1 d 1 b [mm] wx h1 h2 HB.out.can.ok (dok_single (by omega)) (by have := HB.out.len; omega) (by simp)
            rw [val_single, ← VB.out] at this
            exact this
          have OL : Hid ((dgs (vb * mm)).length ≤ 4000000) := by
            have := dgs_len_mul vb mm
            have h1 : (dgs vb).length ≤ b.length := rest_len HB.out.can (by rw [VB.out]; exact Nat.le_refl _)
            have h2 := dgs_len_le mm 1 (show mm < 268435456 * 1 by omega)
            have h3 := HB.out.len
            show _ ≤ _; omega
          have OR : Hid (∀ A4 n4 c4 wx, Dig wx A4 n4 c4 (dgs (vb * mm)) → Dig wx A2 n2 c2 (dgs R') → Calls Tryd.prog 39 #[.slice A4 n4 c4, .slice A2 n2 c2] wx fun e w' => e = .returned (.int .i64 (ord (vb * mm) R')) ∧ Below wx.heap.size wx w') := by
            intro A4 n4 c4 wx h1 h2
            have := order_any A4 A2 n4 n2 c4 c2 _ _ wx h1 h2 (can_dgs _) (can_dgs _) OL.out (by rw [← h2.len]; omega)
            rw [val_dgs, val_dgs] at this
            exact this
          by_cases q2 : vb * mm ≤ R'
          · have ho := ord_le.2 q2
            obtain ⟨ov, hov⟩ : ∃ ov, ov = ord (vb * mm) R' := ⟨_, rfl⟩
            rw [← hov] at ho OR
            clear hov
            have P2 : Hid (mm * vb ≤ R' ∧ R' < (hh + 1) * vb) := ⟨by rw [Nat.mul_comm]; exact q2, hP.out.2⟩
            clear q2 OL hP
            go_wp2_with fail
            refine (TI.out _ ((HB.out.dig.keep (T3.out.keep hBw.out).bel).alloc _) (Dig.single _ _ _)).mono ?_
            rintro e w4 ⟨A4, n4, c4, rfl, hd4, hf4, hb4⟩
            have D4 := Lib.hid hd4
            have B4 := Lib.hid hb4
            clear hd4 hf4 hb4
            go_wp2_with fail
            refine (OR.out _ _ _ _ D4.out (((D3.out.keep hBw.out).alloc _).keep B4.out)).mono ?_
            rintro e w5 ⟨rfl, hb5⟩
            have BN : Hid (Below w3.heap.size w3 w5) := ((hBw.out.alloc hBw.out.size _).trans (B4.out.mono (by have := hBw.out.size; simp; omega))).trans (hb5.mono (by have := hBw.out.size; have := B4.out.size; simp at this; omega))
            clear hb5
            go_wp2_with fail
            go_roundw
            case rel => exact ⟨mm, hh, rfl, rfl, m2, hhb, P2, BN⟩
            case measure => simp [intOf]; omega
          · have ho : ¬ ord (vb * mm) R' ≤ 0 := fun h => q2 (ord_le.1 h)
            obtain ⟨ov, hov⟩ : ∃ ov, ov = ord (vb * mm) R' := ⟨_, rfl⟩
            rw [← hov] at ho OR
            clear hov
            have P2 : Hid (lo * vb ≤ R' ∧ R' < (mm - 1 + 1) * vb) := ⟨hP.out.1, by rw [show mm - 1 + 1 = mm by omega, Nat.mul_comm]; omega⟩
            clear q2 OL hP
            go_wp2_with fail
            refine (TI.out _ ((HB.out.dig.keep (T3.out.keep hBw.out).bel).alloc _) (Dig.single _ _ _)).mono ?_
            rintro e w4 ⟨A4, n4, c4, rfl, hd4, hf4, hb4⟩
            have D4 := Lib.hid hd4
            have B4 := Lib.hid hb4
            clear hd4 hf4 hb4
            go_wp2_with fail
            refine (OR.out _ _ _ _ D4.out (((D3.out.keep hBw.out).alloc _).keep B4.out)).mono ?_
            rintro e w5 ⟨rfl, hb5⟩
            have BN : Hid (Below w3.heap.size w3 w5) := ((hBw.out.alloc hBw.out.size _).trans (B4.out.mono (by have := hBw.out.size; simp; omega))).trans (hb5.mono (by have := hBw.out.size; have := B4.out.size; simp at this; omega))
            clear hb5
            go_wp2_with fail
            go_roundw
            case rel => exact ⟨lo, mm - 1, rfl, by go_num, by omega, by omega, P2, BN⟩
            case measure => simp [intOf]; omega
        · have e : lo = hh := by omega
          subst e
          have z1 : ¬ (lo : Int) < (lo : Int) := by omega
          have T4 : Hid (TimW w a.length O wr) := T3.out.keep hBw.out
          have D4 : Hid (Dig wr A2 n2 c2 (dgs R')) := D3.out.keep hBw.out
          clear T3 D3
          have hco := T4.out.cell HJ.out
          have hfo := T4.out.froz j
          have hjn : (j : Int) < (n : Int) := by omega
          have z0 : ¬ ((j + 1 : Nat)) = 0 := by omega
          have T5 : Hid (TimW w a.length (O.set j lo) (wr.setCell ⟨w.heap.size, j, none⟩ (.int .i64 (lo : Int)))) := T4.out.store j lo rfl
          have D5 : Hid (Dig (wr.setCell ⟨w.heap.size, j, none⟩ (.int .i64 (lo : Int))) A2 n2 c2 (dgs R')) := D4.out.far _ (fun ad e => by have := F3.out ad e; show ad.block ≠ w.heap.size; omega) _
          have B5 : Hid (Below w.heap.size w (wr.setCell ⟨w.heap.size, j, none⟩ (.int .i64 (lo : Int)))) := T5.out.bel
          have hl5 : Hid (n = a.length) := LA.out
          have TR1 : Hid (∀ wx A5 n5 c5, Dig wx A5 n5 c5 [lo] → Calls Tryd.prog 38 #[.slice A5 n5 c5] wx (Ret wx (dgs lo))) := by
            intro wx A5 n5 c5 hd
            have := trim_any A5 n5 c5 [lo] wx hd (dok_single (by omega)) (by simp)
            rw [val_single] at this
            exact this
          have LO : Hid ((dgs lo).length ≤ 1) := dgs_len_le lo 1 (show lo < 268435456 * 1 by omega)
          have TI : Hid (∀ wx A5 n5 c5, Dig wx B m d b → Dig wx A5 n5 c5 (dgs lo) → Calls Tryd.prog 40 #[.slice B m d, .slice A5 n5 c5] wx (Ret wx (dgs (vb * lo)))) := by
            intro wx A5 n5 c5 h1 h2
            have := times_any B A5 m n5 d c5 b (dgs lo) wx h1 h2 HB.out.can.ok (can_dgs lo).ok (by have := HB.out.len; omega) (by have := LO.out; omega)
            rw [val_dgs, ← VB.out] at this
            exact this
          have PL : Hid (vb * lo ≤ R') := by have := hP.out.1; show _ ≤ _; rw [Nat.mul_comm]; exact this
          have LS : Hid (∀ wx A6 n6 c6, Dig wx A2 n2 c2 (dgs R') → Dig wx A6 n6 c6 (dgs (vb * lo)) → Calls Tryd.prog 41 #[.slice A2 n2 c2, .slice A6 n6 c6] wx (Ret wx (dgs (R' - vb * lo)))) := by
            intro wx A6 n6 c6 h1 h2
            have hlr : (dgs R').length ≤ 2000000 := by rw [← h1.len]; omega
            have := less_any A2 A6 n2 n6 c2 c6 _ _ wx h1 h2 (can_dgs _).ok (can_dgs _) (by rw [val_dgs, val_dgs]; exact PL.out) hlr (Nat.le_trans (dgs_len_mono PL.out) hlr)
            rw [val_dgs, val_dgs] at this
            exact this
          have INV : Hid (OverI a vb j (O.set j lo) (R' - vb * lo)) := by
            have := overI_step hI.out HJ.out (low := lo) (by omega) (by rw [← HX.out, ← HR'.out, ← VB.out]; exact hP.out.1) (by rw [← HX.out, ← HR'.out, ← VB.out]; exact hP.out.2)
            rw [← HX.out, ← HR'.out, ← VB.out, Nat.mul_comm lo] at this
            exact this
          clear hI hP UP
          go_wp2_with fail
          refine (TR1.out _ (some ⟨wr.heap.size, 0, none⟩) 1 1 (Dig.single_at _ _ lo 3 (by simp))).mono ?_
          rintro e w6 ⟨A6, n6, c6, rfl, hd6, hf6, hb6⟩
          have D6 := Lib.hid hd6
          have T6 : Hid (TimW w a.length (O.set j lo) w6) := (T5.out.keep ((Below.refl _ _).alloc (Nat.le_refl _) _)).keep hb6
          have E6 : Hid (Dig w6 A2 n2 c2 (dgs R')) := (D5.out.alloc _).keep hb6
          clear hd6 hf6 hb6 T5 D5 B5
          go_wp2_with fail
          refine (TI.out _ _ _ _ (HB.out.dig.keep T6.out.bel) D6.out).mono ?_
          rintro e w7 ⟨A7, n7, c7, rfl, hd7, hf7, hb7⟩
          have D7 := Lib.hid hd7
          have T7 : Hid (TimW w a.length (O.set j lo) w7) := T6.out.keep hb7
          have E7 : Hid (Dig w7 A2 n2 c2 (dgs R')) := E6.out.keep hb7
          clear hd7 hf7 hb7 T6 E6 D6
          go_wp2_with fail
          refine (LS.out _ _ _ _ E7.out D7.out).mono ?_
          rintro e w8 ⟨A8, n8, c8, rfl, hd8, hf8, hb8⟩
          have D8 := Lib.hid hd8
          have T8 : Hid (TimW w a.length (O.set j lo) w8) := T7.out.keep hb8
          have F8 : Hid (∀ ad, A8 = some ad → w.heap.size < ad.block) := fun ad e => by have h1 := hf8 ad e; have h2 := T7.out.lt; omega
          clear hd8 hf8 hb8 T7 E7 D7
          go_wp2_with fail
          go_roundw
          case rel => exact ⟨j, R' - vb * lo, _, A8, n8, c8, by omega, by first | rfl | go_num, rfl, ⟨by rw [← VB.out]; exact INV.out, T8.out, D8.out, F8.out⟩⟩
          case measure => simp [intOf]
end Go.Proofs.YtpneahdbiikonaaDoor
