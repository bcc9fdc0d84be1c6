/- Arctrig: the reference's series. -/
import Derived.Test.YtndcjldnnfhedaaDoorArYa
import Derived.Test.YtndcjldnnfhedaaDoorArd
namespace Go.Proofs.YtndcjldnnfhedaaDoor.wd2
open Go.RowKit
set_option linter.unusedVariables false
set_option maxRecDepth 100000

theorem dgs_drop (k : Nat) : ∀ N, (dgs N).drop k = dgs (N / pw k) := by
  induction k with
  | zero => intro N; show dgs N = dgs (N / 1); rw [Nat.div_one]
  | succ k ih =>
    intro N
    by_cases h : N = 0
    · subst h; rw [Nat.zero_div, dgs_zero]; rfl
    · rw [dgs_pos N h, List.drop_succ_cons, ih, Nat.div_div_eq_div_mul]; rfl
theorem tm_le {P t0 sq d : Nat} (h : sq ≤ P) (j : Nat) : L6.tmP P t0 sq d j ≤ t0 := by
  induction j with
  | zero => exact Nat.le_refl _
  | succ j ih => exact Nat.le_trans (L6.tm_down h j) ih
theorem pl_le {P t0 sq d : Nat} (h : sq ≤ P) (j : Nat) : L6.plP P t0 sq d j ≤ j * t0 := by
  induction j with
  | zero => exact Nat.zero_le _
  | succ j ih =>
    show L6.plP P t0 sq d j + (if j % 2 = 0 then L6.tmP P t0 sq d j else 0) ≤ _
    have := tm_le (t0 := t0) (d := d) h j
    rw [Nat.add_mul, Nat.one_mul]
    split <;> omega
theorem pl_len {k P t0 sq d : Nat} (hP : P = pw k) (h : sq ≤ P) (h0 : t0 ≤ P) (j : Nat) (hj : j ≤ 16) : L6.plP P t0 sq d j < pw (k + 1) ∧ L6.miP P t0 sq d j < pw (k + 1) ∧ L6.tmP P t0 sq d j < pw (k + 1) := by
  have a := pl_le (t0 := t0) (d := d) h j
  have b := L6.mi_le (t0 := t0) (d := d) h j
  have c := tm_le (t0 := t0) (d := d) h j
  have e := Nat.mul_le_mul hj h0
  have p := pw_pos k
  have q : pw (k + 1) = 268435456 * pw k := rfl
  rw [q]
  subst hP
  refine ⟨by omega, by omega, by omega⟩
theorem dgs_short {k N : Nat} (hk : k ≤ 12) (h : N < pw (k + 1)) : (dgs N).length ≤ 13 := Nat.le_trans (dgs_len_le N (k + 1) h) (by omega)

theorem val_i {a b : Int} (h : a = b) : Value.int .i64 a = Value.int .i64 b := by rw [h]
structure SerW (w : World) (P t0 sq d j : Nat) (A1 : Option Addr) (n1 c1 : Nat) (A2 : Option Addr) (n2 c2 : Nat) (A3 : Option Addr) (n3 c3 : Nat) (wr : World) : Prop where
  pl : Dig wr A1 n1 c1 (dgs (L6.plP P t0 sq d j))
  mi : Dig wr A2 n2 c2 (dgs (L6.miP P t0 sq d j))
  tm : Dig wr A3 n3 c3 (dgs (L6.tmP P t0 sq d j))
  le : j ≤ 16
  bel : Below w.heap.size w wr

set_option maxHeartbeats 4000000 in
theorem series_any (k P t0 sq d : Nat) (hk : k ≤ 12) (hP : P = pw k) (hsq : sq ≤ P) (h0 : t0 ≤ P) (d1 : 1 ≤ d) (d2 : d ≤ 2) (hz : L6.tmP P t0 sq d 16 = 0)
    (A B : Option Addr) (n c m e : Nat) (w : World) (ha : Dig w A n c (dgs t0)) (hb : DigO w B m e (dgs sq)) :
    Calls Tryd.prog 115 #[.slice A n c, .slice B m e, .int .i64 (d : Int), .int .i64 (k : Int)] w (Ret w (dgs (L6.alP P t0 sq d 16).toNat)) := by
  have HB := Lib.hid hb
  have L := Lib.hid (fun j (hj : j ≤ 16) => pl_len (d := d) hP hsq h0 j hj)
  have S0 : Hid (SerW w P t0 sq d 0 none 0 0 none 0 0 A n c w) := ⟨by show Dig _ _ _ _ (dgs 0); rw [dgs_zero]; exact Dig.nil w, by show Dig _ _ _ _ (dgs 0); rw [dgs_zero]; exact Dig.nil w, ha, Nat.zero_le _, Below.refl _ _⟩
  have HZ := Lib.hid hz
  have HSQ := Lib.hid hsq
  have HP := Lib.hid hP
  have H0 := Lib.hid h0
  have LS : Hid ((dgs sq).length ≤ 13) := dgs_short hk (by have := hP ▸ hsq; have q : pw (k + 1) = 268435456 * pw k := rfl; have := pw_pos k; omega)
  clear ha hb hz hsq hP h0
  go_enter Tryd.func115, Tryd.ntmps115
  go_wp2_with fail
  go_loopg [2, 9, 10, 11, 12] 16 (fun mm v2 v9 v10 v11 v12 wr => ∃ (j : Nat) (A1 : Option Addr) (n1 c1 : Nat) (A2 : Option Addr) (n2 c2 : Nat) (A3 : Option Addr) (n3 c3 : Nat), mm = 16 - j ∧ v2 = .int .i64 ((d + 2 * j : Nat) : Int) ∧ v9 = .slice A1 n1 c1 ∧ v10 = .slice A2 n2 c2 ∧ v11 = .slice A3 n3 c3 ∧ v12 = .int .i64 (j : Int) ∧ Hid (SerW w P t0 sq d j A1 n1 c1 A2 n2 c2 A3 n3 c3 wr))
  case atStart => exact ⟨0, _, _, _, _, _, _, _, _, _, rfl, rfl, rfl, rfl, rfl, rfl, S0⟩
  case round =>
    clear S0
    obtain ⟨j, A1, n1, c1, A2, n2, c2, A3, n3, c3, hm, rfl, rfl, rfl, rfl, rfl, hS⟩ := hrel
    have HM := Lib.hid hm
    clear hm
    have hj := hS.out.le
    have LL := Lib.hid (L.out j hj)
    by_cases z : n3 = 0
    · subst z
      have T0 : L6.tmP P t0 sq d j = 0 := by
        have := hS.out.tm.len
        exact (dgs_nil_iff _).1 (List.eq_nil_of_length_eq_zero this.symm)
      have R := Lib.hid (L6.al_rest T0 16 hj)
      clear T0
      go_wp2_with (go_at_call 103; refine (less_any _ _ _ _ _ _ _ _ _ hS.out.pl hS.out.mi (can_dgs _).ok (can_dgs _) (by rw [val_dgs, val_dgs]; exact L6.mi_le HSQ.out j) (by have := dgs_short hk LL.out.1; omega) (by have := dgs_short hk LL.out.2.1; omega)).mono ?_; rintro e w2 ⟨Ar, nr, cr, rfl, hdr, hfr, hbr⟩)
      go_ret
      refine Ret.under hS.out.bel ⟨Ar, nr, cr, rfl, ?_, hfr, hbr⟩
      rw [val_dgs, val_dgs] at hdr
      rw [L6.al_split, R.out.1, R.out.2]
      have e : ((L6.plP P t0 sq d j : Int) - (L6.miP P t0 sq d j : Int)).toNat = L6.plP P t0 sq d j - L6.miP P t0 sq d j := by omega
      rw [e]
      exact hdr
    · have hlt : j < 16 := by
        refine Nat.lt_of_le_of_ne hj fun h => z ?_
        subst h
        have := hS.out.tm.len
        rw [HZ.out, dgs_zero] at this
        exact this
      have z1 : (0 : Int) < (n3 : Int) := by omega
      have Dm : Hid (1 ≤ L6.dv d j ∧ L6.dv d j ≤ 268435456) := by
        have a : 1 ≤ d + 2 * j := by omega
        have b : d + 2 * j + 1 ≤ 100 := by omega
        have m1 := Nat.mul_le_mul a (show 1 ≤ d + 2 * j + 1 by omega)
        have m2 := Nat.mul_le_mul (show d + 2 * j ≤ 100 by omega) b
        show 1 ≤ (d + 2 * j) * (d + 2 * j + 1) ∧ (d + 2 * j) * (d + 2 * j + 1) ≤ _
        omega
      obtain ⟨dd, hdd⟩ : ∃ dd, dd = d + 2 * j := ⟨_, rfl⟩
      obtain ⟨D, hD⟩ : ∃ D, D = L6.dv d j := ⟨_, rfl⟩
      have hmul : (dd : Int) * ((dd : Int) + 1) = (D : Int) := by rw [hD, hdd]; show _ = ((( d + 2 * j) * (d + 2 * j + 1) : Nat) : Int); rw [Int.natCast_mul]; rfl
      have hDb : D ≤ 268435456 := by rw [hD]; exact Dm.out.2
      rw [← hdd]
      have hd3 : dd ≤ 100 := by omega
      have HD := Lib.hid hD
      have HDD := Lib.hid hdd
      clear hD hdd
      rcases Nat.mod_two_eq_zero_or_one j with par | par
      · have p1 : ((j : Int) % 2 == 0) = true := by rw [beq_iff_eq]; omega
        have PL : Hid (L6.plP P t0 sq d (j + 1) = L6.plP P t0 sq d j + L6.tmP P t0 sq d j ∧ L6.miP P t0 sq d (j + 1) = L6.miP P t0 sq d j) := by
          refine ⟨?_, ?_⟩
          · show _ + (if j % 2 = 0 then _ else _) = _; rw [if_pos par]
          · show _ + (if j % 2 = 0 then _ else _) = _; rw [if_pos par]; rfl
        clear par
        go_wp2_with (go_at_call 102; refine (sum_any _ _ _ _ _ _ _ _ _ hS.out.pl hS.out.tm (can_dgs _) (can_dgs _) (by have := dgs_short hk LL.out.1; omega) (by have := dgs_short hk LL.out.2.2; omega)).mono ?_; rintro e w2 ⟨Ar, nr, cr, rfl, hdr, hfr, hbr⟩)
        rw [val_dgs, val_dgs, ← PL.out.1] at hdr
        have PLU := Lib.hid hdr
        have MIN := Lib.hid (PL.out.2.symm ▸ hS.out.mi.keep hbr)
        have BL := Lib.hid (hS.out.bel.trans (hbr.mono hS.out.bel.size))
        have TM := Lib.hid (hS.out.tm.keep hbr)
        have SQ := Lib.hid (HB.out.keep BL.out)
        have BR := Lib.hid hbr
        clear hdr hfr hbr
        go_wp2_with (go_at_call 100; refine (times_off _ _ _ _ _ _ _ _ _ TM.out SQ.out (can_dgs _).ok (can_dgs _).ok (by have := dgs_short hk LL.out.2.2; omega) (by have := LS.out; omega)).mono ?_; rintro e w3 ⟨Ax, nx, cx, rfl, hdx, hfx, hbx⟩)
        rw [val_dgs, val_dgs] at hdx
        have DX := Lib.hid hdx
        have BX := Lib.hid hbx
        clear hdx hfx hbx
        go_wp2_with (go_at_call 114; refine (drop_any _ _ _ k _ _ DX.out (by omega)).mono ?_; rintro e w4 ⟨Ay, ny, cy, rfl, hdy, rfl⟩)
        rw [dgs_drop, ← HP.out] at hdy
        have DY := Lib.hid hdy
        clear hdy
        go_wp2_with (go_at_call 112; refine (part_any _ _ _ D _ _ DY.out (can_dgs _).ok (by have a : L6.flP P (L6.tmP P t0 sq d j) sq < pw (k + 1) := (by refine Nat.lt_of_le_of_lt (L6.flP_le HSQ.out) LL.out.2.2); have := dgs_short hk a; show (dgs (L6.flP P (L6.tmP P t0 sq d j) sq)).length ≤ 1000; omega) (by rw [HD.out]; exact Dm.out.1) hDb).mono ?_; rintro e w5 ⟨Az, nz, cz, rfl, hdz, hfz, hbz⟩)
        rw [val_dgs, HD.out] at hdz
        have hdz : Dig w5 Az nz cz (dgs (L6.tmP P t0 sq d (j + 1))) := hdz
        have DZ := Lib.hid hdz
        have BZ := Lib.hid hbz
        clear hdz hfz hbz
        go_wp2_with fail
        go_roundg (16 - (j + 1))
        case measure => have := HM.out; omega
        case rel => exact ⟨j + 1, _, _, _, _, _, _, _, _, _, rfl, val_i (by have := HDD.out; omega), rfl, rfl, rfl, val_i (by omega), ⟨(PLU.out.keep BX.out).keep BZ.out, (MIN.out.keep BX.out).keep BZ.out, DZ.out, by omega, (BL.out.trans (BX.out.mono BL.out.size)).trans (BZ.out.mono (BL.out.trans (BX.out.mono BL.out.size)).size)⟩⟩
      · have p1 : ((j : Int) % 2 == 0) = false := by rw [beq_eq_false_iff_ne]; omega
        have PL : Hid (L6.miP P t0 sq d (j + 1) = L6.miP P t0 sq d j + L6.tmP P t0 sq d j ∧ L6.plP P t0 sq d (j + 1) = L6.plP P t0 sq d j) := by
          refine ⟨?_, ?_⟩
          · show _ + (if j % 2 = 0 then _ else _) = _; rw [if_neg (by omega)]
          · show _ + (if j % 2 = 0 then _ else _) = _; rw [if_neg (by omega)]; rfl
        clear par
        go_wp2_with (go_at_call 102; refine (sum_any _ _ _ _ _ _ _ _ _ hS.out.mi hS.out.tm (can_dgs _) (can_dgs _) (by have := dgs_short hk LL.out.2.1; omega) (by have := dgs_short hk LL.out.2.2; omega)).mono ?_; rintro e w2 ⟨Ar, nr, cr, rfl, hdr, hfr, hbr⟩)
        rw [val_dgs, val_dgs, ← PL.out.1] at hdr
        have MIN := Lib.hid hdr
        have PLU := Lib.hid (PL.out.2.symm ▸ hS.out.pl.keep hbr)
        have BL := Lib.hid (hS.out.bel.trans (hbr.mono hS.out.bel.size))
        have TM := Lib.hid (hS.out.tm.keep hbr)
        have SQ := Lib.hid (HB.out.keep BL.out)
        have BR := Lib.hid hbr
        clear hdr hfr hbr
        go_wp2_with (go_at_call 100; refine (times_off _ _ _ _ _ _ _ _ _ TM.out SQ.out (can_dgs _).ok (can_dgs _).ok (by have := dgs_short hk LL.out.2.2; omega) (by have := LS.out; omega)).mono ?_; rintro e w3 ⟨Ax, nx, cx, rfl, hdx, hfx, hbx⟩)
        rw [val_dgs, val_dgs] at hdx
        have DX := Lib.hid hdx
        have BX := Lib.hid hbx
        clear hdx hfx hbx
        go_wp2_with (go_at_call 114; refine (drop_any _ _ _ k _ _ DX.out (by omega)).mono ?_; rintro e w4 ⟨Ay, ny, cy, rfl, hdy, rfl⟩)
        rw [dgs_drop, ← HP.out] at hdy
        have DY := Lib.hid hdy
        clear hdy
        go_wp2_with (go_at_call 112; refine (part_any _ _ _ D _ _ DY.out (can_dgs _).ok (by have a : L6.flP P (L6.tmP P t0 sq d j) sq < pw (k + 1) := (by refine Nat.lt_of_le_of_lt (L6.flP_le HSQ.out) LL.out.2.2); have := dgs_short hk a; show (dgs (L6.flP P (L6.tmP P t0 sq d j) sq)).length ≤ 1000; omega) (by rw [HD.out]; exact Dm.out.1) hDb).mono ?_; rintro e w5 ⟨Az, nz, cz, rfl, hdz, hfz, hbz⟩)
        rw [val_dgs, HD.out] at hdz
        have hdz : Dig w5 Az nz cz (dgs (L6.tmP P t0 sq d (j + 1))) := hdz
        have DZ := Lib.hid hdz
        have BZ := Lib.hid hbz
        clear hdz hfz hbz
        go_wp2_with fail
        go_roundg (16 - (j + 1))
        case measure => have := HM.out; omega
        case rel => exact ⟨j + 1, _, _, _, _, _, _, _, _, _, rfl, val_i (by have := HDD.out; omega), rfl, rfl, rfl, val_i (by omega), ⟨(PLU.out.keep BX.out).keep BZ.out, (MIN.out.keep BX.out).keep BZ.out, DZ.out, by omega, (BL.out.trans (BX.out.mono BL.out.size)).trans (BZ.out.mono (BL.out.trans (BX.out.mono BL.out.size)).size)⟩⟩
end Go.Proofs.YtndcjldnnfhedaaDoor.wd2
