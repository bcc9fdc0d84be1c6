/- Angle: contract of the reference's Parse. -/
import Derived.Test.YtgcoddjjkcdfmaaGreatDoorAnI
namespace Go.Proofs.YtgcoddjjkcdfmaaGreatDoor
open Go.RowKit
set_option linter.unusedVariables false

set_option maxRecDepth 100000 in
set_option maxHeartbeats 16000000 in
theorem rp0 (s : ByteArray) (w : World) (hs : s.size ≤ 1000) (hp : 0 < s.size) (h0 : (s[0]'hp).toNat ≠ 45) (D R : List UInt8) (o : Option (Nat × Nat × Nat)) (Q : Pts 0 s D R o) :
    Calls Tryz.prog 36 #[.string s] w fun e w' => e = .returned (.tuple #[.int .i64 (ansV o false), .int .i64 (ansE o)]) ∧ Below w.heap.size w w' := by
  have HQ := Lib.hid Q
  have hle := Q.sz
  obtain ⟨V, hV⟩ : ∃ V, ansV o false = V := ⟨_, rfl⟩
  obtain ⟨E, hE⟩ : ∃ E, ansE o = E := ⟨_, rfl⟩
  rw [hV, hE]
  have HV := Lib.hid hV
  have HE := Lib.hid hE
  clear Q hV hE
  have z2 : (((s[0]'hp).toNat : Int) == 45) = false := by rw [beq_eq_false_iff_ne]; exact fun e => h0 (by exact_mod_cast e)
  clear h0
  obtain ⟨n, hn⟩ : ∃ n, D.length = n := ⟨_, rfl⟩
  obtain ⟨m, hm⟩ : ∃ m, R.length = m := ⟨_, rfl⟩
  rw [hn, hm] at hle
  have HN := Lib.hid hn
  have HM := Lib.hid hm
  clear hn hm
  go_enter Tryz.func36, Tryz.ntmps36
  go_wp2_with fail
  go_loopg [5, 7] n (fun g v5 v7 wr => ∃ i : Nat, g = n + 0 - i ∧ v5 = .int .i64 (i : Int) ∧ v7 = .int .i64 ((accD (D.take (i - 0)) : Nat) : Int) ∧ Hid (0 ≤ i ∧ i ≤ n + 0) ∧ w = wr)
  case atStart => exact ⟨0, by omega, by rfl, by rw [Nat.sub_self]; rfl, ⟨Nat.le_refl _, by omega⟩, rfl⟩
  case round =>
    obtain ⟨i, hg, rfl, rfl, HK, rfl⟩ := hrel
    have HG := Lib.hid hg
    clear hg
    obtain ⟨hk1, hk2⟩ := HK.out
    by_cases hlt : i < n + 0
    · obtain ⟨hi, et, em⟩ := HQ.out.aD.step i hk1 (by rw [HN.out]; omega)
      have hdg := List.all_eq_true.1 HQ.out.al _ em
      clear em
      obtain ⟨c, hc⟩ : ∃ c, s[i]'hi = c := ⟨_, rfl⟩
      rw [hc] at et hdg
      have hd := of_decide_eq_true hdg
      obtain ⟨X, hX⟩ : ∃ X, c.toNat = X := ⟨_, rfl⟩
      rw [hX] at hd
      obtain ⟨d1, d2⟩ := hd
      have hcx : (s[i]'hi).toNat = X := by rw [hc, hX]
      have HS := Lib.hid ((congrArg accD et).trans (accD_snoc _ _))
      rw [hX] at HS
      clear et hdg hX hc
      have CD := Lib.hid (fun wx => rdigit_is X true (decide_eq_true ⟨d1, d2⟩) wx)
      have bd := accD_bd (D.take (i - 0))
      obtain ⟨a, ha⟩ : ∃ a, accD (D.take (i - 0)) = a := ⟨_, rfl⟩
      rw [ha] at HS bd ⊢
      clear ha
      by_cases hc1 : (a : Int) ≤ 1099511627776
      · have HT := Lib.hid (HS.out.trans (if_pos (by omega)))
        clear HS
        go_wp2_with (go_at_call 62; refine (CD.out _).mono ?_; rintro e w' ⟨rfl, hww⟩; replace hww := hww.symm; subst hww)
        go_roundg (n + 0 - (i + 1))
        case measure => have := HG.out; omega
        case rel => exact ⟨i + 1, rfl, by go_num, by rw [HT.out]; go_num, ⟨by omega, by omega⟩, rfl⟩
      · have HT := Lib.hid (HS.out.trans (if_neg (by omega)))
        clear HS
        go_wp2_with (go_at_call 62; refine (CD.out _).mono ?_; rintro e w' ⟨rfl, hww⟩; replace hww := hww.symm; subst hww)
        go_roundg (n + 0 - (i + 1))
        case measure => have := HG.out; omega
        case rel => exact ⟨i + 1, rfl, by go_num, by rw [HT.out], ⟨by omega, by omega⟩, rfl⟩
    · have hin := Lib.hid (show i = n + 0 by omega)
      have hda : D.take (i - 0) = D := List.take_of_length_le (by rw [HN.out]; omega)
      rw [hda]
      have bd := accD_bd D
      obtain ⟨a, ha⟩ : ∃ a, accD D = a := ⟨_, rfl⟩
      rw [ha] at bd ⊢
      have HA := Lib.hid ha
      clear ha hda hlt hk1 hk2 HK HG
      have hsz := hle
      have hi0 : 0 ≤ i := by have := hin.out; omega
      have hi9 : i ≤ 1000 := by have := hin.out; omega
      by_cases hm0 : m = 0
      · have e0 : ¬ (i : Int) < (s.size : Int) := by have := hin.out; omega
        by_cases hn0 : n = 0
        · have ho := Lib.hid (HQ.out.no1 (List.eq_nil_of_length_eq_zero (HN.out.trans hn0)))
          have hb0 : ((i : Int) == 0) = true := beq_iff_eq.2 (by have := hin.out; omega)
          clear hn0
          go_wp2_with fail
          go_ret2
          exact ⟨by rw [← HV.out, ← HE.out, ho.out]; rfl, Below.refl _ _⟩
        · have hb0 : ((i : Int) == 0) = false := beq_eq_false_iff_ne.2 (by have := hin.out; omega)
          obtain ⟨hz, ez⟩ := HQ.out.aD.get 0 (by omega) (by rw [HN.out]; omega)
          obtain ⟨Z, hZ⟩ : ∃ Z, (s[0]'hz).toNat = Z := ⟨_, rfl⟩
          have hZ2 : Hid (D.head? = some (s[0]'hz)) := by
            show D.head? = some (s[0]'hz)
            rw [ez, List.head?_eq_getElem?]
            simp
          clear ez
          by_cases hn1 : (1 : Int) < (i : Int)
          · by_cases hz48 : Z = 48
            · have ho := Lib.hid (HQ.out.no2 (by rw [HN.out]; have := hin.out; omega) (by rw [hZ2.out, eq_nat (n := 48) (by omega) (hZ.trans hz48)]; rfl))
              have t48 : ((Z : Int) == 48) = true := beq_iff_eq.2 (by omega)
              clear hz48 hn0
              go_wp2_with fail
              go_ret2
              exact ⟨by rw [← HV.out, ← HE.out, ho.out]; rfl, Below.refl _ _⟩
            · have t48 : ((Z : Int) == 48) = false := beq_eq_false_iff_ne.2 (by omega)
              have hno : Hid (¬ (1 < D.length ∧ D.head? = some 48)) := by
                show ¬ _
                rintro ⟨-, h⟩
                rw [hZ2.out] at h
                injection h with h
                apply hz48
                rw [← hZ, h]
                rfl
              clear hz48
              have ho : Hid (o = none) := by
                show o = none
                rw [HQ.out.yes (by intro h; apply hn0; rw [← HN.out, h]; rfl) hno.out, mn_short (by rw [HM.out]; omega)]; rfl
              have e3 : (s.size : Int) < (i : Int) + 3 := by have := hin.out; omega
              clear hn0 hm0 hsz hle
              go_wp2_with fail
              go_ret2
              exact ⟨by rw [← HV.out, ← HE.out, ho.out]; rfl, Below.refl _ _⟩
          · have hno : Hid (¬ (1 < D.length ∧ D.head? = some 48)) := by
              show ¬ _
              rintro ⟨h, -⟩
              rw [HN.out] at h
              have := hin.out
              omega
            have ho : Hid (o = none) := by
              show o = none
              rw [HQ.out.yes (by intro h; apply hn0; rw [← HN.out, h]; rfl) hno.out, mn_short (by rw [HM.out]; omega)]; rfl
            have e3 : (s.size : Int) < (i : Int) + 3 := by have := hin.out; omega
            clear hn0 hm0 hsz hle
            go_wp2_with fail
            go_ret2
            exact ⟨by rw [← HV.out, ← HE.out, ho.out]; rfl, Below.refl _ _⟩
      · obtain ⟨r, Y, hR⟩ : ∃ r Y, R = r :: Y := by
          cases hR : R with
          | nil => exact absurd (by rw [← HM.out, hR]; rfl) hm0
          | cons r Y => exact ⟨r, Y, rfl⟩
        have hrd := HQ.out.rh r Y hR
        have aR := HQ.out.aR
        rw [HN.out, show 0 + n = i by have := hin.out; omega, hR] at aR
        obtain ⟨⟨hi, hci⟩, aY⟩ := aR.cons
        obtain ⟨C, hC⟩ : ∃ C, r.toNat = C := ⟨_, rfl⟩
        have hcC : (s[i]'hi).toNat = C := by rw [hci, hC]
        have CC := Lib.hid (fun wx => rdigit_is C false (by rw [← hC]; exact hrd) wx)
        have hYm : Y.length + 1 = m := by rw [← HM.out, hR]; rfl
        clear hrd aR hci hm0
        by_cases hm3 : m < 3
        · have hmm := Lib.hid hm3
          by_cases hn0 : n = 0
          · have ho := Lib.hid (HQ.out.no1 (List.eq_nil_of_length_eq_zero (HN.out.trans hn0)))
            have hb0 : ((i : Int) == 0) = true := beq_iff_eq.2 (by have := hin.out; omega)
            clear hn0
            go_wp2_with (go_at_call 62; refine (CC.out _).mono ?_; rintro e w' ⟨rfl, hww⟩; replace hww := hww.symm; subst hww)
            go_ret2
            exact ⟨by rw [← HV.out, ← HE.out, ho.out]; rfl, Below.refl _ _⟩
          · have hb0 : ((i : Int) == 0) = false := beq_eq_false_iff_ne.2 (by have := hin.out; omega)
            obtain ⟨hz, ez⟩ := HQ.out.aD.get 0 (by omega) (by rw [HN.out]; omega)
            obtain ⟨Z, hZ⟩ : ∃ Z, (s[0]'hz).toNat = Z := ⟨_, rfl⟩
            have hZ2 : Hid (D.head? = some (s[0]'hz)) := by
              show D.head? = some (s[0]'hz)
              rw [ez, List.head?_eq_getElem?]
              simp
            clear ez
            by_cases hn1 : (1 : Int) < (i : Int)
            · by_cases hz48 : Z = 48
              · have ho := Lib.hid (HQ.out.no2 (by rw [HN.out]; have := hin.out; omega) (by rw [hZ2.out, eq_nat (n := 48) (by omega) (hZ.trans hz48)]; rfl))
                have t48 : ((Z : Int) == 48) = true := beq_iff_eq.2 (by omega)
                clear hz48 hn0
                go_wp2_with (go_at_call 62; refine (CC.out _).mono ?_; rintro e w' ⟨rfl, hww⟩; replace hww := hww.symm; subst hww)
                go_ret2
                exact ⟨by rw [← HV.out, ← HE.out, ho.out]; rfl, Below.refl _ _⟩
              · have t48 : ((Z : Int) == 48) = false := beq_eq_false_iff_ne.2 (by omega)
                have hno : Hid (¬ (1 < D.length ∧ D.head? = some 48)) := by
                  show ¬ _
                  rintro ⟨-, h⟩
                  rw [hZ2.out] at h
                  injection h with h
                  apply hz48
                  rw [← hZ, h]
                  rfl
                clear hz48
                have ho : Hid (o = none) := by
                  show o = none
                  rw [HQ.out.yes (by intro h; apply hn0; rw [← HN.out, h]; rfl) hno.out, mn_short (by rw [HM.out]; exact hmm.out)]; rfl
                have e3 : (s.size : Int) < (i : Int) + 3 := by have := hin.out; have := hmm.out; omega
                clear hn0 hsz hle hYm
                go_wp2_with (go_at_call 62; refine (CC.out _).mono ?_; rintro e w' ⟨rfl, hww⟩; replace hww := hww.symm; subst hww)
                go_ret2
                exact ⟨by rw [← HV.out, ← HE.out, ho.out]; rfl, Below.refl _ _⟩
            · have hno : Hid (¬ (1 < D.length ∧ D.head? = some 48)) := by
                show ¬ _
                rintro ⟨h, -⟩
                rw [HN.out] at h
                have := hin.out
                omega
              have ho : Hid (o = none) := by
                show o = none
                rw [HQ.out.yes (by intro h; apply hn0; rw [← HN.out, h]; rfl) hno.out, mn_short (by rw [HM.out]; exact hmm.out)]; rfl
              have e3 : (s.size : Int) < (i : Int) + 3 := by have := hin.out; have := hmm.out; omega
              clear hn0 hsz hle hYm
              go_wp2_with (go_at_call 62; refine (CC.out _).mono ?_; rintro e w' ⟨rfl, hww⟩; replace hww := hww.symm; subst hww)
              go_ret2
              exact ⟨by rw [← HV.out, ← HE.out, ho.out]; rfl, Below.refl _ _⟩
        · have e3 : ¬ (s.size : Int) < (i : Int) + 3 := by have := hin.out; omega
          obtain ⟨x, y, T, hY⟩ : ∃ x y T, Y = x :: y :: T := by
            cases hY : Y with
            | nil => rw [hY] at hYm; simp at hYm; omega
            | cons x Y2 =>
              cases hY2 : Y2 with
              | nil => rw [hY, hY2] at hYm; simp at hYm; omega
              | cons y T => exact ⟨x, y, T, rfl⟩
          rw [hY] at aY hYm hR
          obtain ⟨⟨hi1, hcx⟩, aY2⟩ := aY.cons
          obtain ⟨⟨hi2, hcy⟩, aT⟩ := aY2.cons
          obtain ⟨X, hX⟩ : ∃ X, x.toNat = X := ⟨_, rfl⟩
          obtain ⟨M, hM⟩ : ∃ M, y.toNat = M := ⟨_, rfl⟩
          have hcX : (s[i + 1]'hi1).toNat = X := by rw [hcx, hX]
          have hcM : (s[i + 2]'hi2).toNat = M := by rw [show s[i + 2]'hi2 = s[i + 1 + 1]'hi2 from rfl, hcy, hM]
          have bX : X < 256 := by rw [← hX]; exact x.toNat_lt
          have bM : M < 256 := by rw [← hM]; exact y.toNat_lt
          have AT := Lib.hid aT
          have HR := Lib.hid hR
          have HT := Lib.hid (show T.length + 3 = m by have : (x :: y :: T).length + 1 = m := hYm; simp at this; omega)
          have HX := Lib.hid (And.intro hX (And.intro hM hC))
          have hdx : isDig x = decide (48 ≤ X ∧ X ≤ 57) := by rw [isDig_is, hX]
          have hdy : isDig y = decide (48 ≤ M ∧ M ≤ 57) := by rw [isDig_is, hM]
          have HD := Lib.hid (And.intro hdx hdy)
          clear aY2 aT hcx hcy aY hY hX hM hYm hR hC hdx hdy
          by_cases hG : n ≠ 0 ∧ ¬ (1 < D.length ∧ D.head? = some 48) ∧ C = 45 ∧ (48 ≤ X ∧ X ≤ 57) ∧ (48 ≤ M ∧ M ≤ 57) ∧ X ≤ 53
          · have HGG := Lib.hid hG
            obtain ⟨g1, g2, g3, ⟨g4, g5⟩, ⟨g6, g7⟩, g8⟩ := hG
            have CX := Lib.hid (fun wx => rdigit_is X true (decide_eq_true ⟨g4, g5⟩) wx)
            have CM := Lib.hid (fun wx => rdigit_is M true (decide_eq_true ⟨g6, g7⟩) wx)
            have t45 : ((C : Int) != 45) = false := bne_eq_false_iff_eq.2 (by omega)
            have t92 : decide ((53 : Int) < (X : Int)) = false := decide_eq_false (by omega)
            have e3d : decide ((s.size : Int) < (i : Int) + 3) = false := decide_eq_false e3
            clear g2 g3
            obtain ⟨hz, ez⟩ := HQ.out.aD.get 0 (by omega) (by rw [HN.out]; omega)
            have EZ := Lib.hid ez
            clear ez
            obtain ⟨Z, hZ⟩ : ∃ Z, (s[0]'hz).toNat = Z := ⟨_, rfl⟩
            go_upto_region 11 with (go_at_call 62; refine (CC.out _).mono ?_; rintro e w' ⟨rfl, hww⟩; replace hww := hww.symm; subst hww)
            go_cut [93] from 43 to 93 (fun v93 wx => v93 = .bool false ∧ w = wx)
            case first =>
              have hb0 : ((i : Int) == 0) = false := beq_eq_false_iff_ne.2 (by have := hin.out; omega)
              by_cases hn1 : (1 : Int) < (i : Int)
              · have t48 : ((Z : Int) == 48) = false := beq_eq_false_iff_ne.2 (by
                  intro e
                  refine HGG.out.2.1 ⟨by rw [HN.out]; have := hin.out; omega, ?_⟩
                  rw [List.head?_eq_getElem?, List.getElem?_eq_getElem (by rw [HN.out]; omega)]
                  have e2 : s[0]'hz = 48 := eq_nat (n := 48) (by omega) (hZ.trans (by omega))
                  rw [EZ.out] at e2
                  simp only [Nat.sub_self] at e2
                  rw [e2])
                skip
                go_wp2_with (go_at_call 62; (first | (with_reducible refine (CC.out _).mono ?_) | (with_reducible refine (CX.out _).mono ?_) | (with_reducible refine (CM.out _).mono ?_)); rintro e w' ⟨rfl, hww⟩; replace hww := hww.symm; subst hww)
                go_meet
                exact ⟨rfl, rfl⟩
              · skip
                go_wp2_with (go_at_call 62; (first | (with_reducible refine (CC.out _).mono ?_) | (with_reducible refine (CX.out _).mono ?_) | (with_reducible refine (CM.out _).mono ?_)); rintro e w' ⟨rfl, hww⟩; replace hww := hww.symm; subst hww)
                go_meet
                exact ⟨rfl, rfl⟩
            case rest =>
              obtain ⟨rfl, rfl⟩ := hcut
              clear e3 e3d t92 t45 CC EZ
              have ho := Lib.hid (HQ.out.yes (by intro h; apply g1; rw [← HN.out, h]; rfl) HGG.out.2.1)
              have hmn := mn_yes (r := r) (x := x) (y := y) (T := T) ⟨eq_nat (n := 45) (by omega) (HX.out.2.2.trans HGG.out.2.2.1), HD.out.1.trans (decide_eq_true ⟨g4, g5⟩), HD.out.2.trans (decide_eq_true ⟨g6, g7⟩), by rw [HX.out.1]; exact g8⟩
              rw [HX.out.1, HX.out.2.1] at hmn
              have HO : Hid (o = (frP T).map (fun f => (val D, 10 * (X - 48) + (M - 48), f))) := by
                show o = _
                rw [ho.out, HR.out, hmn, Option.map_map]
                rfl
              clear hmn ho
              obtain ⟨u, hu⟩ : ∃ u : Nat, 10 * (X - 48) + (M - 48) = u := ⟨_, rfl⟩
              rw [hu] at HO
              have bu : u ≤ 600 := by omega
              have y1 := i64_is (x := (i : Int) + 1) (by omega) (by omega)
              have y2 := i64_is (x := (i : Int) + 2) (by omega) (by omega)
              have y3 : IntKind.u8.wrap ((X : Int) - 48) = (X : Int) - 48 := by rw [IntKind.wrap_u8]; omega
              have y4 : IntKind.u8.wrap ((M : Int) - 48) = (M : Int) - 48 := by rw [IntKind.wrap_u8]; omega
              have y5 := i64_is (x := (X : Int) - 48) (by omega) (by omega)
              have y6 := i64_is (x := (M : Int) - 48) (by omega) (by omega)
              have y7 := i64_is (x := 10 * ((X : Int) - 48)) (by omega) (by omega)
              have y8 : IntKind.i64.wrap (10 * ((X : Int) - 48) + ((M : Int) - 48)) = (u : Int) := (i64_is (by omega) (by omega)).trans (by omega)
              clear hu
              have p1 : (0 : Int) ≤ (i : Int) + 1 := by omega
              have p2 : (0 : Int) ≤ (i : Int) + 2 := by omega
              have p3 : (i : Int) + 1 < (s.size : Int) := by omega
              have p4 : (i : Int) + 2 < (s.size : Int) := by omega
              go_upto_region 13 with fail
              go_region
              have HB := Lib.hid ((Below.refl w.heap.size w).drew)
              generalize w.drew = v at *
              clear y1 y2 y3 y4 y5 y6 y7 y8 CX CM HD HX
              by_cases hT : T = []
              · have h3 : m = 3 := by have := HT.out; rw [hT] at this; exact this.symm
                have q0 : ¬ (i : Int) + 3 < (s.size : Int) := by have := hin.out; omega
                have HP0 : o = some (val D, u, 0) := by rw [HO.out, hT]; rfl
                clear hT
                have HP := Lib.hid (HP0)
                by_cases hbig : (a : Int) > 18325193
                · have HZ := Lib.hid (ans_big false HP.out (.inl ((accD_big D).1 (by rw [HA.out]; omega))))
                  go_wp2_with fail
                  go_ret2
                  exact ⟨by rw [← HV.out, ← HE.out, HZ.out.1, HZ.out.2]; rfl, HB.out⟩
                · have HVD := Lib.hid (show val D = a from (accD_ok D (by rw [HA.out]; omega)).symm.trans HA.out)
                  by_cases hmx : (a : Int) * 60000 + (u : Int) * 1000 > 1099511627776
                  · have HZ := Lib.hid (ans_big false HP.out (.inr (by rw [HVD.out]; omega)))
                    go_wp2_with fail
                    go_ret2
                    exact ⟨by rw [← HV.out, ← HE.out, HZ.out.1, HZ.out.2]; rfl, HB.out⟩
                  · have HZ := Lib.hid (ans_ok HP.out (by rw [HVD.out]; omega))
                    have HVV := Lib.hid (HZ.out.1.trans (show _ = (a : Int) * 60000 + (u : Int) * 1000 by rw [HVD.out]; omega))
                    go_wp2_with fail
                    go_ret2
                    exact ⟨by rw [← HV.out, ← HE.out, HVV.out, HZ.out.2.2]; rfl, HB.out⟩
              · obtain ⟨c, F, hcF⟩ : ∃ c F, T = c :: F := by
                  cases hT2 : T with
                  | nil => exact absurd hT2 hT
                  | cons c F => exact ⟨c, F, rfl⟩
                have aT := AT.out
                rw [hcF] at aT
                obtain ⟨⟨hi3, hcc⟩, aF⟩ := aT.cons
                obtain ⟨W, hW⟩ : ∃ W, c.toNat = W := ⟨_, rfl⟩
                have hcW : (s[i + 3]'hi3).toNat = W := by rw [show s[i + 3]'hi3 = s[i + 1 + 1 + 1]'hi3 from rfl, hcc, hW]
                obtain ⟨f, hf⟩ : ∃ f, F.length = f := ⟨_, rfl⟩
                have hfm : f + 4 = m := by have := HT.out; rw [hcF] at this; simp at this; omega
                have AF := Lib.hid aF
                have HF := Lib.hid hf
                have HW := Lib.hid hW
                have HC := Lib.hid hcF
                have q0 : (i : Int) + 3 < (s.size : Int) := by have := hin.out; omega
                have p5 : (0 : Int) ≤ (i : Int) + 3 := by omega
                have hsf : Hid (s.size = i + 4 + f) := by show _ = _; have := hin.out; omega
                clear hT aT hcc hW hf hcF aF hle hsz hfm
                by_cases hw : W = 46
                · have t46 : ((W : Int) != 46) = false := bne_eq_false_iff_eq.2 (by omega)
                  have HW6 := Lib.hid (eq_nat (n := 46) (by omega) (HW.out.trans hw))
                  clear hw
                  by_cases hf0 : f = 0
                  · have t4 : ((s.size : Int) == (i : Int) + 3 + 1) = true := beq_iff_eq.2 (by have := hsf.out; omega)
                    have ho : Hid (o = none) := by
                      show o = none
                      rw [HO.out, HC.out, fr_no (by rintro ⟨-, h, -, -⟩; rw [HF.out] at h; omega)]; rfl
                    clear hf0
                    go_wp2_with fail
                    go_ret2
                    exact ⟨by rw [← HV.out, ← HE.out, ho.out]; rfl, HB.out⟩
                  · have t4 : ((s.size : Int) == (i : Int) + 3 + 1) = false := beq_eq_false_iff_ne.2 (by have := hsf.out; omega)
                    by_cases hf3 : (s.size : Int) > (i : Int) + 3 + 4
                    · skip
                      have ho : Hid (o = none) := by
                        show o = none
                        rw [HO.out, HC.out, fr_no (by rintro ⟨-, -, h, -⟩; rw [HF.out] at h; have := hsf.out; omega)]; rfl
                      clear hf0
                      go_wp2_with fail
                      go_ret2
                      exact ⟨by rw [← HV.out, ← HE.out, ho.out]; rfl, HB.out⟩
                    · have HF3 := Lib.hid (show f ≤ 3 by have := hsf.out; omega)
                      have HF0 := Lib.hid (show 1 ≤ f by omega)
                      have d3 : decide ((i : Int) + 3 + 4 < (s.size : Int)) = false := decide_eq_false hf3
                      clear hf0 hf3
                      go_wp2_with fail
                      clear hcW hcM hcX
                      have HV9 := Lib.hid (Below.refl v.heap.size v)
                      go_loopg [5, 9, 10] f (fun g v5 v9 v10 wr => ∃ j : Nat, g = f - j ∧ v5 = .int .i64 ((i : Int) + 4 + (j : Int)) ∧ v9 = .int .i64 ((fvN F j : Nat) : Int) ∧ v10 = .int .i64 ((uvN j : Nat) : Int) ∧ Hid (j ≤ f) ∧ Hid ((F.take j).all isDig = true) ∧ v = wr)
                      case atStart => exact ⟨0, rfl, by go_num, rfl, rfl, Nat.zero_le _, rfl, rfl⟩
                      case round =>
                        obtain ⟨j, hg, rfl, rfl, rfl, HJ, HAL, rfl⟩ := hrel
                        have HG := Lib.hid hg
                        clear hg
                        have bfj := fv_bd F j (by have := HJ.out; have := HF3.out; omega)
                        have bj : j ≤ 3 := by have := HJ.out; have := HF3.out; omega
                        have buj : uvN j ≤ 100 := by rcases (show j = 0 ∨ j = 1 ∨ j = 2 ∨ j = 3 by omega) with rfl | rfl | rfl | rfl <;> decide
                        obtain ⟨fj, hfj⟩ : ∃ x, fvN F j = x := ⟨_, rfl⟩
                        obtain ⟨uj, huj⟩ : ∃ x, uvN j = x := ⟨_, rfl⟩
                        rw [hfj] at bfj ⊢
                        rw [huj] at buj ⊢
                        have HFJ := Lib.hid hfj
                        have HUJ := Lib.hid huj
                        clear hfj huj
                        by_cases hlt : j < f
                        · obtain ⟨hij, eij⟩ := AF.out.get (i + 4 + j) (by omega) (by rw [HF.out]; omega)
                          obtain ⟨G, hG⟩ : ∃ G, (s[i + 4 + j]'hij).toNat = G := ⟨_, rfl⟩
                          have EIJ : Hid (F.getD j 0 = s[i + 4 + j]'hij) := by
                            show _ = _
                            rw [eij, List.getD_eq_getElem?_getD, List.getElem?_eq_getElem (by rw [HF.out]; exact hlt)]
                            simp only [Option.getD_some]
                            congr 1
                            omega
                          clear eij
                          have j1 : (0 : Int) ≤ (i : Int) + 4 + (j : Int) := by omega
                          have j2 : (i : Int) + 4 + (j : Int) < (s.size : Int) := by omega
                          have TK : Hid (F.take (j + 1) = F.take j ++ [s[i + 4 + j]'hij]) := by
                            show _ = _
                            rw [← EIJ.out, List.take_succ_eq_append_getElem (by rw [HF.out]; exact hlt), List.getD_eq_getElem?_getD, List.getElem?_eq_getElem (by rw [HF.out]; exact hlt)]
                            rfl
                          by_cases hgd : 48 ≤ G ∧ G ≤ 57
                          · have CG := Lib.hid (fun wx => rdigit_is G true (decide_eq_true hgd) wx)
                            obtain ⟨hg1, hg2⟩ := hgd
                            have hgu := mul_abs (a := (uj : Int)) (b := (G : Int) - 48) (A := 100) (B := 9) (by omega) (by omega) (by omega) (by omega)
                            go_wp2_with (go_at_call 62; refine (CG.out _).mono ?_; rintro e w' ⟨rfl, hww⟩; replace hww := hww.symm; subst hww)
                            have hdg : isDig (s[i + 4 + j]'hij) = true := by rw [isDig_is, hG]; exact decide_eq_true ⟨hg1, hg2⟩
                            go_roundg (f - (j + 1))
                            case measure => have := HG.out; omega
                            case rel =>
                              refine ⟨j + 1, rfl, by go_num, ?_, ?_, by show _ ≤ _; omega, ?_, rfl⟩
                              · rw [show fvN F (j + 1) = fvN F j + uvN j * ((F.getD j 0).toNat - 48) from rfl, HFJ.out, HUJ.out, EIJ.out, hG, Int.natCast_add, Int.natCast_mul, Int.natCast_sub hg1]
                                rfl
                              · rw [uv_step, HUJ.out]
                                go_num
                              · show (F.take (j + 1)).all isDig = true
                                rw [TK.out, List.all_append, HAL.out]
                                simp [hdg]
                          · have hdg : isDig (s[i + 4 + j]'hij) = false := by rw [isDig_is, hG]; exact decide_eq_false hgd
                            have ho : Hid (o = none) := by
                              show o = none
                              rw [HO.out, HC.out, fr_no (by
                                rintro ⟨-, -, -, h⟩
                                have h2 := all_take h (j + 1)
                                rw [TK.out, List.all_append] at h2
                                simp [hdg] at h2)]
                              rfl
                            have CG := Lib.hid (fun wx => rdigit_is G false (decide_eq_false hgd) wx)
                            clear hdg hgd
                            go_wp2_with (go_at_call 62; refine (CG.out _).mono ?_; rintro e w' ⟨rfl, hww⟩; replace hww := hww.symm; subst hww)
                            go_ret2
                            exact ⟨by rw [← HV.out, ← HE.out, ho.out]; rfl, HB.out⟩
                        · have hjf : j = f := by have := HJ.out; omega
                          have hfr : frP T = some fj := by
                            have ha := HAL.out
                            rw [List.take_of_length_le (by rw [HF.out]; omega)] at ha
                            rw [HC.out, HW6.out, show (UInt8.ofNat 46 : UInt8) = 46 from rfl, fr_yes (by rw [HF.out]; exact HF0.out) (by rw [HF.out]; exact HF3.out) ha, HF.out, ← hjf, HFJ.out]
                          have HPf : o = some (val D, u, fj) := by rw [HO.out, hfr]; rfl
                          have e9 : ¬ (i : Int) + 4 + (j : Int) < (s.size : Int) := by have := hsf.out; omega
                          clear hjf hfr hlt
                          have HP := Lib.hid (HPf)
                          by_cases hbig : (a : Int) > 18325193
                          · have HZ := Lib.hid (ans_big false HP.out (.inl ((accD_big D).1 (by rw [HA.out]; omega))))
                            go_wp2_with fail
                            go_ret2
                            exact ⟨by rw [← HV.out, ← HE.out, HZ.out.1, HZ.out.2]; rfl, HB.out⟩
                          · have HVD := Lib.hid (show val D = a from (accD_ok D (by rw [HA.out]; omega)).symm.trans HA.out)
                            by_cases hmx : (a : Int) * 60000 + (u : Int) * 1000 + ((fj : Nat) : Int) > 1099511627776
                            · have HZ := Lib.hid (ans_big false HP.out (.inr (by rw [HVD.out]; omega)))
                              go_wp2_with fail
                              go_ret2
                              exact ⟨by rw [← HV.out, ← HE.out, HZ.out.1, HZ.out.2]; rfl, HB.out⟩
                            · have HZ := Lib.hid (ans_ok HP.out (by rw [HVD.out]; omega))
                              have HVV := Lib.hid (HZ.out.1.trans (show _ = (a : Int) * 60000 + (u : Int) * 1000 + ((fj : Nat) : Int) by rw [HVD.out]; omega))
                              go_wp2_with fail
                              go_ret2
                              exact ⟨by rw [← HV.out, ← HE.out, HVV.out, HZ.out.2.2]; rfl, HB.out⟩
                · have t46 : ((W : Int) != 46) = true := bne_iff_ne.2 (by omega)
                  have ho : Hid (o = none) := by
                    show o = none
                    rw [HO.out, HC.out, fr_no (by rintro ⟨h, -, -, -⟩; apply hw; rw [← HW.out, h]; rfl)]; rfl
                  clear hw
                  go_wp2_with fail
                  go_ret2
                  exact ⟨by rw [← HV.out, ← HE.out, ho.out]; rfl, HB.out⟩
          · have HNG := Lib.hid hG
            have CX := Lib.hid (fun wx => rdigit X wx)
            have CM := Lib.hid (fun wx => rdigit M wx)
            obtain ⟨rx, hrx⟩ : ∃ rx, decide (48 ≤ X ∧ X ≤ 57) = rx := ⟨_, rfl⟩
            obtain ⟨ry, hry⟩ : ∃ ry, decide (48 ≤ M ∧ M ≤ 57) = ry := ⟨_, rfl⟩
            rw [hrx] at CX
            rw [hry] at CM
            have HXY := Lib.hid (And.intro hrx hry)
            have e3d : decide ((s.size : Int) < (i : Int) + 3) = false := decide_eq_false e3
            have HE3 := Lib.hid e3
            clear hG hrx hry e3
            by_cases hn0 : n = 0
            · have ho := Lib.hid (HQ.out.no1 (List.eq_nil_of_length_eq_zero (HN.out.trans hn0)))
              have hb0 : ((i : Int) == 0) = true := beq_iff_eq.2 (by have := hin.out; omega)
              clear hn0
              go_wp2_with (go_at_call 62; (first | (with_reducible refine (CC.out _).mono ?_) | (with_reducible refine (CX.out _).mono ?_) | (with_reducible refine (CM.out _).mono ?_)); rintro e w' ⟨rfl, hww⟩; replace hww := hww.symm; subst hww)
              go_ret2
              exact ⟨by rw [← HV.out, ← HE.out, ho.out]; rfl, Below.refl _ _⟩
            · have hb0 : ((i : Int) == 0) = false := beq_eq_false_iff_ne.2 (by have := hin.out; omega)
              obtain ⟨hz, ez⟩ := HQ.out.aD.get 0 (by omega) (by rw [HN.out]; omega)
              obtain ⟨Z, hZ⟩ : ∃ Z, (s[0]'hz).toNat = Z := ⟨_, rfl⟩
              have hZ2 : Hid (D.head? = some (s[0]'hz)) := by
                show D.head? = some (s[0]'hz)
                rw [ez, List.head?_eq_getElem?]
                simp
              clear ez
              by_cases hn1 : (1 : Int) < (i : Int)
              · by_cases hz48 : Z = 48
                · have ho := Lib.hid (HQ.out.no2 (by rw [HN.out]; have := hin.out; omega) (by rw [hZ2.out, eq_nat (n := 48) (by omega) (hZ.trans hz48)]; rfl))
                  have t48 : ((Z : Int) == 48) = true := beq_iff_eq.2 (by omega)
                  clear hz48 hn0
                  go_wp2_with (go_at_call 62; (first | (with_reducible refine (CC.out _).mono ?_) | (with_reducible refine (CX.out _).mono ?_) | (with_reducible refine (CM.out _).mono ?_)); rintro e w' ⟨rfl, hww⟩; replace hww := hww.symm; subst hww)
                  go_ret2
                  exact ⟨by rw [← HV.out, ← HE.out, ho.out]; rfl, Below.refl _ _⟩
                · have t48 : ((Z : Int) == 48) = false := beq_eq_false_iff_ne.2 (by omega)
                  have hno : Hid (¬ (1 < D.length ∧ D.head? = some 48)) := by
                    show ¬ _
                    rintro ⟨-, h⟩
                    rw [hZ2.out] at h
                    injection h with h
                    apply hz48
                    rw [← hZ, h]
                    rfl
                  clear hz48
                  by_cases hC45 : C = 45
                  · have t45 : ((C : Int) != 45) = false := bne_eq_false_iff_eq.2 (by omega)
                    have HC45 := Lib.hid hC45
                    clear hC45
                    cases rx
                    · have hb := HXY.out.1
                      have ho : Hid (o = none) := by
                        show o = none
                        rw [HQ.out.yes (by intro h; apply hn0; rw [← HN.out, h]; rfl) hno.out, HR.out, mn_no (by rintro ⟨-, h, -, -⟩; rw [HD.out.1, hb] at h; cases h)]; rfl
                      clear hn0
                      go_wp2_with (go_at_call 62; (first | (with_reducible refine (CC.out _).mono ?_) | (with_reducible refine (CX.out _).mono ?_) | (with_reducible refine (CM.out _).mono ?_)); rintro e w' ⟨rfl, hww⟩; replace hww := hww.symm; subst hww)
                      go_ret2
                      exact ⟨by rw [← HV.out, ← HE.out, ho.out]; rfl, Below.refl _ _⟩
                    · cases ry
                      · have hb := HXY.out.2
                        have ho : Hid (o = none) := by
                          show o = none
                          rw [HQ.out.yes (by intro h; apply hn0; rw [← HN.out, h]; rfl) hno.out, HR.out, mn_no (by rintro ⟨-, -, h, -⟩; rw [HD.out.2, hb] at h; cases h)]; rfl
                        clear hn0
                        go_wp2_with (go_at_call 62; (first | (with_reducible refine (CC.out _).mono ?_) | (with_reducible refine (CX.out _).mono ?_) | (with_reducible refine (CM.out _).mono ?_)); rintro e w' ⟨rfl, hww⟩; replace hww := hww.symm; subst hww)
                        go_ret2
                        exact ⟨by rw [← HV.out, ← HE.out, ho.out]; rfl, Below.refl _ _⟩
                      · have hx53 : ¬ X ≤ 53 := by
                          intro h
                          exact HNG.out ⟨hn0, hno.out, HC45.out, of_decide_eq_true HXY.out.1, of_decide_eq_true HXY.out.2, h⟩
                        have t92 : decide ((53 : Int) < (X : Int)) = true := decide_eq_true (by omega)
                        have ho : Hid (o = none) := by
                          show o = none
                          rw [HQ.out.yes (by intro h; apply hn0; rw [← HN.out, h]; rfl) hno.out, HR.out, mn_no (by rintro ⟨-, -, -, h⟩; rw [HX.out.1] at h; omega)]; rfl
                        clear hn0
                        go_wp2_with (go_at_call 62; (first | (with_reducible refine (CC.out _).mono ?_) | (with_reducible refine (CX.out _).mono ?_) | (with_reducible refine (CM.out _).mono ?_)); rintro e w' ⟨rfl, hww⟩; replace hww := hww.symm; subst hww)
                        go_ret2
                        exact ⟨by rw [← HV.out, ← HE.out, ho.out]; rfl, Below.refl _ _⟩
                  · have t45 : ((C : Int) != 45) = true := bne_iff_ne.2 (by omega)
                    have HC45 := Lib.hid hC45
                    clear hC45
                    have ho : Hid (o = none) := by
                      show o = none
                      rw [HQ.out.yes (by intro h; apply hn0; rw [← HN.out, h]; rfl) hno.out, HR.out, mn_no (by rintro ⟨h, -, -, -⟩; apply HC45.out; rw [← HX.out.2.2, h]; rfl)]; rfl
                    clear hn0
                    go_wp2_with (go_at_call 62; (first | (with_reducible refine (CC.out _).mono ?_) | (with_reducible refine (CX.out _).mono ?_) | (with_reducible refine (CM.out _).mono ?_)); rintro e w' ⟨rfl, hww⟩; replace hww := hww.symm; subst hww)
                    go_ret2
                    exact ⟨by rw [← HV.out, ← HE.out, ho.out]; rfl, Below.refl _ _⟩
              · have hno : Hid (¬ (1 < D.length ∧ D.head? = some 48)) := by
                  show ¬ _
                  rintro ⟨h, -⟩
                  rw [HN.out] at h
                  have := hin.out
                  omega
                by_cases hC45 : C = 45
                · have t45 : ((C : Int) != 45) = false := bne_eq_false_iff_eq.2 (by omega)
                  have HC45 := Lib.hid hC45
                  clear hC45
                  cases rx
                  · have hb := HXY.out.1
                    have ho : Hid (o = none) := by
                      show o = none
                      rw [HQ.out.yes (by intro h; apply hn0; rw [← HN.out, h]; rfl) hno.out, HR.out, mn_no (by rintro ⟨-, h, -, -⟩; rw [HD.out.1, hb] at h; cases h)]; rfl
                    clear hn0
                    go_wp2_with (go_at_call 62; (first | (with_reducible refine (CC.out _).mono ?_) | (with_reducible refine (CX.out _).mono ?_) | (with_reducible refine (CM.out _).mono ?_)); rintro e w' ⟨rfl, hww⟩; replace hww := hww.symm; subst hww)
                    go_ret2
                    exact ⟨by rw [← HV.out, ← HE.out, ho.out]; rfl, Below.refl _ _⟩
                  · cases ry
                    · have hb := HXY.out.2
                      have ho : Hid (o = none) := by
                        show o = none
                        rw [HQ.out.yes (by intro h; apply hn0; rw [← HN.out, h]; rfl) hno.out, HR.out, mn_no (by rintro ⟨-, -, h, -⟩; rw [HD.out.2, hb] at h; cases h)]; rfl
                      clear hn0
                      go_wp2_with (go_at_call 62; (first | (with_reducible refine (CC.out _).mono ?_) | (with_reducible refine (CX.out _).mono ?_) | (with_reducible refine (CM.out _).mono ?_)); rintro e w' ⟨rfl, hww⟩; replace hww := hww.symm; subst hww)
                      go_ret2
                      exact ⟨by rw [← HV.out, ← HE.out, ho.out]; rfl, Below.refl _ _⟩
                    · have hx53 : ¬ X ≤ 53 := by
                        intro h
                        exact HNG.out ⟨hn0, hno.out, HC45.out, of_decide_eq_true HXY.out.1, of_decide_eq_true HXY.out.2, h⟩
                      have t92 : decide ((53 : Int) < (X : Int)) = true := decide_eq_true (by omega)
                      have ho : Hid (o = none) := by
                        show o = none
                        rw [HQ.out.yes (by intro h; apply hn0; rw [← HN.out, h]; rfl) hno.out, HR.out, mn_no (by rintro ⟨-, -, -, h⟩; rw [HX.out.1] at h; omega)]; rfl
                      clear hn0
                      go_wp2_with (go_at_call 62; (first | (with_reducible refine (CC.out _).mono ?_) | (with_reducible refine (CX.out _).mono ?_) | (with_reducible refine (CM.out _).mono ?_)); rintro e w' ⟨rfl, hww⟩; replace hww := hww.symm; subst hww)
                      go_ret2
                      exact ⟨by rw [← HV.out, ← HE.out, ho.out]; rfl, Below.refl _ _⟩
                · have t45 : ((C : Int) != 45) = true := bne_iff_ne.2 (by omega)
                  have HC45 := Lib.hid hC45
                  clear hC45
                  have ho : Hid (o = none) := by
                    show o = none
                    rw [HQ.out.yes (by intro h; apply hn0; rw [← HN.out, h]; rfl) hno.out, HR.out, mn_no (by rintro ⟨h, -, -, -⟩; apply HC45.out; rw [← HX.out.2.2, h]; rfl)]; rfl
                  clear hn0
                  go_wp2_with (go_at_call 62; (first | (with_reducible refine (CC.out _).mono ?_) | (with_reducible refine (CX.out _).mono ?_) | (with_reducible refine (CM.out _).mono ?_)); rintro e w' ⟨rfl, hww⟩; replace hww := hww.symm; subst hww)
                  go_ret2
                  exact ⟨by rw [← HV.out, ← HE.out, ho.out]; rfl, Below.refl _ _⟩

set_option maxRecDepth 100000 in
set_option maxHeartbeats 16000000 in
theorem rp1 (s : ByteArray) (w : World) (hs : s.size ≤ 1000) (hp : 0 < s.size) (h0 : (s[0]'hp).toNat = 45) (D R : List UInt8) (o : Option (Nat × Nat × Nat)) (Q : Pts 1 s D R o) :
    Calls Tryz.prog 36 #[.string s] w fun e w' => e = .returned (.tuple #[.int .i64 (ansV o true), .int .i64 (ansE o)]) ∧ Below w.heap.size w w' := by
  have HQ := Lib.hid Q
  have hle := Q.sz
  obtain ⟨V, hV⟩ : ∃ V, ansV o true = V := ⟨_, rfl⟩
  obtain ⟨E, hE⟩ : ∃ E, ansE o = E := ⟨_, rfl⟩
  rw [hV, hE]
  have HV := Lib.hid hV
  have HE := Lib.hid hE
  clear Q hV hE
  have z2 : (((s[0]'hp).toNat : Int) == 45) = true := by rw [beq_iff_eq]; exact_mod_cast h0
  clear h0
  obtain ⟨n, hn⟩ : ∃ n, D.length = n := ⟨_, rfl⟩
  obtain ⟨m, hm⟩ : ∃ m, R.length = m := ⟨_, rfl⟩
  rw [hn, hm] at hle
  have HN := Lib.hid hn
  have HM := Lib.hid hm
  clear hn hm
  go_enter Tryz.func36, Tryz.ntmps36
  go_wp2_with fail
  go_loopg [5, 7] n (fun g v5 v7 wr => ∃ i : Nat, g = n + 1 - i ∧ v5 = .int .i64 (i : Int) ∧ v7 = .int .i64 ((accD (D.take (i - 1)) : Nat) : Int) ∧ Hid (1 ≤ i ∧ i ≤ n + 1) ∧ w = wr)
  case atStart => exact ⟨1, by omega, by rfl, by rw [Nat.sub_self]; rfl, ⟨Nat.le_refl _, by omega⟩, rfl⟩
  case round =>
    obtain ⟨i, hg, rfl, rfl, HK, rfl⟩ := hrel
    have HG := Lib.hid hg
    clear hg
    obtain ⟨hk1, hk2⟩ := HK.out
    by_cases hlt : i < n + 1
    · obtain ⟨hi, et, em⟩ := HQ.out.aD.step i hk1 (by rw [HN.out]; omega)
      have hdg := List.all_eq_true.1 HQ.out.al _ em
      clear em
      obtain ⟨c, hc⟩ : ∃ c, s[i]'hi = c := ⟨_, rfl⟩
      rw [hc] at et hdg
      have hd := of_decide_eq_true hdg
      obtain ⟨X, hX⟩ : ∃ X, c.toNat = X := ⟨_, rfl⟩
      rw [hX] at hd
      obtain ⟨d1, d2⟩ := hd
      have hcx : (s[i]'hi).toNat = X := by rw [hc, hX]
      have HS := Lib.hid ((congrArg accD et).trans (accD_snoc _ _))
      rw [hX] at HS
      clear et hdg hX hc
      have CD := Lib.hid (fun wx => rdigit_is X true (decide_eq_true ⟨d1, d2⟩) wx)
      have bd := accD_bd (D.take (i - 1))
      obtain ⟨a, ha⟩ : ∃ a, accD (D.take (i - 1)) = a := ⟨_, rfl⟩
      rw [ha] at HS bd ⊢
      clear ha
      by_cases hc1 : (a : Int) ≤ 1099511627776
      · have HT := Lib.hid (HS.out.trans (if_pos (by omega)))
        clear HS
        go_wp2_with (go_at_call 62; refine (CD.out _).mono ?_; rintro e w' ⟨rfl, hww⟩; replace hww := hww.symm; subst hww)
        go_roundg (n + 1 - (i + 1))
        case measure => have := HG.out; omega
        case rel => exact ⟨i + 1, rfl, by go_num, by rw [HT.out]; go_num, ⟨by omega, by omega⟩, rfl⟩
      · have HT := Lib.hid (HS.out.trans (if_neg (by omega)))
        clear HS
        go_wp2_with (go_at_call 62; refine (CD.out _).mono ?_; rintro e w' ⟨rfl, hww⟩; replace hww := hww.symm; subst hww)
        go_roundg (n + 1 - (i + 1))
        case measure => have := HG.out; omega
        case rel => exact ⟨i + 1, rfl, by go_num, by rw [HT.out], ⟨by omega, by omega⟩, rfl⟩
    · have hin := Lib.hid (show i = n + 1 by omega)
      have hda : D.take (i - 1) = D := List.take_of_length_le (by rw [HN.out]; omega)
      rw [hda]
      have bd := accD_bd D
      obtain ⟨a, ha⟩ : ∃ a, accD D = a := ⟨_, rfl⟩
      rw [ha] at bd ⊢
      have HA := Lib.hid ha
      clear ha hda hlt hk1 hk2 HK HG
      have hsz := hle
      have hi0 : 1 ≤ i := by have := hin.out; omega
      have hi9 : i ≤ 1000 := by have := hin.out; omega
      by_cases hm0 : m = 0
      · have e0 : ¬ (i : Int) < (s.size : Int) := by have := hin.out; omega
        by_cases hn0 : n = 0
        · have ho := Lib.hid (HQ.out.no1 (List.eq_nil_of_length_eq_zero (HN.out.trans hn0)))
          have hb0 : ((i : Int) == 1) = true := beq_iff_eq.2 (by have := hin.out; omega)
          clear hn0
          go_wp2_with fail
          go_ret2
          exact ⟨by rw [← HV.out, ← HE.out, ho.out]; rfl, Below.refl _ _⟩
        · have hb0 : ((i : Int) == 1) = false := beq_eq_false_iff_ne.2 (by have := hin.out; omega)
          obtain ⟨hz, ez⟩ := HQ.out.aD.get 1 (by omega) (by rw [HN.out]; omega)
          obtain ⟨Z, hZ⟩ : ∃ Z, (s[1]'hz).toNat = Z := ⟨_, rfl⟩
          have hZ2 : Hid (D.head? = some (s[1]'hz)) := by
            show D.head? = some (s[1]'hz)
            rw [ez, List.head?_eq_getElem?]
            simp
          clear ez
          by_cases hn1 : (1 : Int) < (i : Int) - 1
          · by_cases hz48 : Z = 48
            · have ho := Lib.hid (HQ.out.no2 (by rw [HN.out]; have := hin.out; omega) (by rw [hZ2.out, eq_nat (n := 48) (by omega) (hZ.trans hz48)]; rfl))
              have t48 : ((Z : Int) == 48) = true := beq_iff_eq.2 (by omega)
              clear hz48 hn0
              go_wp2_with fail
              go_ret2
              exact ⟨by rw [← HV.out, ← HE.out, ho.out]; rfl, Below.refl _ _⟩
            · have t48 : ((Z : Int) == 48) = false := beq_eq_false_iff_ne.2 (by omega)
              have hno : Hid (¬ (1 < D.length ∧ D.head? = some 48)) := by
                show ¬ _
                rintro ⟨-, h⟩
                rw [hZ2.out] at h
                injection h with h
                apply hz48
                rw [← hZ, h]
                rfl
              clear hz48
              have ho : Hid (o = none) := by
                show o = none
                rw [HQ.out.yes (by intro h; apply hn0; rw [← HN.out, h]; rfl) hno.out, mn_short (by rw [HM.out]; omega)]; rfl
              have e3 : (s.size : Int) < (i : Int) + 3 := by have := hin.out; omega
              clear hn0 hm0 hsz hle
              go_wp2_with fail
              go_ret2
              exact ⟨by rw [← HV.out, ← HE.out, ho.out]; rfl, Below.refl _ _⟩
          · have hno : Hid (¬ (1 < D.length ∧ D.head? = some 48)) := by
              show ¬ _
              rintro ⟨h, -⟩
              rw [HN.out] at h
              have := hin.out
              omega
            have ho : Hid (o = none) := by
              show o = none
              rw [HQ.out.yes (by intro h; apply hn0; rw [← HN.out, h]; rfl) hno.out, mn_short (by rw [HM.out]; omega)]; rfl
            have e3 : (s.size : Int) < (i : Int) + 3 := by have := hin.out; omega
            clear hn0 hm0 hsz hle
            go_wp2_with fail
            go_ret2
            exact ⟨by rw [← HV.out, ← HE.out, ho.out]; rfl, Below.refl _ _⟩
      · obtain ⟨r, Y, hR⟩ : ∃ r Y, R = r :: Y := by
          cases hR : R with
          | nil => exact absurd (by rw [← HM.out, hR]; rfl) hm0
          | cons r Y => exact ⟨r, Y, rfl⟩
        have hrd := HQ.out.rh r Y hR
        have aR := HQ.out.aR
        rw [HN.out, show 1 + n = i by have := hin.out; omega, hR] at aR
        obtain ⟨⟨hi, hci⟩, aY⟩ := aR.cons
        obtain ⟨C, hC⟩ : ∃ C, r.toNat = C := ⟨_, rfl⟩
        have hcC : (s[i]'hi).toNat = C := by rw [hci, hC]
        have CC := Lib.hid (fun wx => rdigit_is C false (by rw [← hC]; exact hrd) wx)
        have hYm : Y.length + 1 = m := by rw [← HM.out, hR]; rfl
        clear hrd aR hci hm0
        by_cases hm3 : m < 3
        · have hmm := Lib.hid hm3
          by_cases hn0 : n = 0
          · have ho := Lib.hid (HQ.out.no1 (List.eq_nil_of_length_eq_zero (HN.out.trans hn0)))
            have hb0 : ((i : Int) == 1) = true := beq_iff_eq.2 (by have := hin.out; omega)
            clear hn0
            go_wp2_with (go_at_call 62; refine (CC.out _).mono ?_; rintro e w' ⟨rfl, hww⟩; replace hww := hww.symm; subst hww)
            go_ret2
            exact ⟨by rw [← HV.out, ← HE.out, ho.out]; rfl, Below.refl _ _⟩
          · have hb0 : ((i : Int) == 1) = false := beq_eq_false_iff_ne.2 (by have := hin.out; omega)
            obtain ⟨hz, ez⟩ := HQ.out.aD.get 1 (by omega) (by rw [HN.out]; omega)
            obtain ⟨Z, hZ⟩ : ∃ Z, (s[1]'hz).toNat = Z := ⟨_, rfl⟩
            have hZ2 : Hid (D.head? = some (s[1]'hz)) := by
              show D.head? = some (s[1]'hz)
              rw [ez, List.head?_eq_getElem?]
              simp
            clear ez
            by_cases hn1 : (1 : Int) < (i : Int) - 1
            · by_cases hz48 : Z = 48
              · have ho := Lib.hid (HQ.out.no2 (by rw [HN.out]; have := hin.out; omega) (by rw [hZ2.out, eq_nat (n := 48) (by omega) (hZ.trans hz48)]; rfl))
                have t48 : ((Z : Int) == 48) = true := beq_iff_eq.2 (by omega)
                clear hz48 hn0
                go_wp2_with (go_at_call 62; refine (CC.out _).mono ?_; rintro e w' ⟨rfl, hww⟩; replace hww := hww.symm; subst hww)
                go_ret2
                exact ⟨by rw [← HV.out, ← HE.out, ho.out]; rfl, Below.refl _ _⟩
              · have t48 : ((Z : Int) == 48) = false := beq_eq_false_iff_ne.2 (by omega)
                have hno : Hid (¬ (1 < D.length ∧ D.head? = some 48)) := by
                  show ¬ _
                  rintro ⟨-, h⟩
                  rw [hZ2.out] at h
                  injection h with h
                  apply hz48
                  rw [← hZ, h]
                  rfl
                clear hz48
                have ho : Hid (o = none) := by
                  show o = none
                  rw [HQ.out.yes (by intro h; apply hn0; rw [← HN.out, h]; rfl) hno.out, mn_short (by rw [HM.out]; exact hmm.out)]; rfl
                have e3 : (s.size : Int) < (i : Int) + 3 := by have := hin.out; have := hmm.out; omega
                clear hn0 hsz hle hYm
                go_wp2_with (go_at_call 62; refine (CC.out _).mono ?_; rintro e w' ⟨rfl, hww⟩; replace hww := hww.symm; subst hww)
                go_ret2
                exact ⟨by rw [← HV.out, ← HE.out, ho.out]; rfl, Below.refl _ _⟩
            · have hno : Hid (¬ (1 < D.length ∧ D.head? = some 48)) := by
                show ¬ _
                rintro ⟨h, -⟩
                rw [HN.out] at h
                have := hin.out
                omega
              have ho : Hid (o = none) := by
                show o = none
                rw [HQ.out.yes (by intro h; apply hn0; rw [← HN.out, h]; rfl) hno.out, mn_short (by rw [HM.out]; exact hmm.out)]; rfl
              have e3 : (s.size : Int) < (i : Int) + 3 := by have := hin.out; have := hmm.out; omega
              clear hn0 hsz hle hYm
              go_wp2_with (go_at_call 62; refine (CC.out _).mono ?_; rintro e w' ⟨rfl, hww⟩; replace hww := hww.symm; subst hww)
              go_ret2
              exact ⟨by rw [← HV.out, ← HE.out, ho.out]; rfl, Below.refl _ _⟩
        · have e3 : ¬ (s.size : Int) < (i : Int) + 3 := by have := hin.out; omega
          obtain ⟨x, y, T, hY⟩ : ∃ x y T, Y = x :: y :: T := by
            cases hY : Y with
            | nil => rw [hY] at hYm; simp at hYm; omega
            | cons x Y2 =>
              cases hY2 : Y2 with
              | nil => rw [hY, hY2] at hYm; simp at hYm; omega
              | cons y T => exact ⟨x, y, T, rfl⟩
          rw [hY] at aY hYm hR
          obtain ⟨⟨hi1, hcx⟩, aY2⟩ := aY.cons
          obtain ⟨⟨hi2, hcy⟩, aT⟩ := aY2.cons
          obtain ⟨X, hX⟩ : ∃ X, x.toNat = X := ⟨_, rfl⟩
          obtain ⟨M, hM⟩ : ∃ M, y.toNat = M := ⟨_, rfl⟩
          have hcX : (s[i + 1]'hi1).toNat = X := by rw [hcx, hX]
          have hcM : (s[i + 2]'hi2).toNat = M := by rw [show s[i + 2]'hi2 = s[i + 1 + 1]'hi2 from rfl, hcy, hM]
          have bX : X < 256 := by rw [← hX]; exact x.toNat_lt
          have bM : M < 256 := by rw [← hM]; exact y.toNat_lt
          have AT := Lib.hid aT
          have HR := Lib.hid hR
          have HT := Lib.hid (show T.length + 3 = m by have : (x :: y :: T).length + 1 = m := hYm; simp at this; omega)
          have HX := Lib.hid (And.intro hX (And.intro hM hC))
          have hdx : isDig x = decide (48 ≤ X ∧ X ≤ 57) := by rw [isDig_is, hX]
          have hdy : isDig y = decide (48 ≤ M ∧ M ≤ 57) := by rw [isDig_is, hM]
          have HD := Lib.hid (And.intro hdx hdy)
          clear aY2 aT hcx hcy aY hY hX hM hYm hR hC hdx hdy
          by_cases hG : n ≠ 0 ∧ ¬ (1 < D.length ∧ D.head? = some 48) ∧ C = 45 ∧ (48 ≤ X ∧ X ≤ 57) ∧ (48 ≤ M ∧ M ≤ 57) ∧ X ≤ 53
          · have HGG := Lib.hid hG
            obtain ⟨g1, g2, g3, ⟨g4, g5⟩, ⟨g6, g7⟩, g8⟩ := hG
            have CX := Lib.hid (fun wx => rdigit_is X true (decide_eq_true ⟨g4, g5⟩) wx)
            have CM := Lib.hid (fun wx => rdigit_is M true (decide_eq_true ⟨g6, g7⟩) wx)
            have t45 : ((C : Int) != 45) = false := bne_eq_false_iff_eq.2 (by omega)
            have t92 : decide ((53 : Int) < (X : Int)) = false := decide_eq_false (by omega)
            have e3d : decide ((s.size : Int) < (i : Int) + 3) = false := decide_eq_false e3
            clear g2 g3
            obtain ⟨hz, ez⟩ := HQ.out.aD.get 1 (by omega) (by rw [HN.out]; omega)
            have EZ := Lib.hid ez
            clear ez
            obtain ⟨Z, hZ⟩ : ∃ Z, (s[1]'hz).toNat = Z := ⟨_, rfl⟩
            go_upto_region 11 with (go_at_call 62; refine (CC.out _).mono ?_; rintro e w' ⟨rfl, hww⟩; replace hww := hww.symm; subst hww)
            go_cut [93] from 43 to 93 (fun v93 wx => v93 = .bool false ∧ w = wx)
            case first =>
              have hb0 : ((i : Int) == 1) = false := beq_eq_false_iff_ne.2 (by have := hin.out; omega)
              by_cases hn1 : (1 : Int) < (i : Int) - 1
              · have t48 : ((Z : Int) == 48) = false := beq_eq_false_iff_ne.2 (by
                  intro e
                  refine HGG.out.2.1 ⟨by rw [HN.out]; have := hin.out; omega, ?_⟩
                  rw [List.head?_eq_getElem?, List.getElem?_eq_getElem (by rw [HN.out]; omega)]
                  have e2 : s[1]'hz = 48 := eq_nat (n := 48) (by omega) (hZ.trans (by omega))
                  rw [EZ.out] at e2
                  simp only [Nat.sub_self] at e2
                  rw [e2])
                skip
                go_wp2_with (go_at_call 62; (first | (with_reducible refine (CC.out _).mono ?_) | (with_reducible refine (CX.out _).mono ?_) | (with_reducible refine (CM.out _).mono ?_)); rintro e w' ⟨rfl, hww⟩; replace hww := hww.symm; subst hww)
                go_meet
                exact ⟨rfl, rfl⟩
              · skip
                go_wp2_with (go_at_call 62; (first | (with_reducible refine (CC.out _).mono ?_) | (with_reducible refine (CX.out _).mono ?_) | (with_reducible refine (CM.out _).mono ?_)); rintro e w' ⟨rfl, hww⟩; replace hww := hww.symm; subst hww)
                go_meet
                exact ⟨rfl, rfl⟩
            case rest =>
              obtain ⟨rfl, rfl⟩ := hcut
              clear e3 e3d t92 t45 CC EZ
              have ho := Lib.hid (HQ.out.yes (by intro h; apply g1; rw [← HN.out, h]; rfl) HGG.out.2.1)
              have hmn := mn_yes (r := r) (x := x) (y := y) (T := T) ⟨eq_nat (n := 45) (by omega) (HX.out.2.2.trans HGG.out.2.2.1), HD.out.1.trans (decide_eq_true ⟨g4, g5⟩), HD.out.2.trans (decide_eq_true ⟨g6, g7⟩), by rw [HX.out.1]; exact g8⟩
              rw [HX.out.1, HX.out.2.1] at hmn
              have HO : Hid (o = (frP T).map (fun f => (val D, 10 * (X - 48) + (M - 48), f))) := by
                show o = _
                rw [ho.out, HR.out, hmn, Option.map_map]
                rfl
              clear hmn ho
              obtain ⟨u, hu⟩ : ∃ u : Nat, 10 * (X - 48) + (M - 48) = u := ⟨_, rfl⟩
              rw [hu] at HO
              have bu : u ≤ 600 := by omega
              have y1 := i64_is (x := (i : Int) + 1) (by omega) (by omega)
              have y2 := i64_is (x := (i : Int) + 2) (by omega) (by omega)
              have y3 : IntKind.u8.wrap ((X : Int) - 48) = (X : Int) - 48 := by rw [IntKind.wrap_u8]; omega
              have y4 : IntKind.u8.wrap ((M : Int) - 48) = (M : Int) - 48 := by rw [IntKind.wrap_u8]; omega
              have y5 := i64_is (x := (X : Int) - 48) (by omega) (by omega)
              have y6 := i64_is (x := (M : Int) - 48) (by omega) (by omega)
              have y7 := i64_is (x := 10 * ((X : Int) - 48)) (by omega) (by omega)
              have y8 : IntKind.i64.wrap (10 * ((X : Int) - 48) + ((M : Int) - 48)) = (u : Int) := (i64_is (by omega) (by omega)).trans (by omega)
              clear hu
              have p1 : (0 : Int) ≤ (i : Int) + 1 := by omega
              have p2 : (0 : Int) ≤ (i : Int) + 2 := by omega
              have p3 : (i : Int) + 1 < (s.size : Int) := by omega
              have p4 : (i : Int) + 2 < (s.size : Int) := by omega
              go_upto_region 13 with fail
              go_region
              have HB := Lib.hid ((Below.refl w.heap.size w).drew)
              generalize w.drew = v at *
              clear y1 y2 y3 y4 y5 y6 y7 y8 CX CM HD HX
              by_cases hT : T = []
              · have h3 : m = 3 := by have := HT.out; rw [hT] at this; exact this.symm
                have q0 : ¬ (i : Int) + 3 < (s.size : Int) := by have := hin.out; omega
                have HP0 : o = some (val D, u, 0) := by rw [HO.out, hT]; rfl
                clear hT
                have HP := Lib.hid (HP0)
                by_cases hbig : (a : Int) > 18325193
                · have HZ := Lib.hid (ans_big true HP.out (.inl ((accD_big D).1 (by rw [HA.out]; omega))))
                  go_wp2_with fail
                  go_ret2
                  exact ⟨by rw [← HV.out, ← HE.out, HZ.out.1, HZ.out.2]; rfl, HB.out⟩
                · have HVD := Lib.hid (show val D = a from (accD_ok D (by rw [HA.out]; omega)).symm.trans HA.out)
                  by_cases hmx : (a : Int) * 60000 + (u : Int) * 1000 > 1099511627776
                  · have HZ := Lib.hid (ans_big true HP.out (.inr (by rw [HVD.out]; omega)))
                    go_wp2_with fail
                    go_ret2
                    exact ⟨by rw [← HV.out, ← HE.out, HZ.out.1, HZ.out.2]; rfl, HB.out⟩
                  · have HZ := Lib.hid (ans_ok HP.out (by rw [HVD.out]; omega))
                    have HVV := Lib.hid (HZ.out.2.1.trans (show _ = -((a : Int) * 60000 + (u : Int) * 1000) by rw [HVD.out]; omega))
                    go_wp2_with fail
                    go_ret2
                    exact ⟨by rw [← HV.out, ← HE.out, HVV.out, HZ.out.2.2]; rfl, HB.out⟩
              · obtain ⟨c, F, hcF⟩ : ∃ c F, T = c :: F := by
                  cases hT2 : T with
                  | nil => exact absurd hT2 hT
                  | cons c F => exact ⟨c, F, rfl⟩
                have aT := AT.out
                rw [hcF] at aT
                obtain ⟨⟨hi3, hcc⟩, aF⟩ := aT.cons
                obtain ⟨W, hW⟩ : ∃ W, c.toNat = W := ⟨_, rfl⟩
                have hcW : (s[i + 3]'hi3).toNat = W := by rw [show s[i + 3]'hi3 = s[i + 1 + 1 + 1]'hi3 from rfl, hcc, hW]
                obtain ⟨f, hf⟩ : ∃ f, F.length = f := ⟨_, rfl⟩
                have hfm : f + 4 = m := by have := HT.out; rw [hcF] at this; simp at this; omega
                have AF := Lib.hid aF
                have HF := Lib.hid hf
                have HW := Lib.hid hW
                have HC := Lib.hid hcF
                have q0 : (i : Int) + 3 < (s.size : Int) := by have := hin.out; omega
                have p5 : (0 : Int) ≤ (i : Int) + 3 := by omega
                have hsf : Hid (s.size = i + 4 + f) := by show _ = _; have := hin.out; omega
                clear hT aT hcc hW hf hcF aF hle hsz hfm
                by_cases hw : W = 46
                · have t46 : ((W : Int) != 46) = false := bne_eq_false_iff_eq.2 (by omega)
                  have HW6 := Lib.hid (eq_nat (n := 46) (by omega) (HW.out.trans hw))
                  clear hw
                  by_cases hf0 : f = 0
                  · have t4 : ((s.size : Int) == (i : Int) + 3 + 1) = true := beq_iff_eq.2 (by have := hsf.out; omega)
                    have ho : Hid (o = none) := by
                      show o = none
                      rw [HO.out, HC.out, fr_no (by rintro ⟨-, h, -, -⟩; rw [HF.out] at h; omega)]; rfl
                    clear hf0
                    go_wp2_with fail
                    go_ret2
                    exact ⟨by rw [← HV.out, ← HE.out, ho.out]; rfl, HB.out⟩
                  · have t4 : ((s.size : Int) == (i : Int) + 3 + 1) = false := beq_eq_false_iff_ne.2 (by have := hsf.out; omega)
                    by_cases hf3 : (s.size : Int) > (i : Int) + 3 + 4
                    · skip
                      have ho : Hid (o = none) := by
                        show o = none
                        rw [HO.out, HC.out, fr_no (by rintro ⟨-, -, h, -⟩; rw [HF.out] at h; have := hsf.out; omega)]; rfl
                      clear hf0
                      go_wp2_with fail
                      go_ret2
                      exact ⟨by rw [← HV.out, ← HE.out, ho.out]; rfl, HB.out⟩
                    · have HF3 := Lib.hid (show f ≤ 3 by have := hsf.out; omega)
                      have HF0 := Lib.hid (show 1 ≤ f by omega)
                      have d3 : decide ((i : Int) + 3 + 4 < (s.size : Int)) = false := decide_eq_false hf3
                      clear hf0 hf3
                      go_wp2_with fail
                      clear hcW hcM hcX
                      have HV9 := Lib.hid (Below.refl v.heap.size v)
                      go_loopg [5, 9, 10] f (fun g v5 v9 v10 wr => ∃ j : Nat, g = f - j ∧ v5 = .int .i64 ((i : Int) + 4 + (j : Int)) ∧ v9 = .int .i64 ((fvN F j : Nat) : Int) ∧ v10 = .int .i64 ((uvN j : Nat) : Int) ∧ Hid (j ≤ f) ∧ Hid ((F.take j).all isDig = true) ∧ v = wr)
                      case atStart => exact ⟨0, rfl, by go_num, rfl, rfl, Nat.zero_le _, rfl, rfl⟩
                      case round =>
                        obtain ⟨j, hg, rfl, rfl, rfl, HJ, HAL, rfl⟩ := hrel
                        have HG := Lib.hid hg
                        clear hg
                        have bfj := fv_bd F j (by have := HJ.out; have := HF3.out; omega)
                        have bj : j ≤ 3 := by have := HJ.out; have := HF3.out; omega
                        have buj : uvN j ≤ 100 := by rcases (show j = 0 ∨ j = 1 ∨ j = 2 ∨ j = 3 by omega) with rfl | rfl | rfl | rfl <;> decide
                        obtain ⟨fj, hfj⟩ : ∃ x, fvN F j = x := ⟨_, rfl⟩
                        obtain ⟨uj, huj⟩ : ∃ x, uvN j = x := ⟨_, rfl⟩
                        rw [hfj] at bfj ⊢
                        rw [huj] at buj ⊢
                        have HFJ := Lib.hid hfj
                        have HUJ := Lib.hid huj
                        clear hfj huj
                        by_cases hlt : j < f
                        · obtain ⟨hij, eij⟩ := AF.out.get (i + 4 + j) (by omega) (by rw [HF.out]; omega)
                          obtain ⟨G, hG⟩ : ∃ G, (s[i + 4 + j]'hij).toNat = G := ⟨_, rfl⟩
                          have EIJ : Hid (F.getD j 0 = s[i + 4 + j]'hij) := by
                            show _ = _
                            rw [eij, List.getD_eq_getElem?_getD, List.getElem?_eq_getElem (by rw [HF.out]; exact hlt)]
                            simp only [Option.getD_some]
                            congr 1
                            omega
                          clear eij
                          have j1 : (0 : Int) ≤ (i : Int) + 4 + (j : Int) := by omega
                          have j2 : (i : Int) + 4 + (j : Int) < (s.size : Int) := by omega
                          have TK : Hid (F.take (j + 1) = F.take j ++ [s[i + 4 + j]'hij]) := by
                            show _ = _
                            rw [← EIJ.out, List.take_succ_eq_append_getElem (by rw [HF.out]; exact hlt), List.getD_eq_getElem?_getD, List.getElem?_eq_getElem (by rw [HF.out]; exact hlt)]
                            rfl
                          by_cases hgd : 48 ≤ G ∧ G ≤ 57
                          · have CG := Lib.hid (fun wx => rdigit_is G true (decide_eq_true hgd) wx)
                            obtain ⟨hg1, hg2⟩ := hgd
                            have hgu := mul_abs (a := (uj : Int)) (b := (G : Int) - 48) (A := 100) (B := 9) (by omega) (by omega) (by omega) (by omega)
                            go_wp2_with (go_at_call 62; refine (CG.out _).mono ?_; rintro e w' ⟨rfl, hww⟩; replace hww := hww.symm; subst hww)
                            have hdg : isDig (s[i + 4 + j]'hij) = true := by rw [isDig_is, hG]; exact decide_eq_true ⟨hg1, hg2⟩
                            go_roundg (f - (j + 1))
                            case measure => have := HG.out; omega
                            case rel =>
                              refine ⟨j + 1, rfl, by go_num, ?_, ?_, by show _ ≤ _; omega, ?_, rfl⟩
                              · rw [show fvN F (j + 1) = fvN F j + uvN j * ((F.getD j 0).toNat - 48) from rfl, HFJ.out, HUJ.out, EIJ.out, hG, Int.natCast_add, Int.natCast_mul, Int.natCast_sub hg1]
                                rfl
                              · rw [uv_step, HUJ.out]
                                go_num
                              · show (F.take (j + 1)).all isDig = true
                                rw [TK.out, List.all_append, HAL.out]
                                simp [hdg]
                          · have hdg : isDig (s[i + 4 + j]'hij) = false := by rw [isDig_is, hG]; exact decide_eq_false hgd
                            have ho : Hid (o = none) := by
                              show o = none
                              rw [HO.out, HC.out, fr_no (by
                                rintro ⟨-, -, -, h⟩
                                have h2 := all_take h (j + 1)
                                rw [TK.out, List.all_append] at h2
                                simp [hdg] at h2)]
                              rfl
                            have CG := Lib.hid (fun wx => rdigit_is G false (decide_eq_false hgd) wx)
                            clear hdg hgd
                            go_wp2_with (go_at_call 62; refine (CG.out _).mono ?_; rintro e w' ⟨rfl, hww⟩; replace hww := hww.symm; subst hww)
                            go_ret2
                            exact ⟨by rw [← HV.out, ← HE.out, ho.out]; rfl, HB.out⟩
                        · have hjf : j = f := by have := HJ.out; omega
                          have hfr : frP T = some fj := by
                            have ha := HAL.out
                            rw [List.take_of_length_le (by rw [HF.out]; omega)] at ha
                            rw [HC.out, HW6.out, show (UInt8.ofNat 46 : UInt8) = 46 from rfl, fr_yes (by rw [HF.out]; exact HF0.out) (by rw [HF.out]; exact HF3.out) ha, HF.out, ← hjf, HFJ.out]
                          have HPf : o = some (val D, u, fj) := by rw [HO.out, hfr]; rfl
                          have e9 : ¬ (i : Int) + 4 + (j : Int) < (s.size : Int) := by have := hsf.out; omega
                          clear hjf hfr hlt
                          have HP := Lib.hid (HPf)
                          by_cases hbig : (a : Int) > 18325193
                          · have HZ := Lib.hid (ans_big true HP.out (.inl ((accD_big D).1 (by rw [HA.out]; omega))))
                            go_wp2_with fail
                            go_ret2
                            exact ⟨by rw [← HV.out, ← HE.out, HZ.out.1, HZ.out.2]; rfl, HB.out⟩
                          · have HVD := Lib.hid (show val D = a from (accD_ok D (by rw [HA.out]; omega)).symm.trans HA.out)
                            by_cases hmx : (a : Int) * 60000 + (u : Int) * 1000 + ((fj : Nat) : Int) > 1099511627776
                            · have HZ := Lib.hid (ans_big true HP.out (.inr (by rw [HVD.out]; omega)))
                              go_wp2_with fail
                              go_ret2
                              exact ⟨by rw [← HV.out, ← HE.out, HZ.out.1, HZ.out.2]; rfl, HB.out⟩
                            · have HZ := Lib.hid (ans_ok HP.out (by rw [HVD.out]; omega))
                              have HVV := Lib.hid (HZ.out.2.1.trans (show _ = -((a : Int) * 60000 + (u : Int) * 1000 + ((fj : Nat) : Int)) by rw [HVD.out]; omega))
                              go_wp2_with fail
                              go_ret2
                              exact ⟨by rw [← HV.out, ← HE.out, HVV.out, HZ.out.2.2]; rfl, HB.out⟩
                · have t46 : ((W : Int) != 46) = true := bne_iff_ne.2 (by omega)
                  have ho : Hid (o = none) := by
                    show o = none
                    rw [HO.out, HC.out, fr_no (by rintro ⟨h, -, -, -⟩; apply hw; rw [← HW.out, h]; rfl)]; rfl
                  clear hw
                  go_wp2_with fail
                  go_ret2
                  exact ⟨by rw [← HV.out, ← HE.out, ho.out]; rfl, HB.out⟩
          · have HNG := Lib.hid hG
            have CX := Lib.hid (fun wx => rdigit X wx)
            have CM := Lib.hid (fun wx => rdigit M wx)
            obtain ⟨rx, hrx⟩ : ∃ rx, decide (48 ≤ X ∧ X ≤ 57) = rx := ⟨_, rfl⟩
            obtain ⟨ry, hry⟩ : ∃ ry, decide (48 ≤ M ∧ M ≤ 57) = ry := ⟨_, rfl⟩
            rw [hrx] at CX
            rw [hry] at CM
            have HXY := Lib.hid (And.intro hrx hry)
            have e3d : decide ((s.size : Int) < (i : Int) + 3) = false := decide_eq_false e3
            have HE3 := Lib.hid e3
            clear hG hrx hry e3
            by_cases hn0 : n = 0
            · have ho := Lib.hid (HQ.out.no1 (List.eq_nil_of_length_eq_zero (HN.out.trans hn0)))
              have hb0 : ((i : Int) == 1) = true := beq_iff_eq.2 (by have := hin.out; omega)
              clear hn0
              go_wp2_with (go_at_call 62; (first | (with_reducible refine (CC.out _).mono ?_) | (with_reducible refine (CX.out _).mono ?_) | (with_reducible refine (CM.out _).mono ?_)); rintro e w' ⟨rfl, hww⟩; replace hww := hww.symm; subst hww)
              go_ret2
              exact ⟨by rw [← HV.out, ← HE.out, ho.out]; rfl, Below.refl _ _⟩
            · have hb0 : ((i : Int) == 1) = false := beq_eq_false_iff_ne.2 (by have := hin.out; omega)
              obtain ⟨hz, ez⟩ := HQ.out.aD.get 1 (by omega) (by rw [HN.out]; omega)
              obtain ⟨Z, hZ⟩ : ∃ Z, (s[1]'hz).toNat = Z := ⟨_, rfl⟩
              have hZ2 : Hid (D.head? = some (s[1]'hz)) := by
                show D.head? = some (s[1]'hz)
                rw [ez, List.head?_eq_getElem?]
                simp
              clear ez
              by_cases hn1 : (1 : Int) < (i : Int) - 1
              · by_cases hz48 : Z = 48
                · have ho := Lib.hid (HQ.out.no2 (by rw [HN.out]; have := hin.out; omega) (by rw [hZ2.out, eq_nat (n := 48) (by omega) (hZ.trans hz48)]; rfl))
                  have t48 : ((Z : Int) == 48) = true := beq_iff_eq.2 (by omega)
                  clear hz48 hn0
                  go_wp2_with (go_at_call 62; (first | (with_reducible refine (CC.out _).mono ?_) | (with_reducible refine (CX.out _).mono ?_) | (with_reducible refine (CM.out _).mono ?_)); rintro e w' ⟨rfl, hww⟩; replace hww := hww.symm; subst hww)
                  go_ret2
                  exact ⟨by rw [← HV.out, ← HE.out, ho.out]; rfl, Below.refl _ _⟩
                · have t48 : ((Z : Int) == 48) = false := beq_eq_false_iff_ne.2 (by omega)
                  have hno : Hid (¬ (1 < D.length ∧ D.head? = some 48)) := by
                    show ¬ _
                    rintro ⟨-, h⟩
                    rw [hZ2.out] at h
                    injection h with h
                    apply hz48
                    rw [← hZ, h]
                    rfl
                  clear hz48
                  by_cases hC45 : C = 45
                  · have t45 : ((C : Int) != 45) = false := bne_eq_false_iff_eq.2 (by omega)
                    have HC45 := Lib.hid hC45
                    clear hC45
                    cases rx
                    · have hb := HXY.out.1
                      have ho : Hid (o = none) := by
                        show o = none
                        rw [HQ.out.yes (by intro h; apply hn0; rw [← HN.out, h]; rfl) hno.out, HR.out, mn_no (by rintro ⟨-, h, -, -⟩; rw [HD.out.1, hb] at h; cases h)]; rfl
                      clear hn0
                      go_wp2_with (go_at_call 62; (first | (with_reducible refine (CC.out _).mono ?_) | (with_reducible refine (CX.out _).mono ?_) | (with_reducible refine (CM.out _).mono ?_)); rintro e w' ⟨rfl, hww⟩; replace hww := hww.symm; subst hww)
                      go_ret2
                      exact ⟨by rw [← HV.out, ← HE.out, ho.out]; rfl, Below.refl _ _⟩
                    · cases ry
                      · have hb := HXY.out.2
                        have ho : Hid (o = none) := by
                          show o = none
                          rw [HQ.out.yes (by intro h; apply hn0; rw [← HN.out, h]; rfl) hno.out, HR.out, mn_no (by rintro ⟨-, -, h, -⟩; rw [HD.out.2, hb] at h; cases h)]; rfl
                        clear hn0
                        go_wp2_with (go_at_call 62; (first | (with_reducible refine (CC.out _).mono ?_) | (with_reducible refine (CX.out _).mono ?_) | (with_reducible refine (CM.out _).mono ?_)); rintro e w' ⟨rfl, hww⟩; replace hww := hww.symm; subst hww)
                        go_ret2
                        exact ⟨by rw [← HV.out, ← HE.out, ho.out]; rfl, Below.refl _ _⟩
                      · have hx53 : ¬ X ≤ 53 := by
                          intro h
                          exact HNG.out ⟨hn0, hno.out, HC45.out, of_decide_eq_true HXY.out.1, of_decide_eq_true HXY.out.2, h⟩
                        have t92 : decide ((53 : Int) < (X : Int)) = true := decide_eq_true (by omega)
                        have ho : Hid (o = none) := by
                          show o = none
                          rw [HQ.out.yes (by intro h; apply hn0; rw [← HN.out, h]; rfl) hno.out, HR.out, mn_no (by rintro ⟨-, -, -, h⟩; rw [HX.out.1] at h; omega)]; rfl
                        clear hn0
                        go_wp2_with (go_at_call 62; (first | (with_reducible refine (CC.out _).mono ?_) | (with_reducible refine (CX.out _).mono ?_) | (with_reducible refine (CM.out _).mono ?_)); rintro e w' ⟨rfl, hww⟩; replace hww := hww.symm; subst hww)
                        go_ret2
                        exact ⟨by rw [← HV.out, ← HE.out, ho.out]; rfl, Below.refl _ _⟩
                  · have t45 : ((C : Int) != 45) = true := bne_iff_ne.2 (by omega)
                    have HC45 := Lib.hid hC45
                    clear hC45
                    have ho : Hid (o = none) := by
                      show o = none
                      rw [HQ.out.yes (by intro h; apply hn0; rw [← HN.out, h]; rfl) hno.out, HR.out, mn_no (by rintro ⟨h, -, -, -⟩; apply HC45.out; rw [← HX.out.2.2, h]; rfl)]; rfl
                    clear hn0
                    go_wp2_with (go_at_call 62; (first | (with_reducible refine (CC.out _).mono ?_) | (with_reducible refine (CX.out _).mono ?_) | (with_reducible refine (CM.out _).mono ?_)); rintro e w' ⟨rfl, hww⟩; replace hww := hww.symm; subst hww)
                    go_ret2
                    exact ⟨by rw [← HV.out, ← HE.out, ho.out]; rfl, Below.refl _ _⟩
              · have hno : Hid (¬ (1 < D.length ∧ D.head? = some 48)) := by
                  show ¬ _
                  rintro ⟨h, -⟩
                  rw [HN.out] at h
                  have := hin.out
                  omega
                by_cases hC45 : C = 45
                · have t45 : ((C : Int) != 45) = false := bne_eq_false_iff_eq.2 (by omega)
                  have HC45 := Lib.hid hC45
                  clear hC45
                  cases rx
                  · have hb := HXY.out.1
                    have ho : Hid (o = none) := by
                      show o = none
                      rw [HQ.out.yes (by intro h; apply hn0; rw [← HN.out, h]; rfl) hno.out, HR.out, mn_no (by rintro ⟨-, h, -, -⟩; rw [HD.out.1, hb] at h; cases h)]; rfl
                    clear hn0
                    go_wp2_with (go_at_call 62; (first | (with_reducible refine (CC.out _).mono ?_) | (with_reducible refine (CX.out _).mono ?_) | (with_reducible refine (CM.out _).mono ?_)); rintro e w' ⟨rfl, hww⟩; replace hww := hww.symm; subst hww)
                    go_ret2
                    exact ⟨by rw [← HV.out, ← HE.out, ho.out]; rfl, Below.refl _ _⟩
                  · cases ry
                    · have hb := HXY.out.2
                      have ho : Hid (o = none) := by
                        show o = none
                        rw [HQ.out.yes (by intro h; apply hn0; rw [← HN.out, h]; rfl) hno.out, HR.out, mn_no (by rintro ⟨-, -, h, -⟩; rw [HD.out.2, hb] at h; cases h)]; rfl
                      clear hn0
                      go_wp2_with (go_at_call 62; (first | (with_reducible refine (CC.out _).mono ?_) | (with_reducible refine (CX.out _).mono ?_) | (with_reducible refine (CM.out _).mono ?_)); rintro e w' ⟨rfl, hww⟩; replace hww := hww.symm; subst hww)
                      go_ret2
                      exact ⟨by rw [← HV.out, ← HE.out, ho.out]; rfl, Below.refl _ _⟩
                    · have hx53 : ¬ X ≤ 53 := by
                        intro h
                        exact HNG.out ⟨hn0, hno.out, HC45.out, of_decide_eq_true HXY.out.1, of_decide_eq_true HXY.out.2, h⟩
                      have t92 : decide ((53 : Int) < (X : Int)) = true := decide_eq_true (by omega)
                      have ho : Hid (o = none) := by
                        show o = none
                        rw [HQ.out.yes (by intro h; apply hn0; rw [← HN.out, h]; rfl) hno.out, HR.out, mn_no (by rintro ⟨-, -, -, h⟩; rw [HX.out.1] at h; omega)]; rfl
                      clear hn0
                      go_wp2_with (go_at_call 62; (first | (with_reducible refine (CC.out _).mono ?_) | (with_reducible refine (CX.out _).mono ?_) | (with_reducible refine (CM.out _).mono ?_)); rintro e w' ⟨rfl, hww⟩; replace hww := hww.symm; subst hww)
                      go_ret2
                      exact ⟨by rw [← HV.out, ← HE.out, ho.out]; rfl, Below.refl _ _⟩
                · have t45 : ((C : Int) != 45) = true := bne_iff_ne.2 (by omega)
                  have HC45 := Lib.hid hC45
                  clear hC45
                  have ho : Hid (o = none) := by
                    show o = none
                    rw [HQ.out.yes (by intro h; apply hn0; rw [← HN.out, h]; rfl) hno.out, HR.out, mn_no (by rintro ⟨h, -, -, -⟩; apply HC45.out; rw [← HX.out.2.2, h]; rfl)]; rfl
                  clear hn0
                  go_wp2_with (go_at_call 62; (first | (with_reducible refine (CC.out _).mono ?_) | (with_reducible refine (CX.out _).mono ?_) | (with_reducible refine (CM.out _).mono ?_)); rintro e w' ⟨rfl, hww⟩; replace hww := hww.symm; subst hww)
                  go_ret2
                  exact ⟨by rw [← HV.out, ← HE.out, ho.out]; rfl, Below.refl _ _⟩

set_option maxRecDepth 100000 in
theorem rp_nil (w : World) : Calls Tryz.prog 36 #[.string ⟨#[]⟩] w fun e w' => e = .returned (.tuple #[.int .i64 0, .int .i64 7]) ∧ Below w.heap.size w w' := by
  go_enter Tryz.func36, Tryz.ntmps36
  go_wp2_with fail
  go_loopg [5, 7] 0 (fun g v5 v7 wr => v5 = .int .i64 0 ∧ v7 = .int .i64 0 ∧ w = wr)
  case atStart => exact ⟨rfl, rfl, rfl⟩
  case round =>
    obtain ⟨rfl, rfl, rfl⟩ := hrel
    go_wp2_with fail
    go_ret2
    exact ⟨rfl, Below.refl _ _⟩
theorem rParse (s : ByteArray) (w : World) (hs : s.size ≤ 1000) :
    Calls Tryz.prog 36 #[.string s] w fun e w' => e = .returned (.tuple #[.int .i64 (paV s.data.toList), .int .i64 (paE s.data.toList)]) ∧ Below w.heap.size w w' := by
  obtain ⟨p1, p2⟩ := pa_ans s.data.toList
  rw [p1, p2]
  by_cases hp : 0 < s.size
  · have hl : 0 < s.data.toList.length := by rw [← sz_eq]; exact hp
    obtain ⟨c, L, hL⟩ : ∃ c L, s.data.toList = c :: L := by
      cases h : s.data.toList with
      | nil => rw [h] at hl; simp at hl
      | cons c L => exact ⟨c, L, rfl⟩
    have hW := LAt.whole s
    rw [hL] at hW
    obtain ⟨⟨h0, e0⟩, hT⟩ := hW.cons
    have hz : s.size = L.length + 1 := by rw [sz_eq, hL]; rfl
    by_cases hc : c = 45
    · have sg : sgP (c :: L) = true := by subst hc; rfl
      have un : unP (c :: L) = L := by unfold unP; rw [if_pos sg]; rfl
      rw [hL, sg, un]
      exact rp1 s w hs hp (by rw [e0, hc]; rfl) _ _ _ (pts_of 1 s L hT (by omega))
    · have sg : sgP (c :: L) = false := by unfold sgP; rw [decide_eq_false_iff_not]; simpa using hc
      have un : unP (c :: L) = c :: L := by unfold unP; rw [if_neg (by rw [sg]; simp)]
      rw [hL, sg, un]
      refine rp0 s w hs hp ?_ _ _ _ (pts_of 0 s (c :: L) (by rw [← hL]; exact LAt.whole s) (by rw [hz]; simp))
      intro h
      apply hc
      rw [← e0]
      exact eq_nat (n := 45) (by omega) h
  · have e : s = ⟨#[]⟩ := by
      apply ByteArray.ext
      apply Array.eq_empty_of_size_eq_zero
      have : s.size = s.data.size := rfl
      omega
    subst e
    exact rp_nil w
end Go.Proofs.YtgcoddjjkcdfmaaGreatDoor
