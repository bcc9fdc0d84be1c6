/- Arctrig: the reference's Side. -/
import Derived.Test.YtndcjldnnfhedaaDoorArYi
import Derived.Test.YtndcjldnnfhedaaDoorArYb
import Derived.RegionTactic
import Derived.Deep.RegionHeld3
namespace Go.Proofs.YtndcjldnnfhedaaDoor.wd2
open Go.RowKit
set_option linter.unusedVariables false
set_option maxRecDepth 100000

theorem nz_far2 {w : World} {A : Option Addr} {n c b : Nat} {g : Bool} {z : Int} (h : NZ w A n c g z) (hF : ∀ ad, A = some ad → ad.block ≠ b) (u v : Value) : NZ ((w.setCell ⟨b, 0, none⟩ u).setCell ⟨b, 1, none⟩ v) A n c g z :=
  ⟨(h.dig.far _ hF _).far _ hF _, h.sgn⟩
set_option maxHeartbeats 4000000 in
theorem side_other (n X Y : Int) (h0 : 0 ≤ n) (h1 : n ≤ 5400000) (hn : n % 2700000 ≠ 0) (x0 : 0 < X) (x1 : X ≤ 2147483648) (y0 : 0 ≤ Y) (y1 : Y ≤ 2147483648) (w : World) :
    Calls Tryd.prog 54 #[.int .i64 n, .int .i64 X, .int .i64 Y] w fun e w' => e = .returned (.int .i64 (L6.sd n X Y)) ∧ Below w.heap.size w w' := by
  obtain ⟨r, hr, CQ⟩ := rQuickSide n X Y w h0 (by omega) (by omega) x1 (by omega) y1
  obtain ⟨s1, s2⟩ := sd_sign (Y := Y) h0 h1 hn x0
  have D3 := Lib.hid (dec3 h0 h1 hn x0 x1 y0 y1)
  have D4 := Lib.hid (dec4 h0 h1 hn x0 x1 y0 y1)
  have CC := Lib.hid CQ
  have e1 : n % 21600000 = n := by omega
  have z1 : ¬ n < 0 := by omega
  have z2 : ¬ X = 0 := by omega
  have z3 : (X == 0) = false := beq_eq_false_iff_ne.2 (by omega)
  have z4 : (n % 2700000 == 0) = false := beq_eq_false_iff_ne.2 hn
  by_cases hr0 : r = 0
  · subst hr0
    clear hr CQ s1 s2
    go_enter Tryd.func54, Tryd.ntmps54
    go_wp2_with fail
    refine (CC.out _).mono ?_
    rintro e w1 ⟨rfl, rfl⟩
    go_wp2_with fail
    go_loopg [11] 1 (fun mm v11 wr => ∃ k P A : Nat, v11 = .int .i64 (k : Int) ∧ mm = 4 - k ∧ 3 ≤ k ∧ k ≤ 4 ∧ Hid (Kk k P A) ∧ Hid (Dec k P A n X Y) ∧ Hid (Below w1.heap.size w1 wr))
    case atStart => exact ⟨3, _, _, rfl, rfl, by omega, by omega, k3, D3, Below.refl _ _⟩
    case round =>
      obtain ⟨k, P, A, rfl, hm, hk3, hk4, HK, HD, HB⟩ := hrel
      have HM := Lib.hid hm
      clear hm
      have NL := Lib.hid (fun n => ne_len HK.out n)
      have XL := Lib.hid (x_len (x := X) (by omega) (by omega))
      have YL := Lib.hid (x_len (x := Y) (by omega) (by omega))
      go_wp2_with fail
      refine (ofint_any X _ (by omega) (by omega)).mono ?_
      rintro e w1' ⟨A1, n1, c1, g1, rfl, q1, f1, b1⟩
      have Q1 := Lib.hid q1
      have B1 := Lib.hid (bl2 HB.out b1)
      clear q1 f1 b1
      go_wp2_with fail
      refine (near_any k P A HK.out n h0 _).mono ?_
      rintro e w2 ⟨A2, n2, c2, g2, rfl, q2, f2, b2⟩
      have Q2 := Lib.hid q2
      have Q1 := Lib.hid (Q1.out.keep b2)
      have B2 := Lib.hid (bl2 B1.out b2)
      clear q2 f2 b2 B1
      go_wp2_with fail
      refine (mul_any _ _ _ _ _ _ _ _ _ _ _ Q1.out Q2.out (by have := XL.out; unfold Sm; omega) (by have := NL.out n; unfold Sm; omega)).mono ?_
      rintro e w3 ⟨A3, n3, c3, g3, rfl, q3, f3, b3⟩
      have PA := At2.new w3 (.slice A3 n3 c3) (.bool g3) 107
      have Q3 := Lib.hid (q3.alloc (.cells #[.slice A3 n3 c3, .bool g3] 107))
      have B3 := Lib.hid (bl2 B2.out (bl2 b3 ((Below.refl _ _).alloc (Nat.le_refl _) (.cells #[.slice A3 n3 c3, .bool g3] 107))))
      clear q3 f3 b3 B2 Q1 Q2
      have HPA := Lib.hid PA
      clear PA
      go_wp2_with fail
      refine (ofint_any Y _ (by omega) (by omega)).mono ?_
      rintro e w4 ⟨A4, n4, c4, g4, rfl, q4, f4, b4⟩
      have Q4 := Lib.hid q4
      have Q3 := Lib.hid (Q3.out.keep b4)
      have HPA := Lib.hid (HPA.out.keep b4)
      have B4 := Lib.hid (bl2 B3.out b4)
      clear q4 f4 b4 B3
      go_wp2_with fail
      refine (near_any k P A HK.out (n + 5400000) (by omega) _).mono ?_
      rintro e w5 ⟨A5, n5, c5, g5, rfl, q5, f5, b5⟩
      have Q5 := Lib.hid q5
      have Q4 := Lib.hid (Q4.out.keep b5)
      have Q3 := Lib.hid (Q3.out.keep b5)
      have HPA := Lib.hid (HPA.out.keep b5)
      have B5 := Lib.hid (bl2 B4.out b5)
      clear q5 f5 b5 B4
      go_wp2_with fail
      refine (mul_any _ _ _ _ _ _ _ _ _ _ _ Q4.out Q5.out (by have := YL.out; unfold Sm; omega) (by have := NL.out (n + 5400000); unfold Sm; omega)).mono ?_
      rintro e w6 ⟨A6, n6, c6, g6, rfl, q6, f6, b6⟩
      have PB := At2.new w6 (.slice A6 n6 c6) (.bool g6) 107
      have b7 : Below w6.heap.size w6 (w6.alloc (.cells #[.slice A6 n6 c6, .bool g6] 107)) := (Below.refl _ _).alloc (Nat.le_refl _) _
      have Q6 := Lib.hid (q6.keep b7)
      have Q3 := Lib.hid (Q3.out.keep (bl2 b6 b7))
      have PA := HPA.out.keep (bl2 b6 b7)
      have B6 := Lib.hid (bl2 B5.out (bl2 b6 b7))
      clear q6 f6 b6 b7 B5 Q4 Q5 HPA
      obtain ⟨D, hD⟩ : ∃ D, D = L6.dL P A n X Y := ⟨_, rfl⟩
      have HE := Lib.hid hD
      have DD := HD.out
      have hDe : X * L6.neL P A n + -(Y * L6.neL P A (n + 5400000)) = D := by rw [hD]; unfold L6.dL; omega
      have LD : Hid ((dgs D.natAbs).length ≤ 27) := by
        have a := mul_len XL.out (NL.out n)
        have b := mul_len YL.out (NL.out (n + 5400000))
        have c := sub_len a b
        rw [hDe] at c
        exact c
      have la := mul_len XL.out (NL.out n)
      have lb := mul_len YL.out (NL.out (n + 5400000))
      obtain ⟨g7, hg7⟩ : ∃ g7, g7 = decide (-(Y * L6.neL P A (n + 5400000)) < 0) := ⟨_, rfl⟩
      generalize L6.neL P A n = na at *
      generalize L6.neL P A (n + 5400000) = nb at *
      have hW6 : w6.heap.size < (w6.alloc (.cells #[.slice A6 n6 c6, .bool g6] 107)).heap.size := PB.lt
      have PB := PB
      go_upto_region 19 with fail
      generalize hWW : w6.alloc (.cells #[.slice A6 n6 c6, .bool g6] 107) = W at *
      generalize w6.heap.size = q at *
      generalize w3.heap.size = p at *
      clear hWW
      have M1 : Hid (∀ wx, Below W.heap.size W wx → Calls Tryd.prog 75 #[.agg #[.slice A6 n6 c6, .bool g6]] wx (fun e w' => e = .returned (.agg #[.slice A6 n6 c6, .bool g7]) ∧ Below wx.heap.size wx w')) := fun wx hb => minus_any _ _ _ _ g7 _ _ (Q6.out.keep hb) hg7
      have P1 : Hid (∀ wx, Below W.heap.size W wx → Calls Tryd.prog 74 #[.agg #[.slice A3 n3 c3, .bool g3], .agg #[.slice A6 n6 c6, .bool g7]] wx (RetZ wx D)) := fun wx hb => by
        have h6 : NZ wx A6 n6 c6 g7 (-(Y * nb)) := ⟨by rw [Int.natAbs_neg]; exact (Q6.out.keep hb).dig, hg7⟩
        have h := plus_any _ _ _ _ _ _ _ _ _ _ _ (Q3.out.keep hb) h6 (by unfold Sm; omega) (by unfold Sm; rw [Int.natAbs_neg]; omega)
        rw [hDe] at h
        exact h
      clear hg7 hDe la lb Q3 Q6 DD
      obtain ⟨A0, A1, -, -, -⟩ := id PA
      obtain ⟨B0, B1, -, -, -⟩ := id PB
      go_cut [14] from 75 to 78 (fun v14 wx => ∃ (b : Nat) (A9 : Option Addr) (n9 c9 : Nat) (g9 : Bool), v14 = .pointer (some ⟨b, 0, none⟩) ∧ Hid (At2 wx b (.slice A9 n9 c9) (.bool g9)) ∧ Hid (NZ wx A9 n9 c9 g9 D) ∧ Hid (Below W.heap.size W wx))
      case first =>
        have zA1 : ¬ p = W.heap.size := (by have := PA.lt; omega); have yA1 : ¬ W.heap.size = p := (by have := PA.lt; omega); have zB1 : ¬ q = W.heap.size := (by have := PB.lt; omega); have yB1 : ¬ W.heap.size = q := (by have := PB.lt; omega)
        go_region_held3 (fun w' => w'.cell? ⟨p, 0, none⟩ = some (.slice A3 n3 c3) ∧ w'.cell? ⟨p, 1, none⟩ = some (.bool g3) ∧ w'.cell? ⟨q, 0, none⟩ = some (.slice A6 n6 c6) ∧ w'.cell? ⟨q, 1, none⟩ = some (.bool g6)) (go_keep)
          (first
          | (go_at_call 75; ((with_reducible refine (M1.out (World.drew W) ((Below.refl _ _).drew)).mono ?_); rintro e w7 ⟨rfl, hb⟩; clear A0 A1 B0 B1; have PA := (PA.keep (Below.refl _ _).drew).keep hb; have PB := (PB.keep (Below.refl _ _).drew).keep hb; have H7 := Lib.hid (bl2 ((Below.refl W.heap.size W).drew) hb); obtain ⟨A0, A1, -, -, -⟩ := id PA; obtain ⟨B0, B1, -, -, -⟩ := id PB; have zA7 : ¬ p = w7.heap.size := (by have := PA.lt; omega); have yA7 : ¬ w7.heap.size = p := (by have := PA.lt; omega); have zB7 : ¬ q = w7.heap.size := (by have := PB.lt; omega); have yB7 : ¬ w7.heap.size = q := (by have := PB.lt; omega); clear hb))
          | (go_at_call 75; ((with_reducible refine (M1.out (World.drew (World.alloc W _)) (((Below.refl _ _).alloc (Nat.le_refl _) _).drew)).mono ?_); rintro e w7 ⟨rfl, hb⟩; clear A0 A1 B0 B1; have PA := ((PA.alloc _).keep (Below.refl _ _).drew).keep hb; have PB := ((PB.alloc _).keep (Below.refl _ _).drew).keep hb; have H7 := Lib.hid (bl2 (((Below.refl W.heap.size W).alloc (Nat.le_refl _) _).drew) hb); obtain ⟨A0, A1, -, -, -⟩ := id PA; obtain ⟨B0, B1, -, -, -⟩ := id PB; have N1 := ((At2.new W (.slice none 0 0) (.bool false) 107).keep (Below.refl _ _).drew).keep hb; obtain ⟨N10, N11, N1f, N1g, N1l⟩ := id N1; have G7 := Lib.hid N1l; have zA7 : ¬ p = w7.heap.size := (by have := PA.lt; omega); have yA7 : ¬ w7.heap.size = p := (by have := PA.lt; omega); have zB7 : ¬ q = w7.heap.size := (by have := PB.lt; omega); have yB7 : ¬ w7.heap.size = q := (by have := PB.lt; omega); clear hb))
          | (go_at_call 74; ((with_reducible refine (P1.out w7 H7.out).mono ?_); rintro e w8 ⟨A9, n9, c9, g9, rfl, q9, f9, hb⟩; clear A0 A1 B0 B1; have PA := PA.keep hb; have PB := PB.keep hb; have H8 := Lib.hid (bl2 H7.out hb); obtain ⟨A0, A1, -, -, -⟩ := id PA; obtain ⟨B0, B1, -, -, -⟩ := id PB; (try (have N1 := N1.keep hb; clear N10 N11 N1f N1g N1l; obtain ⟨N10, N11, N1f, N1g, N1l⟩ := id N1)); have Q9 := Lib.hid q9; have F9 := Lib.hid f9; have zA8 : ¬ p = w8.heap.size := (by have := PA.lt; omega); have yA8 : ¬ w8.heap.size = p := (by have := PA.lt; omega); have zB8 : ¬ q = w8.heap.size := (by have := PB.lt; omega); have yB8 : ¬ w8.heap.size = q := (by have := PB.lt; omega); clear hb q9 f9))
          | (go_at_call 74; ((with_reducible refine (P1.out (World.alloc w7 _) (H7.out.alloc H7.out.size _)).mono ?_); rintro e w8 ⟨A9, n9, c9, g9, rfl, q9, f9, hb⟩; clear A0 A1 B0 B1; have PA := (PA.alloc _).keep hb; have PB := (PB.alloc _).keep hb; have H8 := Lib.hid (bl2 (H7.out.alloc H7.out.size _) hb); obtain ⟨A0, A1, -, -, -⟩ := id PA; obtain ⟨B0, B1, -, -, -⟩ := id PB; have N2 := (At2.new w7 (.slice none 0 0) (.bool false) 107).keep hb; obtain ⟨N20, N21, N2f, N2g, N2l⟩ := id N2; have Q9 := Lib.hid q9; have F9 := Lib.hid f9; have zA8 : ¬ p = w8.heap.size := (by have := PA.lt; omega); have yA8 : ¬ w8.heap.size = p := (by have := PA.lt; omega); have zB8 : ¬ q = w8.heap.size := (by have := PB.lt; omega); have yB8 : ¬ w8.heap.size = q := (by have := PB.lt; omega); clear hb q9 f9)))
        all_goals
          go_wp2_with fail
          go_meet
        all_goals
          first
          | (with_reducible exact ⟨_, _, _, _, _, rfl, Lib.hid (At2.new _ _ _ 107), Lib.hid (Q9.out.alloc _), Lib.hid (H8.out.alloc H8.out.size _)⟩)
          | (with_reducible exact ⟨_, _, _, _, _, rfl, Lib.hid (N2.put _ _), Lib.hid (nz_far2 Q9.out (fun ad e => by have := F9.out ad e; simp at this; omega) _ _), Lib.hid (below_set2 H8.out H7.out.size _ _)⟩)
          | (with_reducible exact ⟨_, _, _, _, _, rfl, Lib.hid (N1.put _ _), Lib.hid (nz_far2 Q9.out (fun ad e => by have := F9.out ad e; have := G7.out; omega) _ _), Lib.hid (below_set2 H8.out (Nat.le_refl _) _ _)⟩)
          | (exact ⟨_, _, _, _, _, rfl, Lib.hid (N2.put _ _), Lib.hid (nz_far2 Q9.out (fun ad e => by have := F9.out ad e; simp at this; omega) _ _), Lib.hid (below_set2 H8.out H7.out.size _ _)⟩)
          | (exact ⟨_, _, _, _, _, rfl, Lib.hid (N1.put _ _), Lib.hid (nz_far2 Q9.out (fun ad e => by have := F9.out ad e; have := G7.out; omega) _ _), Lib.hid (below_set2 H8.out (Nat.le_refl _) _ _)⟩)
      case rest =>
        obtain ⟨b, A9, n9, c9, g9, rfl, PD, Q9, B9⟩ := hcut
        have B9 := Lib.hid (bl2 B6.out B9.out)
        clear A0 A1 B0 B1 PA PB B6 M1 P1
        clear hD
        have hDn : D = L6.dL P A n X Y := HE.out
        go_wp2_with fail
        refine (ofint_any 1024 _ (by omega) (by omega)).mono ?_
        rintro e v1 ⟨A10, n10, c10, g10, rfl, q10, f10, b10⟩
        have Q10 := Lib.hid q10
        have Q9 := Lib.hid (Q9.out.keep b10)
        have PD := Lib.hid (PD.out.keep b10)
        have B10 := Lib.hid (bl2 B9.out b10)
        clear q10 f10 b10 B9
        go_wp2_with fail
        refine (ofint_any 4294967296 _ (by omega) (by omega)).mono ?_
        rintro e v2 ⟨A11, n11, c11, g11, rfl, q11, f11, b11⟩
        have Q11 := Lib.hid q11
        have Q10 := Lib.hid (Q10.out.keep b11)
        have Q9 := Lib.hid (Q9.out.keep b11)
        have PD := Lib.hid (PD.out.keep b11)
        have B11 := Lib.hid (bl2 B10.out b11)
        clear q11 f11 b11 B10
        go_wp2_with fail
        refine (mul_any _ _ _ _ _ _ _ _ _ _ _ Q10.out Q11.out (sm_i64 (by omega) (by omega)) (sm_i64 (by omega) (by omega))).mono ?_
        rintro e v3 ⟨A12, n12, c12, g12, rfl, q12, f12, b12⟩
        have PE := At2.new v3 (.slice A12 n12 c12) (.bool g12) 107
        have b13 : Below v3.heap.size v3 (v3.alloc (.cells #[.slice A12 n12 c12, .bool g12] 107)) := (Below.refl _ _).alloc (Nat.le_refl _) _
        have Q12 := q12.keep b13
        have Q9 := Q9.out.keep (bl2 b12 b13)
        have PD0 := PD.out.keep b12
        have PD := PD.out.keep (bl2 b12 b13)
        have B13 := Lib.hid (bl2 B11.out (bl2 b12 b13))
        have hg := Q9.sgn
        have C := order_any _ _ _ _ _ _ _ _ _ Q9.dig Q12.dig (can_dgs _) (can_dgs _) (by have := LD.out; omega) (by have := dgs_len_ten (n := ((1024 : Int) * 4294967296).natAbs) (by decide); omega)
        rw [val_dgs, val_dgs, show ((1024 : Int) * 4294967296).natAbs = 4398046511104 by decide] at C
        obtain ⟨d0, d1, -, -, -⟩ := id PD
        obtain ⟨x0', x1', -, -, dl⟩ := id PD0
        obtain ⟨e0, e1', -, -, -⟩ := id PE
        clear q12 f12 b12 b13 Q10 Q11 B11 PD0 Q12
        by_cases big : 4398046511104 < D.natAbs
        · rw [ord_of_gt big] at C
          have HC := Lib.hid C
          clear C
          by_cases neg : D < 0
          · have gt : g9 = true := by rw [hg]; exact decide_eq_true neg
            have S := Lib.hid (HD.out.dn (by rw [← hDn]; omega))
            subst gt
            have HPD := Lib.hid PD
            clear hg PE Q9 hDn PD
            go_wp2_with fail
            refine HC.out.mono ?_
            rintro e v4 ⟨rfl, b14⟩
            have B14 := Lib.hid (bl2 B13.out b14)
            have PD := HPD.out.keep b14
            clear b14
            obtain ⟨d0, d1, -, -, -⟩ := id PD
            go_wp2_with fail
            go_ret
            exact ⟨ret_int S.out.symm, B14.out⟩
          · have gt : g9 = false := by rw [hg]; exact decide_eq_false neg
            have S := Lib.hid (HD.out.up (by rw [← hDn]; omega))
            subst gt
            have HPD := Lib.hid PD
            clear hg PE Q9 hDn PD
            go_wp2_with fail
            refine HC.out.mono ?_
            rintro e v4 ⟨rfl, b14⟩
            have B14 := Lib.hid (bl2 B13.out b14)
            have PD := HPD.out.keep b14
            clear b14
            obtain ⟨d0, d1, -, -, -⟩ := id PD
            go_wp2_with fail
            go_ret
            exact ⟨ret_int S.out.symm, B14.out⟩
        · have hk : k = 3 := by
            refine Classical.byContradiction fun c => big ?_
            have := HD.out.last (by omega)
            rw [← hDn] at this
            exact this
          subst hk
          have ho : ord D.natAbs 4398046511104 ≤ 0 := by unfold ord; rw [if_neg big]; split <;> omega
          generalize ord D.natAbs 4398046511104 = oo at *
          have HC := Lib.hid C
          clear C hg PE Q9 hDn PD
          go_wp2_with fail
          refine HC.out.mono ?_
          rintro e v4 ⟨rfl, b14⟩
          have B14 := Lib.hid (bl2 B13.out b14)
          have ho' : ¬ oo > 0 := by omega
          clear b14
          go_wp2_with fail
          go_roundg 0
          case measure => have := HM.out; omega
          case rel => exact ⟨4, _, _, rfl, rfl, by omega, by omega, k4, D4, B14⟩
  · have hs : L6.sd n X Y = r := by
      rcases hr with h | ⟨h, t⟩ | ⟨h, t⟩
      · exact absurd h hr0
      · rw [h]; exact s1 t
      · rw [h]; exact s2 t
    rw [hs]
    have z5 : (r != 0) = true := bne_iff_ne.2 hr0
    clear hr CQ s1 s2
    go_enter Tryd.func54, Tryd.ntmps54
    go_wp2_with fail
    refine (CC.out _).mono ?_
    rintro e w1 ⟨rfl, rfl⟩
    go_wp2_with fail
    go_ret
    exact ⟨rfl, Below.refl _ _⟩
end Go.Proofs.YtndcjldnnfhedaaDoor.wd2
