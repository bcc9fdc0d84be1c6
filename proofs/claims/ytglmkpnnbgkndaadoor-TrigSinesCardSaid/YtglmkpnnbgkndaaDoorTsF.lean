/- Trig: the program's sine over an arc. -/
import Derived.Test.YtglmkpnnbgkndaaDoorTsE
namespace Go.Proofs.YtglmkpnnbgkndaaDoor
open Go.RowKit
set_option linter.unusedVariables false
set_option maxRecDepth 100000

/-- the memory of 'over': the arc, the result -/
structure OvM (w : World) (a b : Int) (wx : World) : Prop where
  A : At2 wx w.heap.size (.int .i64 a) (.int .i64 b)
  R : At2 wx (w.heap.size + 1) (.int .i64 0) (.int .i64 0)
  B : Below w.heap.size w wx
theorem OvM.keep {w w1 w2 : World} {a b : Int} (h : OvM w a b w1) (hb : Below w1.heap.size w1 w2) : OvM w a b w2 := ⟨h.A.keep hb, h.R.keep hb, bstep h.B hb⟩
theorem OvM.al {w w1 : World} {a b : Int} (h : OvM w a b w1) (o : Obj) : OvM w a b (w1.alloc o) := h.keep (below1 _ _)
theorem OvM.dr {w w1 : World} {a b : Int} (h : OvM w a b w1) : OvM w a b w1.drew := h.keep (Below.refl _ _).drew
theorem OvM.far {w w1 : World} {a b : Int} {c : Nat} (h : OvM w a b w1) (hc : w.heap.size + 1 < c) (u v : Value) : OvM w a b ((w1.setCell ⟨c, 0, none⟩ u).setCell ⟨c, 1, none⟩ v) :=
  ⟨h.A.far (by omega) u v, h.R.far (by omega) u v, below_set2 h.B (by omega) u v⟩
theorem OvM.new (w : World) (a b : Int) : OvM w a b ((w.alloc (.cells #[.int .i64 a, .int .i64 b] 23)).alloc (.cells #[.int .i64 0, .int .i64 0] 25)) := by
  obtain ⟨A, R⟩ := At2.two w (.int .i64 a) (.int .i64 b) (.int .i64 0) (.int .i64 0) 23 25
  exact ⟨A, R, below2 w _ _⟩
theorem At2.dw {w : World} {b : Nat} {x y : Value} (h : At2 w b x y) : At2 w.drew b x y := h.keep (Below.refl _ _).drew

set_option maxHeartbeats 4000000 in
theorem pOver (a b : Int) (ha : -3900000000000 ≤ a) (hb0 : b ≤ 3900000000000) (ab : a ≤ b) (w : World) (H : Held w) :
    Calls Tryd.prog 33 #[.agg #[.int .i64 a, .int .i64 b]] w fun e w' => e = .returned (.agg #[.int .i64 (L6.sL a b), .int .i64 (L6.sH a b)]) ∧ Below w.heap.size w w' := by
  have EQ := Lib.hid (fun k hk h1 h2 => (show L6.eL a b k = L6.sL a b ∧ L6.eH a b k = L6.sH a b from ⟨L6.eL_eq a b ha hb0 ab k hk h1 h2, L6.eH_eq a b ha hb0 ab k hk h1 h2⟩))
  have K0 := Lib.hid (fun (wx : World) (hb : Below w.heap.size w wx) => pAt a wx (H.keep hb))
  have K1 := Lib.hid (fun (wx : World) (hb : Below w.heap.size w wx) => pAt b wx (H.keep hb))
  have K2 := Lib.hid (fun (wx : World) => pHull (L6.lo a) (L6.hi a) (L6.lo b) (L6.hi b) wx)
  obtain ⟨el, hel⟩ : ∃ el : Nat → Int, ∀ k, el k = L6.eL a b k := ⟨_, fun _ => rfl⟩
  obtain ⟨eh, heh⟩ : ∃ eh : Nat → Int, ∀ k, eh k = L6.eH a b k := ⟨_, fun _ => rfl⟩
  have e0 : min (L6.lo a) (L6.lo b) = el 0 := by rw [hel]; rfl
  have e1 : max (L6.hi a) (L6.hi b) = eh 0 := by rw [heh]; rfl
  have K3 : Hid (∀ (k : Nat) (wx : World), Calls Tryd.prog 46 #[.agg #[.int .i64 (el k), .int .i64 (eh k)], .agg #[.int .i64 (L6.lo (L6.pn a k)), .int .i64 (L6.hi (L6.pn a k))]] wx fun e w' => e = .returned (.agg #[.int .i64 (el (k + 1)), .int .i64 (eh (k + 1))]) ∧ Below wx.heap.size wx w') :=
    Lib.hid (fun k wx => by rw [hel, heh, hel, heh]; exact pHull _ _ _ _ wx)
  have K4 := Lib.hid (fun (k : Nat) (wx : World) (hb : Below w.heap.size w wx) => pAt (L6.pn a k) wx (H.keep hb))
  have EQ : Hid (∀ k, k ≤ 4 → (∀ i, i < k → L6.pn a i ≤ b) → (k = 4 ∨ b < L6.pn a k) → el k = L6.sL a b ∧ eh k = L6.sH a b) := Lib.hid (fun k h1 h2 h3 => by rw [hel, heh]; exact EQ.out k h1 h2 h3)
  rw [e0, e1] at K2
  clear e0 e1 hel heh H
  generalize L6.sL a b = sl at *
  generalize L6.sH a b = sh at *
  generalize L6.lo a = l0 at *
  generalize L6.hi a = h0 at *
  generalize L6.lo b = l1 at *
  generalize L6.hi b = h1 at *
  have M := OvM.new w a b
  obtain ⟨⟨A0, A1, -, -, -⟩, -, -⟩ := id M
  go_enter Tryd.func33, Tryd.ntmps33
  go_wp2_with fail
  go_cut [3] from 6 to 12 (fun v3 wx => ∃ q : Nat, v3 = .pointer (some ⟨q, 0, none⟩) ∧ Hid (w.heap.size + 1 < q) ∧ Hid (At2 wx q (.int .i64 (el 0)) (.int .i64 (eh 0))) ∧ Hid (OvM w a b wx))
  case first =>
    generalize hW : (w.alloc (.cells #[.int .i64 a, .int .i64 b] 23)).alloc (.cells #[.int .i64 0, .int .i64 0] 25) = W at *
    have lW : w.heap.size + 1 < W.heap.size := M.R.lt
    have zA : ¬ w.heap.size = W.heap.size := by omega
    have yA : ¬ W.heap.size = w.heap.size := by omega
    clear hW
    go_region_held3 (fun w' => w'.cell? ⟨w.heap.size, 0, none⟩ = some (.int .i64 a) ∧ w'.cell? ⟨w.heap.size, 1, none⟩ = some (.int .i64 b)) (go_keep)
      (first
      | (go_at_call 47; ((with_reducible refine (K0.out _ (by first | exact M.B | exact M.dr.B | exact (M.al _).B | exact (M.dr.al _).B | exact (M.al _).dr.B)).mono ?_)); rintro e v ⟨rfl, hb⟩; (first | (have M := M.keep hb) | (have M := M.dr.keep hb) | (have M := (M.al _).keep hb) | (have M := ((M.dr).al _).keep hb) | (have M := ((M.al _).dr).keep hb)); (try (first | (have N := N.keep hb) | (have N := N.dw.keep hb) | (have N := (At2.new _ (.int .i64 0) (.int .i64 0) 25).keep hb) | (have N := (At2.new _ (.int .i64 0) (.int .i64 0) 25).dw.keep hb))); clear A0 A1 hb; obtain ⟨⟨A0, A1, -, -, -⟩, Rl, -⟩ := id M; have lv := Rl.lt; clear Rl; (try (clear N0 N1 N2 N3)); (try (obtain ⟨N0, N1, N2, N3, -⟩ := id N)); have zv : ¬ w.heap.size = v.heap.size := (by omega); have yv : ¬ v.heap.size = w.heap.size := (by omega))
      | (go_at_call 47; ((with_reducible refine (K1.out _ (by first | exact M.B | exact M.dr.B | exact (M.al _).B | exact (M.dr.al _).B | exact (M.al _).dr.B)).mono ?_)); rintro e v ⟨rfl, hb⟩; (first | (have M := M.keep hb) | (have M := M.dr.keep hb) | (have M := (M.al _).keep hb) | (have M := ((M.dr).al _).keep hb) | (have M := ((M.al _).dr).keep hb)); (try (first | (have N := N.keep hb) | (have N := N.dw.keep hb) | (have N := (At2.new _ (.int .i64 0) (.int .i64 0) 25).keep hb) | (have N := (At2.new _ (.int .i64 0) (.int .i64 0) 25).dw.keep hb))); clear A0 A1 hb; obtain ⟨⟨A0, A1, -, -, -⟩, Rl, -⟩ := id M; have lv := Rl.lt; clear Rl; (try (clear N0 N1 N2 N3)); (try (obtain ⟨N0, N1, N2, N3, -⟩ := id N)); have zv : ¬ w.heap.size = v.heap.size := (by omega); have yv : ¬ v.heap.size = w.heap.size := (by omega))
      | (go_at_call 46; ((with_reducible refine (K2.out _).mono ?_)); rintro e v ⟨rfl, hb⟩; (first | (have M := M.keep hb) | (have M := M.dr.keep hb) | (have M := (M.al _).keep hb) | (have M := ((M.dr).al _).keep hb) | (have M := ((M.al _).dr).keep hb)); (try (first | (have N := N.keep hb) | (have N := N.dw.keep hb) | (have N := (At2.new _ (.int .i64 0) (.int .i64 0) 25).keep hb) | (have N := (At2.new _ (.int .i64 0) (.int .i64 0) 25).dw.keep hb))); clear A0 A1 hb; obtain ⟨⟨A0, A1, -, -, -⟩, Rl, -⟩ := id M; have lv := Rl.lt; clear Rl; (try (clear N0 N1 N2 N3)); (try (obtain ⟨N0, N1, N2, N3, -⟩ := id N)); have zv : ¬ w.heap.size = v.heap.size := (by omega); have yv : ¬ v.heap.size = w.heap.size := (by omega)))
    all_goals
      go_wp2_with fail
      go_meet
    all_goals
      first
      | (with_reducible exact ⟨_, rfl, Lib.hid (by omega), Lib.hid (At2.new _ _ _ 25), Lib.hid (M.al _)⟩)
      | (with_reducible exact ⟨_, rfl, Lib.hid (by omega), Lib.hid (N.put _ _), Lib.hid (M.far (by omega) _ _)⟩)
  case rest =>
    obtain ⟨q, rfl, hq, hN, hM⟩ := hcut
    clear M A0 A1 K0 K1 K2
    have nw : IntKind.i64.wrap (-a) = -a := by rw [IntKind.wrap_i64]; omega
    have CW := Lib.hid (fun (wx : World) => pWrap (IntKind.i64.wrap (-a)) wx)
    rw [show wrapN (IntKind.i64.wrap (-a)) = wrapN (-a) by rw [nw]] at CW
    clear nw
    have ht : (wrapN (-a)).tmod 5400000 = (-a) % 5400000 := by
      have : wrapN (-a) = (-a) % 21600000 := rfl
      rw [this, Int.tmod_eq_emod_of_nonneg (by omega)]
      omega
    obtain ⟨p, hp⟩ : ∃ p : Nat → Int, ∀ k, p k = L6.pn a k := ⟨_, fun _ => rfl⟩
    have hp2 : ∀ k : Nat, p k = a + (-a) % 5400000 + 5400000 * (k : Int) := fun k => by rw [hp]; rfl
    have K4 : Hid (∀ (k : Nat) (wx : World), Below w.heap.size w wx → Calls Tryd.prog 47 #[.int .i64 (p k)] wx fun e w' => e = .returned (.agg #[.int .i64 (L6.lo (L6.pn a k)), .int .i64 (L6.hi (L6.pn a k))]) ∧ Below wx.heap.size wx w') := Lib.hid (fun k wx hb => by rw [hp]; exact K4.out k wx hb)
    have EQ : Hid (∀ k, k ≤ 4 → (∀ i, i < k → p i ≤ b) → (k = 4 ∨ b < p k) → el k = sl ∧ eh k = sh) := Lib.hid (fun k h1 h2 h3 => EQ.out k h1 (fun i hi => by rw [← hp]; exact h2 i hi) (by rw [← hp]; exact h3))
    generalize wrapN (-a) = t at *
    obtain ⟨x, hx⟩ : ∃ x, a + (-a) % 5400000 = x := ⟨_, rfl⟩
    have hr : 0 ≤ (-a) % 5400000 ∧ (-a) % 5400000 < 5400000 := by omega
    generalize (-a) % 5400000 = r at *
    obtain ⟨r1, r2⟩ := hr
    rw [hx] at hp2
    have P := Lib.hid hp2
    have x1 : -3900000000000 ≤ x := by omega
    have x2 : x < 3900006000000 := by omega
    have p0 : p 0 = x := by rw [hp2]; omega
    clear hp hp2
    have M := hM.out
    have N := hN.out
    obtain ⟨⟨A0, A1, -, -, -⟩, -, -⟩ := id M
    go_upto_region 2 with fail
    go_region_held3 (fun w' => w'.cell? ⟨w.heap.size, 0, none⟩ = some (.int .i64 a) ∧ w'.cell? ⟨w.heap.size, 1, none⟩ = some (.int .i64 b)) (go_keep)
      (first
      | (go_at_call 48; ((with_reducible refine (CW.out _).mono ?_)); rintro e v ⟨rfl, rfl⟩))
    rw [show IntKind.i64.wrap x = x by rw [IntKind.wrap_i64]; omega]
    have M := M.dr
    have N := N.dw
    clear A0 A1 hN hM hx CW
    generalize wc.drew = wd at *
    go_wp2_with fail
    go_loopg [5] 4 (fun m v5 wr => ∃ j : Nat, m = 4 - j ∧ v5 = .int .i64 (p j) ∧ Hid (j ≤ 4) ∧ Hid (∀ i, i < j → p i ≤ b) ∧ Hid (At2 wr q (.int .i64 (el j)) (.int .i64 (eh j))) ∧ Hid (OvM w a b wr))
    case atStart => exact ⟨0, rfl, congrArg (Value.int .i64) p0.symm, Nat.zero_le _, fun i hi => absurd hi (by omega), N, M⟩
    case round =>
      obtain ⟨j, hm, rfl, HJ, HI, HN, HM⟩ := hrel
      have HG := Lib.hid hm
      clear hm M N p0
      have M := HM.out
      have N := HN.out
      clear HM HN
      have pj := P.out j
      obtain ⟨⟨A0, A1, -, -, -⟩, Rl, -⟩ := id M
      obtain ⟨R0, R1, R2, R3, -⟩ := Rl
      obtain ⟨N0, N1, N2, N3, -⟩ := id N
      by_cases cb : p j ≤ b
      · by_cases cj : j < 4
        · have cx : p j < x + 21600000 := by omega
          have x3 : x + 21600000 ≤ 9223372036854775807 := by omega
          have pu : p j ≤ 3900000000000 := by omega
          have pl : -3900000000000 ≤ p j := by omega
          have zq : ¬ w.heap.size = q := by have := hq.out; omega
          have yq : ¬ q = w.heap.size := by omega
          have K3 := Lib.hid (K3.out j)
          have K4 := Lib.hid (K4.out j)
          generalize L6.lo (L6.pn a j) = lj at *
          generalize L6.hi (L6.pn a j) = hj at *
          have PJ := Lib.hid pj
          have CJ := Lib.hid cj
          clear pj cj
          go_upto_region 6 with fail
          go_region_with (first
            | (go_at_call 47; ((with_reducible refine (K4.out _ (by first | exact M.B | exact M.dr.B)).mono ?_)); rintro e v ⟨rfl, hb⟩; (first | (have M := M.keep hb) | (have M := M.dr.keep hb)); (first | (have N := N.keep hb) | (have N := N.dw.keep hb)); clear hb A0 A1 R0 R1 R2 R3 N0 N1 N2 N3; obtain ⟨N0, N1, N2, N3, -⟩ := id N)
            | (go_at_call 46; ((with_reducible refine (K3.out _).mono ?_)); rintro e v ⟨rfl, hb⟩; (first | (have M := M.keep hb) | (have M := M.dr.keep hb)); (first | (have N := N.keep hb) | (have N := N.dw.keep hb)); clear hb N0 N1 N2 N3; obtain ⟨N0, N1, N2, N3, -⟩ := id N))
          all_goals
            have M := M.far hq.out (.int .i64 (el (j + 1))) (.int .i64 (eh (j + 1)))
            have N := N.put (.int .i64 (el (j + 1))) (.int .i64 (eh (j + 1)))
            have CB := Lib.hid cb
            clear N0 N1 N2 N3 K3 K4 cb
            have w5 : p j + 5400000 = p (j + 1) := by have := P.out (j + 1); have := PJ.out; omega
            have u5 : p (j + 1) ≤ 3900005400000 := by omega
            have l5 : -3900000000000 ≤ p (j + 1) := by omega
            have w6 : IntKind.i64.wrap (p (j + 1)) = p (j + 1) := by rw [IntKind.wrap_i64]; omega
            go_wp2_with fail
            go_roundg (4 - (j + 1))
            case measure => have := HG.out; have := CJ.out; omega
            case rel => exact ⟨j + 1, rfl, rfl, by have := CJ.out; show _ ≤ _; omega, fun i hi => (by by_cases e : i = j; · rw [e]; exact CB.out
                                                                                                      · exact HI.out i (by omega)), N, M⟩
        · obtain rfl : j = 4 := by have := HJ.out; omega
          have cx : ¬ p 4 < x + 21600000 := by omega
          have x3 : x + 21600000 ≤ 9223372036854775807 := by omega
          obtain ⟨g1, g2⟩ := EQ.out 4 (by omega) HI.out (.inl rfl)
          rw [g1] at N0
          rw [g2] at N1
          clear N K3 K4 EQ pj cj
          obtain ⟨z0, z1⟩ := set2 R0 R1 (.int .i64 sl) (.int .i64 sh)
          go_wp2_with fail
          refine bodyPost_ret (v := .agg #[.int .i64 sl, .int .i64 sh]) (by simp [results, Tryd.results33, go_sem, z0, z1]) rfl ⟨rfl, ?_⟩
          exact below_set2 M.B (by omega) _ _
      · obtain ⟨g1, g2⟩ := EQ.out j HJ.out HI.out (.inr (by omega))
        rw [g1] at N0
        rw [g2] at N1
        clear N K3 K4 EQ pj
        obtain ⟨z0, z1⟩ := set2 R0 R1 (.int .i64 sl) (.int .i64 sh)
        go_wp2_with fail
        refine bodyPost_ret (v := .agg #[.int .i64 sl, .int .i64 sh]) (by simp [results, Tryd.results33, go_sem, z0, z1]) rfl ⟨rfl, ?_⟩
        exact below_set2 M.B (by omega) _ _

end Go.Proofs.YtglmkpnnbgkndaaDoor
