/- The program of layer 6: sines. -/
import Derived.Test.YtebhflmmdfbjkaaDoorTsa
import Derived.Test.YtebhflmmdfbjkaaDoorPld
import Derived.Test.YtebhflmmdfbjkaaDoorTra
import Derived.Test.YtebhflmmdfbjkaaDoorRows
import Derived.Lib.LaidTab
import Derived.Stop.LaidErr
/- Trig: the program's sine of one angle, and small functions. -/
namespace Go.Proofs.YtebhflmmdfbjkaaDoor
open Go.RowKit
set_option linter.unusedVariables false
set_option maxRecDepth 100000

theorem tmodT (n : Int) : (n.tmod 21600000 < 0 → n.tmod 21600000 + 21600000 = n % 21600000) ∧ (¬ n.tmod 21600000 < 0 → n.tmod 21600000 = n % 21600000) ∧ -21600000 < n.tmod 21600000 ∧ n.tmod 21600000 < 21600000 := by
  have e := Int.tmod_add_mul_tdiv n 21600000
  have b1 := Int.tmod_lt_of_pos n (show (0 : Int) < 21600000 by omega)
  have b2 := Int.lt_tmod_of_pos n (show (0 : Int) < 21600000 by omega)
  generalize n.tmod 21600000 = r at *
  generalize n.tdiv 21600000 = q at *
  omega

theorem pWrap (n : Int) (w : World) :
    Calls Tryd.prog 50 #[.int .i64 n] w fun e w' => e = .returned (.int .i64 (wrapN n)) ∧ w' = w := by
  obtain ⟨m1, m2, m3, m4⟩ := tmodT n
  unfold wrapN
  generalize n % 21600000 = v at *
  obtain ⟨r, hr⟩ : ∃ r, n.tmod 21600000 = r := ⟨_, rfl⟩
  rw [hr] at m1 m2 m3 m4
  by_cases h : r < 0
  · have E := Lib.hid (m1 h)
    clear m1 m2
    go_enter Tryd.func50, Tryd.ntmps50
    go_wp2
    go_ret
    exact ⟨ret_int (by have := E.out; go_num), rfl⟩
  · have E := Lib.hid (m2 h)
    clear m1 m2
    go_enter Tryd.func50, Tryd.ntmps50
    go_wp2
    go_ret
    exact ⟨ret_int (by have := E.out; go_num), rfl⟩

theorem pValid (a b : Int) (w : World) :
    Calls Tryd.prog 47 #[.agg #[.int .i64 a, .int .i64 b]] w fun e w' => e = .returned (.bool (aok a b)) ∧ Below w.heap.size w w' := by
  obtain ⟨a0, a1, af0, af1, alt⟩ := At2.new w (.int .i64 a) (.int .i64 b) 25
  unfold aok
  by_cases c1 : -1099511627776 ≤ a
  · by_cases c2 : a ≤ b
    · by_cases c3 : b ≤ 1099511627776
      · rw [decide_eq_true (show -1099511627776 ≤ a ∧ b ≤ 1099511627776 ∧ a ≤ b by omega)]
        go_enter Tryd.func47, Tryd.ntmps47
        go_wp2
        go_ret
        exact ⟨rfl, below1 _ _⟩
      · rw [decide_eq_false (show ¬ (-1099511627776 ≤ a ∧ b ≤ 1099511627776 ∧ a ≤ b) by omega)]
        go_enter Tryd.func47, Tryd.ntmps47
        go_wp2
        go_ret
        exact ⟨rfl, below1 _ _⟩
    · rw [decide_eq_false (show ¬ (-1099511627776 ≤ a ∧ b ≤ 1099511627776 ∧ a ≤ b) by omega)]
      go_enter Tryd.func47, Tryd.ntmps47
      go_wp2
      go_ret
      exact ⟨rfl, below1 _ _⟩
  · rw [decide_eq_false (show ¬ (-1099511627776 ≤ a ∧ b ≤ 1099511627776 ∧ a ≤ b) by omega)]
    go_enter Tryd.func47, Tryd.ntmps47
    go_wp2
    go_ret
    exact ⟨rfl, below1 _ _⟩

theorem pValid_is (a b : Int) (r : Bool) (h : aok a b = r) (w : World) :
    Calls Tryd.prog 47 #[.agg #[.int .i64 a, .int .i64 b]] w fun e w' => e = .returned (.bool r) ∧ Below w.heap.size w w' := h ▸ pValid a b w
theorem upD_in (m : Int) (h0 : 0 ≤ m) (h1 : m ≤ 5400000) : 0 ≤ L6.upD m ∧ L6.upD m ≤ 1073741824 ∧ 0 ≤ L6.upU m ∧ L6.upU m ≤ 1073741824 := by
  unfold L6.upD L6.upU
  by_cases c : m = 0
  · rw [if_pos c, if_pos c]; omega
  · rw [if_neg c, if_neg c]
    by_cases c1 : m = 1800000
    · rw [if_pos c1, if_pos c1]; omega
    · rw [if_neg c1, if_neg c1]
      by_cases c2 : m = 5400000
      · rw [if_pos c2, if_pos c2]; omega
      · rw [if_neg c2, if_neg c2]
        have := irr_lt m.toNat (by omega)
        generalize L6.irr m.toNat = q at *
        omega
theorem pUpper (d m : Int) (hm : min d (10800000 - d) = m) (h0 : 0 ≤ d) (h1 : d ≤ 10800000) (w : World) (H : Held w) :
    Calls Tryd.prog 59 #[.int .i64 d] w fun e w' => e = .returned (.tuple #[.int .i64 (L6.upD m), .int .i64 (L6.upU m)]) ∧ Below w.heap.size w w' := by
  have m0 : 0 ≤ m := by omega
  have m1 : m ≤ 5400000 := by omega
  unfold L6.upD L6.upU
  by_cases c : m = 0
  · rw [if_pos c, if_pos c]
    go_enter Tryd.func59, Tryd.ntmps59
    go_wp2
    go_ret2
    exact ⟨rfl, Below.refl _ _⟩
  · rw [if_neg c, if_neg c]
    by_cases c1 : m = 1800000
    · rw [if_pos c1, if_pos c1]
      go_enter Tryd.func59, Tryd.ntmps59
      go_wp2
      go_ret2
      exact ⟨rfl, Below.refl _ _⟩
    · rw [if_neg c1, if_neg c1]
      by_cases c2 : m = 5400000
      · rw [if_pos c2, if_pos c2]
        go_enter Tryd.func59, Tryd.ntmps59
        go_wp2
        go_ret2
        exact ⟨rfl, Below.refl _ _⟩
      · rw [if_neg c2, if_neg c2]
        have C0 := Lib.hid (fun (wx : World) (hb : Below w.heap.size w wx) => irr_any m (by omega) (by omega) wx (H.keep hb))
        have L := (irr_lt m.toNat (by omega)).resolve_right (by omega)
        have eq : hb (L6.irr m.toNat) / 17179869184 = ((L6.irr m.toNat / 316912650057057350374175801344 : Nat) : Int) := by unfold hb; omega
        have u1 : hb (L6.irr m.toNat) < 18446744073709551616 := by unfold hb; omega
        have u0 : 0 ≤ hb (L6.irr m.toNat) := by unfold hb; omega
        have q1 : ((L6.irr m.toNat / 316912650057057350374175801344 : Nat) : Int) < 1073741824 := by omega
        have q0 : (0 : Int) ≤ ((L6.irr m.toNat / 316912650057057350374175801344 : Nat) : Int) := by omega
        generalize ((L6.irr m.toNat / 316912650057057350374175801344 : Nat) : Int) = q at *
        have wq : IntKind.i64.wrap q = q := by rw [IntKind.wrap_i64]; omega
        generalize hb (L6.irr m.toNat) = u at *
        generalize lb (L6.irr m.toNat) = v at *
        have hix : ∀ (wx : World), (Instr.index 82 (.agg #[.int .u64 u, .int .u64 v]) (.int .i64 0)).run Tryd.prog wx = .ok (.int .u64 u) wx := fun _ => rfl
        clear L H
        go_enter Tryd.func59, Tryd.ntmps59
        go_wp2_with fail
        refine (C0.out _ (Below.refl _ _)).mono ?_
        rintro e w1 ⟨rfl, hb⟩
        go_wp2_with fail
        go_ret2
        exact ⟨rfl, hb⟩
theorem pSine (n : Int) (w : World) (H : Held w) :
    Calls Tryd.prog 44 #[.int .i64 n] w fun e w' => e = .returned (.tuple #[.int .i64 (L6.lo n), .int .i64 (L6.hi n)]) ∧ Below w.heap.size w w' := by
  obtain ⟨f1, f2⟩ := L6.up_eq n
  obtain ⟨b1, b2, b3, b4⟩ := L6.dirM_in n
  have m := L6.m_in n
  have C0 := Lib.hid (fun (wx : World) => pWrap n wx)
  rw [show wrapN n = L6.mT n from rfl] at C0
  obtain ⟨i1, i2, i3, i4⟩ := upD_in (L6.dirM n) b1 b2
  by_cases c : L6.mT n < 10800000
  · have e : L6.dirH n = L6.mT n := by unfold L6.dirH; rw [if_neg (by omega)]
    have C1 := Lib.hid (fun (wx : World) (hb : Below w.heap.size w wx) => pUpper (L6.mT n) (L6.dirM n) (by unfold L6.dirM; rw [e]) m.1 (by omega) wx (H.keep hb))
    rw [(f1 c).1, (f1 c).2]
    clear f1 f2 e b1 b2 b3 b4
    obtain ⟨m1, m2⟩ := m
    generalize L6.upD (L6.dirM n) = u at *
    generalize L6.upU (L6.dirM n) = v at *
    generalize L6.mT n = t at *
    clear H
    go_enter Tryd.func44, Tryd.ntmps44
    go_wp2_with fail
    refine (C0.out _).mono ?_
    rintro e w1 ⟨rfl, rfl⟩
    go_wp2_with fail
    refine (C1.out _ (Below.refl _ _)).mono ?_
    rintro e w2 ⟨rfl, hb⟩
    go_wp2_with fail
    go_ret2
    exact ⟨rfl, hb⟩
  · have e : L6.dirH n = L6.mT n - 10800000 := by unfold L6.dirH; rw [if_pos (by omega)]
    have C1 := Lib.hid (fun (wx : World) (hb : Below w.heap.size w wx) => pUpper (L6.mT n - 10800000) (L6.dirM n) (by unfold L6.dirM; rw [e]) (by omega) (by omega) wx (H.keep hb))
    rw [(f2 (by omega)).1, (f2 (by omega)).2]
    clear f1 f2 e b1 b2 b3 b4
    obtain ⟨m1, m2⟩ := m
    generalize L6.upD (L6.dirM n) = u at *
    generalize L6.upU (L6.dirM n) = v at *
    generalize L6.mT n = t at *
    clear H
    go_enter Tryd.func44, Tryd.ntmps44
    go_wp2_with fail
    refine (C0.out _).mono ?_
    rintro e w1 ⟨rfl, rfl⟩
    go_wp2_with fail
    refine (C1.out _ (Below.refl _ _)).mono ?_
    rintro e w2 ⟨rfl, hb⟩
    go_wp2_with fail
    go_ret2
    exact ⟨rfl, hb⟩
theorem pAt (n : Int) (w : World) (H : Held w) :
    Calls Tryd.prog 62 #[.int .i64 n] w fun e w' => e = .returned (.agg #[.int .i64 (L6.lo n), .int .i64 (L6.hi n)]) ∧ Below w.heap.size w w' := by
  have C0 := Lib.hid (fun (wx : World) (hb : Below w.heap.size w wx) => pSine n wx (H.keep hb))
  have HB := Lib.hid (below1 w (.cells #[.int .i64 0, .int .i64 0] 23))
  have R := At2.new w (.int .i64 0) (.int .i64 0) 23
  generalize L6.lo n = u at *
  generalize L6.hi n = v at *
  clear H
  go_enter Tryd.func62, Tryd.ntmps62
  go_wp2_with fail
  refine (C0.out _ HB.out).mono ?_
  rintro e w1 ⟨rfl, hb⟩
  have R := R.keep hb
  have HB := Lib.hid (bstep HB.out hb)
  obtain ⟨R0, R1, R2, R3, -⟩ := id R
  obtain ⟨z0, z1⟩ := set2 R0 R1 (.int .i64 u) (.int .i64 v)
  go_wp2_with fail
  refine bodyPost_ret (v := .agg #[.int .i64 u, .int .i64 v]) (by simp [results, Tryd.results62, go_sem, z0, z1]) rfl ⟨rfl, ?_⟩
  exact below_set2 HB.out (Nat.le_refl _) _ _
theorem pHull (a b c d : Int) (w : World) :
    Calls Tryd.prog 61 #[.agg #[.int .i64 a, .int .i64 b], .agg #[.int .i64 c, .int .i64 d]] w fun e w' => e = .returned (.agg #[.int .i64 (min a c), .int .i64 (max b d)]) ∧ Below w.heap.size w w' := by
  obtain ⟨A, B⟩ := At2.two w (.int .i64 a) (.int .i64 b) (.int .i64 c) (.int .i64 d) 23 23
  have A' := A.alloc (.cells #[.int .i64 0, .int .i64 0] 23)
  have B' := B.alloc (.cells #[.int .i64 0, .int .i64 0] 23)
  obtain ⟨A0, A1, -, -, -⟩ := id A'
  obtain ⟨B0, B1, -, -, -⟩ := id B'
  go_enter Tryd.func61, Tryd.ntmps61
  go_wp2_with fail
  refine bodyPost_ret (v := .agg #[.int .i64 (min a c), .int .i64 (max b d)]) (by simp [results, Tryd.results61, go_sem]) rfl ⟨rfl, ?_⟩
  exact below3 _ _ _ _
end Go.Proofs.YtebhflmmdfbjkaaDoor

/- Trig: the program's sine over an arc. -/
namespace Go.Proofs.YtebhflmmdfbjkaaDoor
open Go.RowKit
set_option linter.unusedVariables false
set_option maxRecDepth 100000

/-- the memory of 'over': the arc, the result -/
structure OvM (w : World) (a b : Int) (wx : World) : Prop where
  A : At2 wx w.heap.size (.int .i64 a) (.int .i64 b)
  R : At2 wx (w.heap.size + 1) (.int .i64 0) (.int .i64 0)
  B : Below w.heap.size w wx
theorem OvM.keep {w w1 w2 : World} {a b : Int} (h : OvM w a b w1) (hb : Below w1.heap.size w1 w2) : OvM w a b w2 := ⟨h.A.keep hb, h.R.keep hb, bstep h.B hb⟩
theorem OvM.al {w w1 : World} {a b : Int} (h : OvM w a b w1) (o : Obj) : OvM w a b (w1.alloc o) := h.keep (below1 _ _)
theorem OvM.dr {w w1 : World} {a b : Int} (h : OvM w a b w1) : OvM w a b w1.drew := h.keep (Below.refl _ _).drew
theorem OvM.far {w w1 : World} {a b : Int} {c : Nat} (h : OvM w a b w1) (hc : w.heap.size + 1 < c) (u v : Value) : OvM w a b ((w1.setCell ⟨c, 0, none⟩ u).setCell ⟨c, 1, none⟩ v) :=
  ⟨h.A.far (by omega) u v, h.R.far (by omega) u v, below_set2 h.B (by omega) u v⟩
theorem OvM.new (w : World) (a b : Int) : OvM w a b ((w.alloc (.cells #[.int .i64 a, .int .i64 b] 25)).alloc (.cells #[.int .i64 0, .int .i64 0] 23)) := by
  obtain ⟨A, R⟩ := At2.two w (.int .i64 a) (.int .i64 b) (.int .i64 0) (.int .i64 0) 25 23
  exact ⟨A, R, below2 w _ _⟩
theorem At2.dw {w : World} {b : Nat} {x y : Value} (h : At2 w b x y) : At2 w.drew b x y := h.keep (Below.refl _ _).drew

set_option maxHeartbeats 4000000 in
theorem pOver (a b : Int) (ha : -3900000000000 ≤ a) (hb0 : b ≤ 3900000000000) (ab : a ≤ b) (w : World) (H : Held w) :
    Calls Tryd.prog 48 #[.agg #[.int .i64 a, .int .i64 b]] w fun e w' => e = .returned (.agg #[.int .i64 (L6.sL a b), .int .i64 (L6.sH a b)]) ∧ Below w.heap.size w w' := by
  have EQ := Lib.hid (fun k hk h1 h2 => (show L6.eL a b k = L6.sL a b ∧ L6.eH a b k = L6.sH a b from ⟨L6.eL_eq a b ha hb0 ab k hk h1 h2, L6.eH_eq a b ha hb0 ab k hk h1 h2⟩))
  have K0 := Lib.hid (fun (wx : World) (hb : Below w.heap.size w wx) => pAt a wx (H.keep hb))
  have K1 := Lib.hid (fun (wx : World) (hb : Below w.heap.size w wx) => pAt b wx (H.keep hb))
  have K2 := Lib.hid (fun (wx : World) => pHull (L6.lo a) (L6.hi a) (L6.lo b) (L6.hi b) wx)
  obtain ⟨el, hel⟩ : ∃ el : Nat → Int, ∀ k, el k = L6.eL a b k := ⟨_, fun _ => rfl⟩
  obtain ⟨eh, heh⟩ : ∃ eh : Nat → Int, ∀ k, eh k = L6.eH a b k := ⟨_, fun _ => rfl⟩
  have e0 : min (L6.lo a) (L6.lo b) = el 0 := by rw [hel]; rfl
  have e1 : max (L6.hi a) (L6.hi b) = eh 0 := by rw [heh]; rfl
  have K3 : Hid (∀ (k : Nat) (wx : World), Calls Tryd.prog 61 #[.agg #[.int .i64 (el k), .int .i64 (eh k)], .agg #[.int .i64 (L6.lo (L6.pn a k)), .int .i64 (L6.hi (L6.pn a k))]] wx fun e w' => e = .returned (.agg #[.int .i64 (el (k + 1)), .int .i64 (eh (k + 1))]) ∧ Below wx.heap.size wx w') :=
    Lib.hid (fun k wx => by rw [hel, heh, hel, heh]; exact pHull _ _ _ _ wx)
  have K4 := Lib.hid (fun (k : Nat) (wx : World) (hb : Below w.heap.size w wx) => pAt (L6.pn a k) wx (H.keep hb))
  have EQ : Hid (∀ k, k ≤ 4 → (∀ i, i < k → L6.pn a i ≤ b) → (k = 4 ∨ b < L6.pn a k) → el k = L6.sL a b ∧ eh k = L6.sH a b) := Lib.hid (fun k h1 h2 h3 => by rw [hel, heh]; exact EQ.out k h1 h2 h3)
  rw [e0, e1] at K2
  clear e0 e1 hel heh H
  generalize L6.sL a b = sl at *
  generalize L6.sH a b = sh at *
  generalize L6.lo a = l0 at *
  generalize L6.hi a = h0 at *
  generalize L6.lo b = l1 at *
  generalize L6.hi b = h1 at *
  have M := OvM.new w a b
  obtain ⟨⟨A0, A1, -, -, -⟩, -, -⟩ := id M
  go_enter Tryd.func48, Tryd.ntmps48
  go_wp2_with fail
  go_cut [3] from 6 to 12 (fun v3 wx => ∃ q : Nat, v3 = .pointer (some ⟨q, 0, none⟩) ∧ Hid (w.heap.size + 1 < q) ∧ Hid (At2 wx q (.int .i64 (el 0)) (.int .i64 (eh 0))) ∧ Hid (OvM w a b wx))
  case first =>
    generalize hW : (w.alloc (.cells #[.int .i64 a, .int .i64 b] 25)).alloc (.cells #[.int .i64 0, .int .i64 0] 23) = W at *
    have lW : w.heap.size + 1 < W.heap.size := M.R.lt
    have zA : ¬ w.heap.size = W.heap.size := by omega
    have yA : ¬ W.heap.size = w.heap.size := by omega
    clear hW
    go_region_held3 (fun w' => w'.cell? ⟨w.heap.size, 0, none⟩ = some (.int .i64 a) ∧ w'.cell? ⟨w.heap.size, 1, none⟩ = some (.int .i64 b)) (go_keep)
      (first
      | (go_at_call 62; ((with_reducible refine (K0.out _ (by first | exact M.B | exact M.dr.B | exact (M.al _).B | exact (M.dr.al _).B | exact (M.al _).dr.B)).mono ?_)); rintro e v ⟨rfl, hb⟩; (first | (have M := M.keep hb) | (have M := M.dr.keep hb) | (have M := (M.al _).keep hb) | (have M := ((M.dr).al _).keep hb) | (have M := ((M.al _).dr).keep hb)); (try (first | (have N := N.keep hb) | (have N := N.dw.keep hb) | (have N := (At2.new _ (.int .i64 0) (.int .i64 0) 23).keep hb) | (have N := (At2.new _ (.int .i64 0) (.int .i64 0) 23).dw.keep hb))); clear A0 A1 hb; obtain ⟨⟨A0, A1, -, -, -⟩, Rl, -⟩ := id M; have lv := Rl.lt; clear Rl; (try (clear N0 N1 N2 N3)); (try (obtain ⟨N0, N1, N2, N3, -⟩ := id N)); have zv : ¬ w.heap.size = v.heap.size := (by omega); have yv : ¬ v.heap.size = w.heap.size := (by omega))
      | (go_at_call 62; ((with_reducible refine (K1.out _ (by first | exact M.B | exact M.dr.B | exact (M.al _).B | exact (M.dr.al _).B | exact (M.al _).dr.B)).mono ?_)); rintro e v ⟨rfl, hb⟩; (first | (have M := M.keep hb) | (have M := M.dr.keep hb) | (have M := (M.al _).keep hb) | (have M := ((M.dr).al _).keep hb) | (have M := ((M.al _).dr).keep hb)); (try (first | (have N := N.keep hb) | (have N := N.dw.keep hb) | (have N := (At2.new _ (.int .i64 0) (.int .i64 0) 23).keep hb) | (have N := (At2.new _ (.int .i64 0) (.int .i64 0) 23).dw.keep hb))); clear A0 A1 hb; obtain ⟨⟨A0, A1, -, -, -⟩, Rl, -⟩ := id M; have lv := Rl.lt; clear Rl; (try (clear N0 N1 N2 N3)); (try (obtain ⟨N0, N1, N2, N3, -⟩ := id N)); have zv : ¬ w.heap.size = v.heap.size := (by omega); have yv : ¬ v.heap.size = w.heap.size := (by omega))
      | (go_at_call 61; ((with_reducible refine (K2.out _).mono ?_)); rintro e v ⟨rfl, hb⟩; (first | (have M := M.keep hb) | (have M := M.dr.keep hb) | (have M := (M.al _).keep hb) | (have M := ((M.dr).al _).keep hb) | (have M := ((M.al _).dr).keep hb)); (try (first | (have N := N.keep hb) | (have N := N.dw.keep hb) | (have N := (At2.new _ (.int .i64 0) (.int .i64 0) 23).keep hb) | (have N := (At2.new _ (.int .i64 0) (.int .i64 0) 23).dw.keep hb))); clear A0 A1 hb; obtain ⟨⟨A0, A1, -, -, -⟩, Rl, -⟩ := id M; have lv := Rl.lt; clear Rl; (try (clear N0 N1 N2 N3)); (try (obtain ⟨N0, N1, N2, N3, -⟩ := id N)); have zv : ¬ w.heap.size = v.heap.size := (by omega); have yv : ¬ v.heap.size = w.heap.size := (by omega)))
    all_goals
      go_wp2_with fail
      go_meet
    all_goals
      first
      | (with_reducible exact ⟨_, rfl, Lib.hid (by omega), Lib.hid (At2.new _ _ _ 23), Lib.hid (M.al _)⟩)
      | (with_reducible exact ⟨_, rfl, Lib.hid (by omega), Lib.hid (N.put _ _), Lib.hid (M.far (by omega) _ _)⟩)
  case rest =>
    obtain ⟨q, rfl, hq, hN, hM⟩ := hcut
    clear M A0 A1 K0 K1 K2
    have nw : IntKind.i64.wrap (-a) = -a := by rw [IntKind.wrap_i64]; omega
    have CW := Lib.hid (fun (wx : World) => pWrap (IntKind.i64.wrap (-a)) wx)
    rw [show wrapN (IntKind.i64.wrap (-a)) = wrapN (-a) by rw [nw]] at CW
    clear nw
    have ht : (wrapN (-a)).tmod 5400000 = (-a) % 5400000 := by
      have : wrapN (-a) = (-a) % 21600000 := rfl
      rw [this, Int.tmod_eq_emod_of_nonneg (by omega)]
      omega
    obtain ⟨p, hp⟩ : ∃ p : Nat → Int, ∀ k, p k = L6.pn a k := ⟨_, fun _ => rfl⟩
    have hp2 : ∀ k : Nat, p k = a + (-a) % 5400000 + 5400000 * (k : Int) := fun k => by rw [hp]; rfl
    have K4 : Hid (∀ (k : Nat) (wx : World), Below w.heap.size w wx → Calls Tryd.prog 62 #[.int .i64 (p k)] wx fun e w' => e = .returned (.agg #[.int .i64 (L6.lo (L6.pn a k)), .int .i64 (L6.hi (L6.pn a k))]) ∧ Below wx.heap.size wx w') := Lib.hid (fun k wx hb => by rw [hp]; exact K4.out k wx hb)
    have EQ : Hid (∀ k, k ≤ 4 → (∀ i, i < k → p i ≤ b) → (k = 4 ∨ b < p k) → el k = sl ∧ eh k = sh) := Lib.hid (fun k h1 h2 h3 => EQ.out k h1 (fun i hi => by rw [← hp]; exact h2 i hi) (by rw [← hp]; exact h3))
    generalize wrapN (-a) = t at *
    obtain ⟨x, hx⟩ : ∃ x, a + (-a) % 5400000 = x := ⟨_, rfl⟩
    have hr : 0 ≤ (-a) % 5400000 ∧ (-a) % 5400000 < 5400000 := by omega
    generalize (-a) % 5400000 = r at *
    obtain ⟨r1, r2⟩ := hr
    rw [hx] at hp2
    have P := Lib.hid hp2
    have x1 : -3900000000000 ≤ x := by omega
    have x2 : x < 3900006000000 := by omega
    have p0 : p 0 = x := by rw [hp2]; omega
    clear hp hp2
    have M := hM.out
    have N := hN.out
    obtain ⟨⟨A0, A1, -, -, -⟩, -, -⟩ := id M
    go_upto_region 2 with fail
    go_region_held3 (fun w' => w'.cell? ⟨w.heap.size, 0, none⟩ = some (.int .i64 a) ∧ w'.cell? ⟨w.heap.size, 1, none⟩ = some (.int .i64 b)) (go_keep)
      (first
      | (go_at_call 50; ((with_reducible refine (CW.out _).mono ?_)); rintro e v ⟨rfl, rfl⟩))
    rw [show IntKind.i64.wrap x = x by rw [IntKind.wrap_i64]; omega]
    have M := M.dr
    have N := N.dw
    clear A0 A1 hN hM hx CW
    generalize wc.drew = wd at *
    go_wp2_with fail
    go_loopg [5] 4 (fun m v5 wr => ∃ j : Nat, m = 4 - j ∧ v5 = .int .i64 (p j) ∧ Hid (j ≤ 4) ∧ Hid (∀ i, i < j → p i ≤ b) ∧ Hid (At2 wr q (.int .i64 (el j)) (.int .i64 (eh j))) ∧ Hid (OvM w a b wr))
    case atStart => exact ⟨0, rfl, congrArg (Value.int .i64) p0.symm, Nat.zero_le _, fun i hi => absurd hi (by omega), N, M⟩
    case round =>
      obtain ⟨j, hm, rfl, HJ, HI, HN, HM⟩ := hrel
      have HG := Lib.hid hm
      clear hm M N p0
      have M := HM.out
      have N := HN.out
      clear HM HN
      have pj := P.out j
      obtain ⟨⟨A0, A1, -, -, -⟩, Rl, -⟩ := id M
      obtain ⟨R0, R1, R2, R3, -⟩ := Rl
      obtain ⟨N0, N1, N2, N3, -⟩ := id N
      by_cases cb : p j ≤ b
      · by_cases cj : j < 4
        · have cx : p j < x + 21600000 := by omega
          have x3 : x + 21600000 ≤ 9223372036854775807 := by omega
          have pu : p j ≤ 3900000000000 := by omega
          have pl : -3900000000000 ≤ p j := by omega
          have zq : ¬ w.heap.size = q := by have := hq.out; omega
          have yq : ¬ q = w.heap.size := by omega
          have K3 := Lib.hid (K3.out j)
          have K4 := Lib.hid (K4.out j)
          generalize L6.lo (L6.pn a j) = lj at *
          generalize L6.hi (L6.pn a j) = hj at *
          have PJ := Lib.hid pj
          have CJ := Lib.hid cj
          clear pj cj
          go_upto_region 6 with fail
          go_region_with (first
            | (go_at_call 62; ((with_reducible refine (K4.out _ (by first | exact M.B | exact M.dr.B)).mono ?_)); rintro e v ⟨rfl, hb⟩; (first | (have M := M.keep hb) | (have M := M.dr.keep hb)); (first | (have N := N.keep hb) | (have N := N.dw.keep hb)); clear hb A0 A1 R0 R1 R2 R3 N0 N1 N2 N3; obtain ⟨N0, N1, N2, N3, -⟩ := id N)
            | (go_at_call 61; ((with_reducible refine (K3.out _).mono ?_)); rintro e v ⟨rfl, hb⟩; (first | (have M := M.keep hb) | (have M := M.dr.keep hb)); (first | (have N := N.keep hb) | (have N := N.dw.keep hb)); clear hb N0 N1 N2 N3; obtain ⟨N0, N1, N2, N3, -⟩ := id N))
          all_goals
            have M := M.far hq.out (.int .i64 (el (j + 1))) (.int .i64 (eh (j + 1)))
            have N := N.put (.int .i64 (el (j + 1))) (.int .i64 (eh (j + 1)))
            have CB := Lib.hid cb
            clear N0 N1 N2 N3 K3 K4 cb
            have w5 : p j + 5400000 = p (j + 1) := by have := P.out (j + 1); have := PJ.out; omega
            have u5 : p (j + 1) ≤ 3900005400000 := by omega
            have l5 : -3900000000000 ≤ p (j + 1) := by omega
            have w6 : IntKind.i64.wrap (p (j + 1)) = p (j + 1) := by rw [IntKind.wrap_i64]; omega
            go_wp2_with fail
            go_roundg (4 - (j + 1))
            case measure => have := HG.out; have := CJ.out; omega
            case rel => exact ⟨j + 1, rfl, rfl, by have := CJ.out; show _ ≤ _; omega, fun i hi => (by by_cases e : i = j; · rw [e]; exact CB.out
                                                                                                      · exact HI.out i (by omega)), N, M⟩
        · obtain rfl : j = 4 := by have := HJ.out; omega
          have cx : ¬ p 4 < x + 21600000 := by omega
          have x3 : x + 21600000 ≤ 9223372036854775807 := by omega
          obtain ⟨g1, g2⟩ := EQ.out 4 (by omega) HI.out (.inl rfl)
          rw [g1] at N0
          rw [g2] at N1
          clear N K3 K4 EQ pj cj
          obtain ⟨z0, z1⟩ := set2 R0 R1 (.int .i64 sl) (.int .i64 sh)
          go_wp2_with fail
          refine bodyPost_ret (v := .agg #[.int .i64 sl, .int .i64 sh]) (by simp [results, Tryd.results48, go_sem, z0, z1]) rfl ⟨rfl, ?_⟩
          exact below_set2 M.B (by omega) _ _
      · obtain ⟨g1, g2⟩ := EQ.out j HJ.out HI.out (.inr (by omega))
        rw [g1] at N0
        rw [g2] at N1
        clear N K3 K4 EQ pj
        obtain ⟨z0, z1⟩ := set2 R0 R1 (.int .i64 sl) (.int .i64 sh)
        go_wp2_with fail
        refine bodyPost_ret (v := .agg #[.int .i64 sl, .int .i64 sh]) (by simp [results, Tryd.results48, go_sem, z0, z1]) rfl ⟨rfl, ?_⟩
        exact below_set2 M.B (by omega) _ _

end Go.Proofs.YtebhflmmdfbjkaaDoor

/- Trig: the contracts of Sin, Cos, Haversine, Below. -/
namespace Go.Proofs.YtebhflmmdfbjkaaDoor
open Go.RowKit
set_option linter.unusedVariables false
set_option maxRecDepth 100000

theorem pSin (a b : Int) (w : World) (H : Held w) (a1 : I64 a) (b1 : I64 b) :
    Calls Tryd.prog 22 #[.agg #[.int .i64 a, .int .i64 b]] w fun e w' => e = .returned (vTr (aok a b) (L6.sL a b) (L6.sH a b)) ∧ Below w.heap.size w w' := by
  obtain ⟨A, R⟩ := At2.two w (.int .i64 a) (.int .i64 b) (.int .i64 0) (.int .i64 0) 25 23
  have HB := Lib.hid (below2 w (.cells #[.int .i64 a, .int .i64 b] 25) (.cells #[.int .i64 0, .int .i64 0] 23))
  obtain ⟨A0, A1, -, -, -⟩ := id A
  rcases Bool.eq_false_or_eq_true (aok a b) with h | h
  · rw [vTr_yes _ _ h]
    have C0 := Lib.hid (fun (wx : World) => pValid_is a b true h wx)
    obtain ⟨q1, q2, q3⟩ := (aok_iff a b).1 h
    have C1 := Lib.hid (fun (wx : World) (hb : Below w.heap.size w wx) => pOver a b (by omega) (by omega) q3 wx (H.keep hb))
    generalize L6.sL a b = u at *
    generalize L6.sH a b = v at *
    clear h H q1 q2 q3
    go_enter Tryd.func22, Tryd.ntmps22
    go_wp2_with fail
    refine (C0.out _).mono ?_
    rintro e w1 ⟨rfl, hb⟩
    have A := A.keep hb
    have R := R.keep hb
    have HB := Lib.hid (bstep HB.out hb)
    clear hb A0 A1
    obtain ⟨A0, A1, -, -, -⟩ := id A
    go_wp2_with fail
    refine (C1.out _ HB.out).mono ?_
    rintro e w2 ⟨rfl, hb⟩
    have R := R.keep hb
    have HB := Lib.hid (bstep HB.out hb)
    clear hb A0 A1 A
    obtain ⟨R0, R1, R2, R3, -⟩ := id R
    obtain ⟨z0, z1⟩ := set2 R0 R1 (.int .i64 u) (.int .i64 v)
    go_wp2_with fail
    refine bodyPost_ret (v := .tuple #[.agg #[.int .i64 u, .int .i64 v], .int .i64 0]) (by simp [results, Tryd.results22, go_sem, z0, z1]) rfl ⟨rfl, ?_⟩
    exact below_set2 HB.out (by omega) _ _
  · rw [vTr_no _ _ h]
    have C0 := Lib.hid (fun (wx : World) => pValid_is a b false h wx)
    clear h H
    go_enter Tryd.func22, Tryd.ntmps22
    go_wp2_with fail
    refine (C0.out _).mono ?_
    rintro e w1 ⟨rfl, hb⟩
    have R := R.keep hb
    have HB := Lib.hid (bstep HB.out hb)
    clear hb A0 A1 A
    obtain ⟨R0, R1, R2, R3, -⟩ := id R
    obtain ⟨z0, z1⟩ := set2 R0 R1 (.int .i64 0) (.int .i64 0)
    go_wp2_with fail
    refine bodyPost_ret (v := .tuple #[.agg #[.int .i64 0, .int .i64 0], .int .i64 1]) (by simp [results, Tryd.results22, go_sem, z0, z1]) rfl ⟨rfl, ?_⟩
    exact below_set2 HB.out (by omega) _ _
theorem pCos (a b : Int) (w : World) (H : Held w) (a1 : I64 a) (b1 : I64 b) :
    Calls Tryd.prog 23 #[.agg #[.int .i64 a, .int .i64 b]] w fun e w' => e = .returned (vTr (aok a b) (L6.sL (a + 5400000) (b + 5400000)) (L6.sH (a + 5400000) (b + 5400000))) ∧ Below w.heap.size w w' := by
  obtain ⟨A, R⟩ := At2.two w (.int .i64 a) (.int .i64 b) (.int .i64 0) (.int .i64 0) 25 23
  have HB := Lib.hid (below2 w (.cells #[.int .i64 a, .int .i64 b] 25) (.cells #[.int .i64 0, .int .i64 0] 23))
  obtain ⟨A0, A1, -, -, -⟩ := id A
  rcases Bool.eq_false_or_eq_true (aok a b) with h | h
  · rw [vTr_yes _ _ h]
    have C0 := Lib.hid (fun (wx : World) => pValid_is a b true h wx)
    obtain ⟨q1, q2, q3⟩ := (aok_iff a b).1 h
    have C1 := Lib.hid (fun (wx : World) (hb : Below w.heap.size w wx) => pOver (a + 5400000) (b + 5400000) (by omega) (by omega) (by omega) wx (H.keep hb))
    generalize L6.sL (a + 5400000) (b + 5400000) = u at *
    generalize L6.sH (a + 5400000) (b + 5400000) = v at *
    obtain ⟨x, hx⟩ : ∃ x, a + 5400000 = x := ⟨_, rfl⟩
    obtain ⟨y, hy⟩ : ∃ y, b + 5400000 = y := ⟨_, rfl⟩
    have g3 : -9223372036854775808 ≤ x := by omega
    have g4 : x ≤ 9223372036854775807 := by omega
    have g5 : -9223372036854775808 ≤ y := by omega
    have g6 : y ≤ 9223372036854775807 := by omega
    rw [hx, hy] at C1
    clear h H q1 q2 q3
    go_enter Tryd.func23, Tryd.ntmps23
    go_wp2_with fail
    refine (C0.out _).mono ?_
    rintro e w1 ⟨rfl, hb⟩
    have A := A.keep hb
    have R := R.keep hb
    have HB := Lib.hid (bstep HB.out hb)
    clear hb A0 A1
    obtain ⟨A0, A1, -, -, -⟩ := id A
    go_wp2_with fail
    refine (C1.out _ HB.out).mono ?_
    rintro e w2 ⟨rfl, hb⟩
    have R := R.keep hb
    have HB := Lib.hid (bstep HB.out hb)
    clear hb A0 A1 A
    obtain ⟨R0, R1, R2, R3, -⟩ := id R
    obtain ⟨z0, z1⟩ := set2 R0 R1 (.int .i64 u) (.int .i64 v)
    go_wp2_with fail
    refine bodyPost_ret (v := .tuple #[.agg #[.int .i64 u, .int .i64 v], .int .i64 0]) (by simp [results, Tryd.results23, go_sem, z0, z1]) rfl ⟨rfl, ?_⟩
    exact below_set2 HB.out (by omega) _ _
  · rw [vTr_no _ _ h]
    have C0 := Lib.hid (fun (wx : World) => pValid_is a b false h wx)
    clear h H
    go_enter Tryd.func23, Tryd.ntmps23
    go_wp2_with fail
    refine (C0.out _).mono ?_
    rintro e w1 ⟨rfl, hb⟩
    have R := R.keep hb
    have HB := Lib.hid (bstep HB.out hb)
    clear hb A0 A1 A
    obtain ⟨R0, R1, R2, R3, -⟩ := id R
    obtain ⟨z0, z1⟩ := set2 R0 R1 (.int .i64 0) (.int .i64 0)
    go_wp2_with fail
    refine bodyPost_ret (v := .tuple #[.agg #[.int .i64 0, .int .i64 0], .int .i64 1]) (by simp [results, Tryd.results23, go_sem, z0, z1]) rfl ⟨rfl, ?_⟩
    exact below_set2 HB.out (by omega) _ _
end Go.Proofs.YtebhflmmdfbjkaaDoor

/- Trig: the contracts of Haversine and Below: all that is asked of the program. -/
namespace Go.Proofs.YtebhflmmdfbjkaaDoor
open Go.RowKit
set_option linter.unusedVariables false
set_option maxRecDepth 100000

theorem has_q (a b : Int) : L6.has (a + 5400000) (b + 5400000) 5400000 = L6.has a b 0 ∧ L6.has (a + 5400000) (b + 5400000) (-5400000) = L6.has a b 10800000 := by
  unfold L6.has
  constructor
  · exact decide_eq_decide.2 (by omega)
  · exact decide_eq_decide.2 (by omega)
theorem fl_even (n : Int) (h : L6.ex n = true) : L6.fl n % 2 = 0 := by
  unfold L6.fl
  rw [if_pos h]
  unfold L6.exV
  split
  · decide
  · split
    · decide
    · split
      · decide
      · split <;> decide
theorem hv_eq (n : Int) : hvL n = (1073741824 - L6.hi (n + 5400000)) / 2 ∧ hvH n = (1073741824 - L6.lo (n + 5400000) + 1) / 2 := by
  unfold hvL hvH L6.hi L6.lo
  by_cases h : L6.ex (n + 5400000) = true
  · have := fl_even _ h
    rw [if_pos h, if_pos h, if_pos h]
    omega
  · rw [if_neg h, if_neg h, if_neg h]
    omega
theorem hav_eq (a b : Int) (a1 : -1099511627776 ≤ a) (b1 : b ≤ 1099511627776) (ab : a ≤ b) :
    hL a b = (1073741824 - L6.sH (a + 5400000) (b + 5400000)).tdiv 2 ∧ hH a b = (1073741824 - L6.sL (a + 5400000) (b + 5400000) + 1).tdiv 2 ∧
    -1073741824 ≤ L6.sL (a + 5400000) (b + 5400000) ∧ L6.sL (a + 5400000) (b + 5400000) ≤ 1073741824 ∧ -1073741824 ≤ L6.sH (a + 5400000) (b + 5400000) ∧ L6.sH (a + 5400000) (b + 5400000) ≤ 1073741824 := by
  have okk : ∀ n, a + 5400000 ≤ n → n ≤ b + 5400000 → L6.Ok n := fun n h1 h2 => by unfold L6.Ok; omega
  obtain ⟨l1, l2⟩ := L6.lo_hi_in (a + 5400000) (okk _ (by omega) (by omega))
  obtain ⟨k1, k2⟩ := L6.lo_hi_in (b + 5400000) (okk _ (by omega) (by omega))
  have e1 : L6.lo (a + 5400000) ≤ L6.hi (a + 5400000) := by unfold L6.lo L6.hi; split <;> omega
  have e2 : L6.lo (b + 5400000) ≤ L6.hi (b + 5400000) := by unfold L6.lo L6.hi; split <;> omega
  obtain ⟨q1, q2⟩ := has_q a b
  obtain ⟨u1, u2⟩ := hv_eq a
  obtain ⟨v1, v2⟩ := hv_eq b
  have S : -1073741824 ≤ L6.sL (a + 5400000) (b + 5400000) ∧ L6.sL (a + 5400000) (b + 5400000) ≤ 1073741824 := by unfold L6.sL; split <;> omega
  have T : -1073741824 ≤ L6.sH (a + 5400000) (b + 5400000) ∧ L6.sH (a + 5400000) (b + 5400000) ≤ 1073741824 := by unfold L6.sH; split <;> omega
  refine ⟨?_, ?_, S.1, S.2, T.1, T.2⟩
  · rw [Int.tdiv_eq_ediv_of_nonneg (by omega)]
    unfold hL L6.sH
    rw [q1]
    split
    · rfl
    · omega
  · rw [Int.tdiv_eq_ediv_of_nonneg (by omega)]
    unfold hH L6.sL
    rw [q2]
    split
    · rfl
    · omega
theorem pHav (a b : Int) (w : World) (H : Held w) (a1 : I64 a) (b1 : I64 b) :
    Calls Tryd.prog 24 #[.agg #[.int .i64 a, .int .i64 b]] w fun e w' => e = .returned (vTr (aok a b) (hL a b) (hH a b)) ∧ Below w.heap.size w w' := by
  obtain ⟨A, R⟩ := At2.two w (.int .i64 a) (.int .i64 b) (.int .i64 0) (.int .i64 0) 25 23
  have HB := Lib.hid (below2 w (.cells #[.int .i64 a, .int .i64 b] 25) (.cells #[.int .i64 0, .int .i64 0] 23))
  obtain ⟨A0, A1, -, -, -⟩ := id A
  have C0 := Lib.hid (fun (wx : World) (hb : Below w.heap.size w wx) => pCos a b wx (H.keep hb) a1 b1)
  rcases Bool.eq_false_or_eq_true (aok a b) with h | h
  · rw [vTr_yes _ _ h]
    rw [vTr_yes _ _ h] at C0
    obtain ⟨q1, q2, q3⟩ := (aok_iff a b).1 h
    obtain ⟨e1, e2, s1, s2, t1, t2⟩ := hav_eq a b q1 q2 q3
    generalize L6.sL (a + 5400000) (b + 5400000) = u at *
    generalize L6.sH (a + 5400000) (b + 5400000) = v at *
    obtain ⟨x, hx⟩ : ∃ x, 1073741824 - v = x := ⟨_, rfl⟩
    obtain ⟨y, hy⟩ : ∃ y, 1073741824 - u = y := ⟨_, rfl⟩
    obtain ⟨z, hz⟩ : ∃ z, y + 1 = z := ⟨_, rfl⟩
    rw [hx] at e1
    rw [hy, hz] at e2
    generalize hL a b = l at *
    generalize hH a b = m at *
    have x1 : 0 ≤ x := by omega
    have x2 : x ≤ 2147483648 := by omega
    have y1 : 0 ≤ y := by omega
    have y2 : y ≤ 2147483648 := by omega
    have z1 : 0 ≤ z := by omega
    have z2 : z ≤ 2147483649 := by omega
    have l1 : -9223372036854775808 ≤ l := by rw [e1, Int.tdiv_eq_ediv_of_nonneg x1]; omega
    have l2 : l ≤ 9223372036854775807 := by rw [e1, Int.tdiv_eq_ediv_of_nonneg x1]; omega
    have m1 : -9223372036854775808 ≤ m := by rw [e2, Int.tdiv_eq_ediv_of_nonneg z1]; omega
    have m2 : m ≤ 9223372036854775807 := by rw [e2, Int.tdiv_eq_ediv_of_nonneg z1]; omega
    replace e1 := e1.symm
    replace e2 := e2.symm
    clear h H q1 q2 q3
    go_enter Tryd.func24, Tryd.ntmps24
    go_wp2_with fail
    refine (C0.out _ HB.out).mono ?_
    rintro e w1 ⟨rfl, hb⟩
    have R := R.keep hb
    have HB := Lib.hid (bstep HB.out hb)
    clear hb A0 A1 A
    have R := R.alloc (.cells #[.int .i64 u, .int .i64 v] 23)
    have N := At2.new w1 (.int .i64 u) (.int .i64 v) 23
    have HB := Lib.hid (bstep HB.out (below1 w1 (.cells #[.int .i64 u, .int .i64 v] 23)))
    obtain ⟨R0, R1, R2, R3, -⟩ := id R
    obtain ⟨N0, N1, N2, N3, -⟩ := id N
    obtain ⟨z0, z3⟩ := set2 R0 R1 (.int .i64 l) (.int .i64 m)
    go_wp2_with fail
    refine bodyPost_ret (v := .tuple #[.agg #[.int .i64 l, .int .i64 m], .int .i64 0]) (by simp [results, Tryd.results24, go_sem, z0, z3]) rfl ⟨rfl, ?_⟩
    exact below_set2 HB.out (by omega) _ _
  · rw [vTr_no _ _ h]
    rw [vTr_no _ _ h] at C0
    clear h H
    go_enter Tryd.func24, Tryd.ntmps24
    go_wp2_with fail
    refine (C0.out _ HB.out).mono ?_
    rintro e w1 ⟨rfl, hb⟩
    have R := R.keep hb
    have HB := Lib.hid (bstep HB.out hb)
    clear hb A0 A1 A
    have R := R.alloc (.cells #[.int .i64 0, .int .i64 0] 23)
    have HB := Lib.hid (bstep HB.out (below1 w1 (.cells #[.int .i64 0, .int .i64 0] 23)))
    obtain ⟨R0, R1, R2, R3, -⟩ := id R
    obtain ⟨z0, z3⟩ := set2 R0 R1 (.int .i64 0) (.int .i64 0)
    go_wp2_with fail
    refine bodyPost_ret (v := .tuple #[.agg #[.int .i64 0, .int .i64 0], .int .i64 1]) (by simp [results, Tryd.results24, go_sem, z0, z3]) rfl ⟨rfl, ?_⟩
    exact below_set2 HB.out (by omega) _ _
theorem or_any (x y r : Int) (g : Nat) (w : World) (c0 : w.cell? ⟨g, 0, none⟩ = some (.int .i64 x)) (c1 : w.cell? ⟨g, 1, none⟩ = some (.int .i64 y)) (h1 : x ≠ 0 → r = x) (h2 : x = 0 → r = y) :
    Calls Tryd.prog 45 #[.slice (some ⟨g, 0, none⟩) 2 2] w fun e w' => e = .returned (.int .i64 r) ∧ w' = w := by
  have h1 := Lib.hid h1
  have h2 := Lib.hid h2
  go_enter Tryd.func45, Tryd.ntmps45
  go_wp2_with fail
  go_loopg [8] 2 (fun m v8 wr => ∃ j : Nat, m = 2 - j ∧ v8 = .int .i64 (j : Int) ∧ Hid (j ≤ 2) ∧ Hid (1 ≤ j → x = 0) ∧ Hid (2 ≤ j → y = 0) ∧ w = wr)
  case atStart => exact ⟨0, rfl, rfl, Nat.zero_le _, fun h => absurd h (by omega), fun h => absurd h (by omega), rfl⟩
  case round =>
    obtain ⟨j, hm, rfl, HJ, HX, HY, rfl⟩ := hrel
    have HG := Lib.hid hm
    clear hm
    rcases (show j = 0 ∨ j = 1 ∨ j = 2 by have := HJ.out; omega) with rfl | rfl | rfl
    · by_cases c : x = 0
      · have HX := Lib.hid c
        subst c
        go_wp2_with fail
        go_roundg 1
        case measure => have := HG.out; omega
        case rel => exact ⟨1, rfl, rfl, by show _ ≤ _; omega, by first | exact fun _ => rfl | exact fun _ => trivial, fun h => absurd h (by omega), by first | rfl | trivial⟩
      · have e := h1.out c
        go_wp2_with fail
        go_ret
        exact ⟨ret_int e.symm, rfl⟩
    · have z := HX.out (by omega)
      have e := h2.out z
      by_cases c : y = 0
      · have HZ := Lib.hid z
        clear e z
        subst c
        go_wp2_with fail
        go_roundg 0
        case measure => have := HG.out; omega
        case rel => exact ⟨2, rfl, rfl, by show _ ≤ _; omega, fun _ => HZ.out, by first | exact fun _ => rfl | exact fun _ => trivial, by first | rfl | trivial⟩
      · clear z
        go_wp2_with fail
        go_ret
        exact ⟨ret_int e.symm, rfl⟩
    · have z := HX.out (by omega)
      have e := h2.out z
      have f := HY.out (by omega)
      have e := Lib.hid (e.trans f)
      clear z f
      go_wp2_with fail
      go_ret
      exact ⟨ret_int e.out.symm, rfl⟩
theorem pBelow (n v : Int) (w : World) (H : Held w) (n1 : I64 n) (v1 : I64 v) :
    Calls Tryd.prog 21 #[.int .i64 n, .int .i64 v] w fun e w' => e = .returned (.int .i64 (blN n v)) ∧ Below w.heap.size w w' := by
  have C0 := Lib.hid (fun (wx : World) => pSine n wx)
  have C0 := Lib.hid (pSine n w H)
  obtain ⟨l1, l2⟩ : -1073741824 ≤ L6.lo n ∧ L6.hi n ≤ 1073741824 := by
    obtain ⟨f1, f2⟩ := L6.up_eq n
    obtain ⟨b1, b2, b3, b4⟩ := L6.dirM_in n
    obtain ⟨i1, i2, i3, i4⟩ := upD_in (L6.dirM n) b1 b2
    by_cases c : L6.mT n < 10800000
    · rw [(f1 c).1, (f1 c).2]; omega
    · rw [(f2 (by omega)).1, (f2 (by omega)).2]; omega
  have C1 := Lib.hid (fun (wx : World) => Tryd.cmp_Compare_int (L6.lo n) v wx)
  have key : (Lib.compareInt (L6.lo n) v ≠ 0 → blN n v = Lib.compareInt (L6.lo n) v) ∧ (Lib.compareInt (L6.lo n) v = 0 → blN n v = L6.hi n - L6.lo n) ∧ L6.lo n ≤ L6.hi n ∧ L6.hi n ≤ L6.lo n + 1 := by
    have cl : L6.lo n < v → Lib.compareInt (L6.lo n) v = -1 := fun h => by unfold Lib.compareInt; rw [if_pos h]
    have ce : L6.lo n = v → Lib.compareInt (L6.lo n) v = 0 := fun h => by unfold Lib.compareInt; rw [if_neg (by omega), if_neg (by omega)]
    have cg : v < L6.lo n → Lib.compareInt (L6.lo n) v = 1 := fun h => by unfold Lib.compareInt; rw [if_neg (by omega), if_pos (by omega)]
    have e : L6.lo n = L6.fl n := rfl
    rw [e] at cl ce cg ⊢
    unfold blN L6.hi
    rcases (show L6.fl n < v ∨ L6.fl n = v ∨ v < L6.fl n by omega) with h | h | h
    · rw [cl h, if_neg (fun k => by have := k.2; omega), if_neg (by omega)]
      refine ⟨fun _ => rfl, fun k => absurd k (by decide), ?_, ?_⟩ <;> split <;> omega
    · rw [ce h]
      by_cases x : L6.ex n = true
      · rw [if_pos ⟨x, h⟩, if_pos x]; omega
      · rw [if_neg (fun k => x k.1), if_neg x, if_pos (by omega)]; omega
    · rw [cg h, if_neg (fun k => by have := k.2; omega), if_pos (by omega)]
      refine ⟨fun _ => rfl, fun k => absurd k (by decide), ?_, ?_⟩ <;> split <;> omega
  obtain ⟨k1, k2, k3, k4⟩ := key
  generalize L6.lo n = lo at *
  generalize L6.hi n = hi at *
  generalize Lib.compareInt lo v = c at *
  generalize blN n v = r at *
  obtain ⟨d, hd⟩ : ∃ d, hi - lo = d := ⟨_, rfl⟩
  have d1 : 0 ≤ d := by omega
  have d2 : d ≤ 1 := by omega
  rw [hd] at k2
  have C2 := Lib.hid (fun (g : Nat) (wx : World) c0 c1 => or_any c d r g wx c0 c1 k1 k2)
  clear k1 k2 H
  go_enter Tryd.func21, Tryd.ntmps21
  go_wp2_with fail
  refine C0.out.mono ?_
  rintro e w1 ⟨rfl, hb⟩
  have HB := Lib.hid hb
  clear hb
  go_wp2_with fail
  refine (C1.out _).mono ?_
  rintro e w2 ⟨rfl, rfl⟩
  go_wp2_with fail
  have N := At2.new w2 (.int .i64 c) (.int .i64 d) 3
  have HB := Lib.hid (bstep HB.out (below1 w2 (.cells #[.int .i64 c, .int .i64 d] 3)))
  refine (C2.out _ _ N.c0 N.c1).mono ?_
  rintro e w3 ⟨rfl, rfl⟩
  go_wp2_with fail
  go_ret
  exact ⟨rfl, HB.out⟩
/-- all that is asked of the program -/
theorem trProg (w : World) (H : Held w) : TrProg w where
  sin := fun a b wx hb a1 b1 => pSin a b wx (H.keep hb) a1 b1
  cos := fun a b wx hb a1 b1 => pCos a b wx (H.keep hb) a1 b1
  hav := fun a b wx hb a1 b1 => pHav a b wx (H.keep hb) a1 b1
  below := fun n v wx hb n1 v1 => pBelow n v wx (H.keep hb) n1 v1
end Go.Proofs.YtebhflmmdfbjkaaDoor

/- Trig: the listed tables, as the walks read them. -/
namespace Go.Proofs.YtebhflmmdfbjkaaDoor
open Go.RowKit Go.Lib
set_option linter.unusedVariables false
set_option maxRecDepth 100000

/-- an array of arrays of integers, as the memory holds it -/
theorem cells_of_tab2 {H : Type} {enc : TypeId × Value → H} {P : Program} {w : World} {base : Nat} {sp : Nat → Bool} {held : Bool} {fuel : Nat} {t e f : TypeId} {n m : Nat} {k : IntKind} {cs : List Value} {zss : List (List Int)} {p : List MemPlace}
    (ht : P.underlying t = some (.array n e)) (he : P.underlying e = some (.array m f)) (hf : P.underlying f = some (.int k)) (hcf : P.cellsOf f = 1) (hce : P.cellsOf e = m)
    (h : DataW.trod enc P w base sp held fuel t cs = some (.agg (zss.map fun zs => tabData k zs), p)) (i : Nat) (hi : i < n) (zs : List Int) (hz : zss[i]? = some zs) : (cs.drop (i * m)).take m = zs.map fun z => Value.int k z := by
  cases fuel with
  | zero => simp [DataW.trod] at h
  | succ fuel =>
    simp only [DataW.trod, ht, hce] at h
    split at h
    · obtain ⟨xs, hm, hx⟩ := Option.map_eq_some_iff.1 h
      have hxs : xs.map (·.1) = zss.map fun zs => (tabData k zs : DataW H) := by
        have := congrArg Prod.fst hx
        simpa using this
      obtain ⟨b, hb, hq⟩ := mapM_at hm i i (by simp [hi])
      have h2 : (xs.map (·.1))[i]? = some b.1 := by simp [hb]
      rw [hxs] at h2
      simp only [List.getElem?_map, hz, Option.map_some, Option.some.injEq] at h2
      exact cells_of_tab he hf hcf hce (p := b.2) (by rw [hq, h2])
    · cases h
def invs : List (List Int) := [
  [9223372036854775808, 0],
  [3074457345618258602, 12297829382473034410],
  [768614336404564650, 12297829382473034410],
  [153722867280912930, 2459565876494606882],
  [25620477880152155, 409927646082434480],
  [3660068268593165, 58561092297490640],
  [457508533574145, 11536535182605656090],
  [50834281508238, 7430751933748256770],
  [5083428150823, 15500470452342466969],
  [462129831893, 1409133677485678815],
  [38510819324, 7803571170502786407],
  [2962370717, 4857215645510110865],
  [211597908, 6935066858146990638],
  [14106527, 4151686605285043032],
  [881657, 17553302981933019829],
  [51862, 4287855011944804392],
  [2881, 4337490628154611714],
  [151, 11878864184877327952],
  [7, 10739652449784119786],
  [0, 6660326712654808623],
  [0, 302742123302491301],
  [0, 13162701013151795],
  [0, 548445875547991],
  [0, 21937835021919],
  [0, 843762885458],
  [0, 31250477239],
  [0, 1116088472],
  [0, 38485809]]
theorem invs_is : ∀ i, i < 28 → invs[i]? = some [hb (L6.cf i), lb (L6.cf i)] := by decide +kernel
theorem heldOf (W : World) (h : laidMet Tryd.prog [("almucantar/digits.radian", Rows.laid_almucantar_digits_radian), ("almucantar/digits.inverses", Rows.laid_almucantar_digits_inverses)] W) : Held W := by
  have r : TabIs Tryd.prog W "almucantar/digits.radian" .u64 [5365940339316, 7144251595963602554] :=
    tabIs_of_head (g := 2) (by kernel_rfl) (by kernel_rfl) (t := 82) Tryd.underlying82 Tryd.underlying80 (by kernel_rfl) (by kernel_rfl) h
  have h1 : laidMet Tryd.prog [("almucantar/digits.inverses", .agg (invs.map fun zs => tabData .u64 zs))] W := h.tail
  obtain ⟨ps, ⟨g', t', cs, fuel, p, q, hg', ht', hvar, hd, _, _⟩, _⟩ := h1
  obtain rfl := Option.some.inj ((show Tryd.prog.globalNamed "almucantar/digits.inverses" = some 3 by kernel_rfl).symm.trans hg')
  obtain rfl := Option.some.inj ((show (Tryd.prog.globals[3]?).map (·.type) = some 123 by kernel_rfl).symm.trans ht')
  have key : ∀ i, i < 28 → (cs.toList.drop (i * 2)).take 2 = [Value.int .u64 (hb (L6.cf i)), Value.int .u64 (lb (L6.cf i))] := fun i hi =>
    cells_of_tab2 Tryd.underlying123 Tryd.underlying82 Tryd.underlying80 (by kernel_rfl) (by kernel_rfl) hd i hi _ (invs_is i hi)
  refine ⟨r.cell (by kernel_rfl) 0 (by decide), r.cell (by kernel_rfl) 1 (by decide), fun i hi => ?_, fun i hi => ?_⟩
  · rw [World.var?_cell (show Tryd.prog.globalNamed "almucantar/digits.inverses" = some 3 by kernel_rfl) hvar (i * 2)]
    have := congrArg (·[0]?) (key i hi)
    simpa [List.getElem?_take, List.getElem?_drop] using this
  · rw [World.var?_cell (show Tryd.prog.globalNamed "almucantar/digits.inverses" = some 3 by kernel_rfl) hvar (i * 2 + 1)]
    have := congrArg (·[1]?) (key i hi)
    simpa [List.getElem?_take, List.getElem?_drop] using this
end Go.Proofs.YtebhflmmdfbjkaaDoor
