/- The program of layer 6: sines. -/
import Derived.Test.YtndcjldnnfhedaaDoorTsa
import Derived.Test.YtndcjldnnfhedaaDoorPld
import Derived.Test.YtndcjldnnfhedaaDoorTra
import Derived.Test.YtndcjldnnfhedaaDoorRows
import Derived.Lib.LaidTab
import Derived.Stop.LaidErr
/- Trig: the program's sine of one angle, and small functions. -/
namespace Go.Proofs.YtndcjldnnfhedaaDoor
open Go.RowKit
set_option linter.unusedVariables false
set_option maxRecDepth 100000

theorem tmodT (n : Int) : (n.tmod 21600000 < 0 → n.tmod 21600000 + 21600000 = n % 21600000) ∧ (¬ n.tmod 21600000 < 0 → n.tmod 21600000 = n % 21600000) ∧ -21600000 < n.tmod 21600000 ∧ n.tmod 21600000 < 21600000 := by
  have e := Int.tmod_add_mul_tdiv n 21600000
  have b1 := Int.tmod_lt_of_pos n (show (0 : Int) < 21600000 by omega)
  have b2 := Int.lt_tmod_of_pos n (show (0 : Int) < 21600000 by omega)
  generalize n.tmod 21600000 = r at *
  generalize n.tdiv 21600000 = q at *
  omega

theorem pWrap (n : Int) (w : World) :
    Calls Tryd.prog 56 #[.int .i64 n] w fun e w' => e = .returned (.int .i64 (wrapN n)) ∧ w' = w := by
  obtain ⟨m1, m2, m3, m4⟩ := tmodT n
  unfold wrapN
  generalize n % 21600000 = v at *
  obtain ⟨r, hr⟩ : ∃ r, n.tmod 21600000 = r := ⟨_, rfl⟩
  rw [hr] at m1 m2 m3 m4
  by_cases h : r < 0
  · have E := Lib.hid (m1 h)
    clear m1 m2
    go_enter Tryd.func56, Tryd.ntmps56
    go_wp2
    go_ret
    exact ⟨ret_int (by have := E.out; go_num), rfl⟩
  · have E := Lib.hid (m2 h)
    clear m1 m2
    go_enter Tryd.func56, Tryd.ntmps56
    go_wp2
    go_ret
    exact ⟨ret_int (by have := E.out; go_num), rfl⟩

theorem pValid (a b : Int) (w : World) :
    Calls Tryd.prog 42 #[.agg #[.int .i64 a, .int .i64 b]] w fun e w' => e = .returned (.bool (aok a b)) ∧ Below w.heap.size w w' := by
  obtain ⟨a0, a1, af0, af1, alt⟩ := At2.new w (.int .i64 a) (.int .i64 b) 25
  unfold aok
  by_cases c1 : -1099511627776 ≤ a
  · by_cases c2 : a ≤ b
    · by_cases c3 : b ≤ 1099511627776
      · rw [decide_eq_true (show -1099511627776 ≤ a ∧ b ≤ 1099511627776 ∧ a ≤ b by omega)]
        go_enter Tryd.func42, Tryd.ntmps42
        go_wp2
        go_ret
        exact ⟨rfl, below1 _ _⟩
      · rw [decide_eq_false (show ¬ (-1099511627776 ≤ a ∧ b ≤ 1099511627776 ∧ a ≤ b) by omega)]
        go_enter Tryd.func42, Tryd.ntmps42
        go_wp2
        go_ret
        exact ⟨rfl, below1 _ _⟩
    · rw [decide_eq_false (show ¬ (-1099511627776 ≤ a ∧ b ≤ 1099511627776 ∧ a ≤ b) by omega)]
      go_enter Tryd.func42, Tryd.ntmps42
      go_wp2
      go_ret
      exact ⟨rfl, below1 _ _⟩
  · rw [decide_eq_false (show ¬ (-1099511627776 ≤ a ∧ b ≤ 1099511627776 ∧ a ≤ b) by omega)]
    go_enter Tryd.func42, Tryd.ntmps42
    go_wp2
    go_ret
    exact ⟨rfl, below1 _ _⟩

theorem pValid_is (a b : Int) (r : Bool) (h : aok a b = r) (w : World) :
    Calls Tryd.prog 42 #[.agg #[.int .i64 a, .int .i64 b]] w fun e w' => e = .returned (.bool r) ∧ Below w.heap.size w w' := h ▸ pValid a b w
theorem upD_in (m : Int) (h0 : 0 ≤ m) (h1 : m ≤ 5400000) : 0 ≤ L6.upD m ∧ L6.upD m ≤ 1073741824 ∧ 0 ≤ L6.upU m ∧ L6.upU m ≤ 1073741824 := by
  unfold L6.upD L6.upU
  by_cases c : m = 0
  · rw [if_pos c, if_pos c]; omega
  · rw [if_neg c, if_neg c]
    by_cases c1 : m = 1800000
    · rw [if_pos c1, if_pos c1]; omega
    · rw [if_neg c1, if_neg c1]
      by_cases c2 : m = 5400000
      · rw [if_pos c2, if_pos c2]; omega
      · rw [if_neg c2, if_neg c2]
        have := irr_lt m.toNat (by omega)
        generalize L6.irr m.toNat = q at *
        omega
theorem pUpper (d m : Int) (hm : min d (10800000 - d) = m) (h0 : 0 ≤ d) (h1 : d ≤ 10800000) (w : World) (H : Held w) :
    Calls Tryd.prog 85 #[.int .i64 d] w fun e w' => e = .returned (.tuple #[.int .i64 (L6.upD m), .int .i64 (L6.upU m)]) ∧ Below w.heap.size w w' := by
  have m0 : 0 ≤ m := by omega
  have m1 : m ≤ 5400000 := by omega
  unfold L6.upD L6.upU
  by_cases c : m = 0
  · rw [if_pos c, if_pos c]
    go_enter Tryd.func85, Tryd.ntmps85
    go_wp2
    go_ret2
    exact ⟨rfl, Below.refl _ _⟩
  · rw [if_neg c, if_neg c]
    by_cases c1 : m = 1800000
    · rw [if_pos c1, if_pos c1]
      go_enter Tryd.func85, Tryd.ntmps85
      go_wp2
      go_ret2
      exact ⟨rfl, Below.refl _ _⟩
    · rw [if_neg c1, if_neg c1]
      by_cases c2 : m = 5400000
      · rw [if_pos c2, if_pos c2]
        go_enter Tryd.func85, Tryd.ntmps85
        go_wp2
        go_ret2
        exact ⟨rfl, Below.refl _ _⟩
      · rw [if_neg c2, if_neg c2]
        have C0 := Lib.hid (fun (wx : World) (hb : Below w.heap.size w wx) => irr_any m (by omega) (by omega) wx (H.keep hb))
        have L := (irr_lt m.toNat (by omega)).resolve_right (by omega)
        have eq : hb (L6.irr m.toNat) / 17179869184 = ((L6.irr m.toNat / 316912650057057350374175801344 : Nat) : Int) := by unfold hb; omega
        have u1 : hb (L6.irr m.toNat) < 18446744073709551616 := by unfold hb; omega
        have u0 : 0 ≤ hb (L6.irr m.toNat) := by unfold hb; omega
        have q1 : ((L6.irr m.toNat / 316912650057057350374175801344 : Nat) : Int) < 1073741824 := by omega
        have q0 : (0 : Int) ≤ ((L6.irr m.toNat / 316912650057057350374175801344 : Nat) : Int) := by omega
        generalize ((L6.irr m.toNat / 316912650057057350374175801344 : Nat) : Int) = q at *
        have wq : IntKind.i64.wrap q = q := by rw [IntKind.wrap_i64]; omega
        generalize hb (L6.irr m.toNat) = u at *
        generalize lb (L6.irr m.toNat) = v at *
        have hix : ∀ (wx : World), (Instr.index 100 (.agg #[.int .u64 u, .int .u64 v]) (.int .i64 0)).run Tryd.prog wx = .ok (.int .u64 u) wx := fun _ => rfl
        clear L H
        go_enter Tryd.func85, Tryd.ntmps85
        go_wp2_with fail
        refine (C0.out _ (Below.refl _ _)).mono ?_
        rintro e w1 ⟨rfl, hb⟩
        go_wp2_with fail
        go_ret2
        exact ⟨rfl, hb⟩
theorem pSine (n : Int) (w : World) (H : Held w) :
    Calls Tryd.prog 61 #[.int .i64 n] w fun e w' => e = .returned (.tuple #[.int .i64 (L6.lo n), .int .i64 (L6.hi n)]) ∧ Below w.heap.size w w' := by
  obtain ⟨f1, f2⟩ := L6.up_eq n
  obtain ⟨b1, b2, b3, b4⟩ := L6.dirM_in n
  have m := L6.m_in n
  have C0 := Lib.hid (fun (wx : World) => pWrap n wx)
  rw [show wrapN n = L6.mT n from rfl] at C0
  obtain ⟨i1, i2, i3, i4⟩ := upD_in (L6.dirM n) b1 b2
  by_cases c : L6.mT n < 10800000
  · have e : L6.dirH n = L6.mT n := by unfold L6.dirH; rw [if_neg (by omega)]
    have C1 := Lib.hid (fun (wx : World) (hb : Below w.heap.size w wx) => pUpper (L6.mT n) (L6.dirM n) (by unfold L6.dirM; rw [e]) m.1 (by omega) wx (H.keep hb))
    rw [(f1 c).1, (f1 c).2]
    clear f1 f2 e b1 b2 b3 b4
    obtain ⟨m1, m2⟩ := m
    generalize L6.upD (L6.dirM n) = u at *
    generalize L6.upU (L6.dirM n) = v at *
    generalize L6.mT n = t at *
    clear H
    go_enter Tryd.func61, Tryd.ntmps61
    go_wp2_with fail
    refine (C0.out _).mono ?_
    rintro e w1 ⟨rfl, rfl⟩
    go_wp2_with fail
    refine (C1.out _ (Below.refl _ _)).mono ?_
    rintro e w2 ⟨rfl, hb⟩
    go_wp2_with fail
    go_ret2
    exact ⟨rfl, hb⟩
  · have e : L6.dirH n = L6.mT n - 10800000 := by unfold L6.dirH; rw [if_pos (by omega)]
    have C1 := Lib.hid (fun (wx : World) (hb : Below w.heap.size w wx) => pUpper (L6.mT n - 10800000) (L6.dirM n) (by unfold L6.dirM; rw [e]) (by omega) (by omega) wx (H.keep hb))
    rw [(f2 (by omega)).1, (f2 (by omega)).2]
    clear f1 f2 e b1 b2 b3 b4
    obtain ⟨m1, m2⟩ := m
    generalize L6.upD (L6.dirM n) = u at *
    generalize L6.upU (L6.dirM n) = v at *
    generalize L6.mT n = t at *
    clear H
    go_enter Tryd.func61, Tryd.ntmps61
    go_wp2_with fail
    refine (C0.out _).mono ?_
    rintro e w1 ⟨rfl, rfl⟩
    go_wp2_with fail
    refine (C1.out _ (Below.refl _ _)).mono ?_
    rintro e w2 ⟨rfl, hb⟩
    go_wp2_with fail
    go_ret2
    exact ⟨rfl, hb⟩
end Go.Proofs.YtndcjldnnfhedaaDoor

/- Trig: the program's sine over an arc. -/
namespace Go.Proofs.YtndcjldnnfhedaaDoor
open Go.RowKit
set_option linter.unusedVariables false
set_option maxRecDepth 100000

/-- the memory of 'over': the arc, the result -/
structure OvM (w : World) (a b : Int) (wx : World) : Prop where
  A : At2 wx w.heap.size (.int .i64 a) (.int .i64 b)
  R : At2 wx (w.heap.size + 1) (.int .i64 0) (.int .i64 0)
  B : Below w.heap.size w wx
theorem OvM.keep {w w1 w2 : World} {a b : Int} (h : OvM w a b w1) (hb : Below w1.heap.size w1 w2) : OvM w a b w2 := ⟨h.A.keep hb, h.R.keep hb, bstep h.B hb⟩
theorem OvM.al {w w1 : World} {a b : Int} (h : OvM w a b w1) (o : Obj) : OvM w a b (w1.alloc o) := h.keep (below1 _ _)
theorem OvM.dr {w w1 : World} {a b : Int} (h : OvM w a b w1) : OvM w a b w1.drew := h.keep (Below.refl _ _).drew
theorem OvM.far {w w1 : World} {a b : Int} {c : Nat} (h : OvM w a b w1) (hc : w.heap.size + 1 < c) (u v : Value) : OvM w a b ((w1.setCell ⟨c, 0, none⟩ u).setCell ⟨c, 1, none⟩ v) :=
  ⟨h.A.far (by omega) u v, h.R.far (by omega) u v, below_set2 h.B (by omega) u v⟩
theorem OvM.new (w : World) (a b : Int) : OvM w a b ((w.alloc (.cells #[.int .i64 a, .int .i64 b] 25)).alloc (.cells #[.int .i64 0, .int .i64 0] 23)) := by
  obtain ⟨A, R⟩ := At2.two w (.int .i64 a) (.int .i64 b) (.int .i64 0) (.int .i64 0) 25 23
  exact ⟨A, R, below2 w _ _⟩
theorem At2.dw {w : World} {b : Nat} {x y : Value} (h : At2 w b x y) : At2 w.drew b x y := h.keep (Below.refl _ _).drew

end Go.Proofs.YtndcjldnnfhedaaDoor

/- Trig: the contracts of Sin, Cos, Haversine, Below. -/
namespace Go.Proofs.YtndcjldnnfhedaaDoor
open Go.RowKit
set_option linter.unusedVariables false
set_option maxRecDepth 100000

end Go.Proofs.YtndcjldnnfhedaaDoor

/- Trig: the contracts of Haversine and Below: all that is asked of the program. -/
namespace Go.Proofs.YtndcjldnnfhedaaDoor
open Go.RowKit
set_option linter.unusedVariables false
set_option maxRecDepth 100000

theorem has_q (a b : Int) : L6.has (a + 5400000) (b + 5400000) 5400000 = L6.has a b 0 ∧ L6.has (a + 5400000) (b + 5400000) (-5400000) = L6.has a b 10800000 := by
  unfold L6.has
  constructor
  · exact decide_eq_decide.2 (by omega)
  · exact decide_eq_decide.2 (by omega)
theorem fl_even (n : Int) (h : L6.ex n = true) : L6.fl n % 2 = 0 := by
  unfold L6.fl
  rw [if_pos h]
  unfold L6.exV
  split
  · decide
  · split
    · decide
    · split
      · decide
      · split <;> decide
theorem hv_eq (n : Int) : hvL n = (1073741824 - L6.hi (n + 5400000)) / 2 ∧ hvH n = (1073741824 - L6.lo (n + 5400000) + 1) / 2 := by
  unfold hvL hvH L6.hi L6.lo
  by_cases h : L6.ex (n + 5400000) = true
  · have := fl_even _ h
    rw [if_pos h, if_pos h, if_pos h]
    omega
  · rw [if_neg h, if_neg h, if_neg h]
    omega
theorem hav_eq (a b : Int) (a1 : -1099511627776 ≤ a) (b1 : b ≤ 1099511627776) (ab : a ≤ b) :
    hL a b = (1073741824 - L6.sH (a + 5400000) (b + 5400000)).tdiv 2 ∧ hH a b = (1073741824 - L6.sL (a + 5400000) (b + 5400000) + 1).tdiv 2 ∧
    -1073741824 ≤ L6.sL (a + 5400000) (b + 5400000) ∧ L6.sL (a + 5400000) (b + 5400000) ≤ 1073741824 ∧ -1073741824 ≤ L6.sH (a + 5400000) (b + 5400000) ∧ L6.sH (a + 5400000) (b + 5400000) ≤ 1073741824 := by
  have okk : ∀ n, a + 5400000 ≤ n → n ≤ b + 5400000 → L6.Ok n := fun n h1 h2 => by unfold L6.Ok; omega
  obtain ⟨l1, l2⟩ := L6.lo_hi_in (a + 5400000) (okk _ (by omega) (by omega))
  obtain ⟨k1, k2⟩ := L6.lo_hi_in (b + 5400000) (okk _ (by omega) (by omega))
  have e1 : L6.lo (a + 5400000) ≤ L6.hi (a + 5400000) := by unfold L6.lo L6.hi; split <;> omega
  have e2 : L6.lo (b + 5400000) ≤ L6.hi (b + 5400000) := by unfold L6.lo L6.hi; split <;> omega
  obtain ⟨q1, q2⟩ := has_q a b
  obtain ⟨u1, u2⟩ := hv_eq a
  obtain ⟨v1, v2⟩ := hv_eq b
  have S : -1073741824 ≤ L6.sL (a + 5400000) (b + 5400000) ∧ L6.sL (a + 5400000) (b + 5400000) ≤ 1073741824 := by unfold L6.sL; split <;> omega
  have T : -1073741824 ≤ L6.sH (a + 5400000) (b + 5400000) ∧ L6.sH (a + 5400000) (b + 5400000) ≤ 1073741824 := by unfold L6.sH; split <;> omega
  refine ⟨?_, ?_, S.1, S.2, T.1, T.2⟩
  · rw [Int.tdiv_eq_ediv_of_nonneg (by omega)]
    unfold hL L6.sH
    rw [q1]
    split
    · rfl
    · omega
  · rw [Int.tdiv_eq_ediv_of_nonneg (by omega)]
    unfold hH L6.sL
    rw [q2]
    split
    · rfl
    · omega
theorem or_any (x y r : Int) (g : Nat) (w : World) (c0 : w.cell? ⟨g, 0, none⟩ = some (.int .i64 x)) (c1 : w.cell? ⟨g, 1, none⟩ = some (.int .i64 y)) (h1 : x ≠ 0 → r = x) (h2 : x = 0 → r = y) :
    Calls Tryd.prog 58 #[.slice (some ⟨g, 0, none⟩) 2 2] w fun e w' => e = .returned (.int .i64 r) ∧ w' = w := by
  have h1 := Lib.hid h1
  have h2 := Lib.hid h2
  go_enter Tryd.func58, Tryd.ntmps58
  go_wp2_with fail
  go_loopg [8] 2 (fun m v8 wr => ∃ j : Nat, m = 2 - j ∧ v8 = .int .i64 (j : Int) ∧ Hid (j ≤ 2) ∧ Hid (1 ≤ j → x = 0) ∧ Hid (2 ≤ j → y = 0) ∧ w = wr)
  case atStart => exact ⟨0, rfl, rfl, Nat.zero_le _, fun h => absurd h (by omega), fun h => absurd h (by omega), rfl⟩
  case round =>
    obtain ⟨j, hm, rfl, HJ, HX, HY, rfl⟩ := hrel
    have HG := Lib.hid hm
    clear hm
    rcases (show j = 0 ∨ j = 1 ∨ j = 2 by have := HJ.out; omega) with rfl | rfl | rfl
    · by_cases c : x = 0
      · have HX := Lib.hid c
        subst c
        go_wp2_with fail
        go_roundg 1
        case measure => have := HG.out; omega
        case rel => exact ⟨1, rfl, rfl, by show _ ≤ _; omega, by first | exact fun _ => rfl | exact fun _ => trivial, fun h => absurd h (by omega), by first | rfl | trivial⟩
      · have e := h1.out c
        go_wp2_with fail
        go_ret
        exact ⟨ret_int e.symm, rfl⟩
    · have z := HX.out (by omega)
      have e := h2.out z
      by_cases c : y = 0
      · have HZ := Lib.hid z
        clear e z
        subst c
        go_wp2_with fail
        go_roundg 0
        case measure => have := HG.out; omega
        case rel => exact ⟨2, rfl, rfl, by show _ ≤ _; omega, fun _ => HZ.out, by first | exact fun _ => rfl | exact fun _ => trivial, by first | rfl | trivial⟩
      · clear z
        go_wp2_with fail
        go_ret
        exact ⟨ret_int e.symm, rfl⟩
    · have z := HX.out (by omega)
      have e := h2.out z
      have f := HY.out (by omega)
      have e := Lib.hid (e.trans f)
      clear z f
      go_wp2_with fail
      go_ret
      exact ⟨ret_int e.out.symm, rfl⟩
theorem pBelow (n v : Int) (w : World) (H : Held w) (n1 : I64 n) (v1 : I64 v) :
    Calls Tryd.prog 50 #[.int .i64 n, .int .i64 v] w fun e w' => e = .returned (.int .i64 (blN n v)) ∧ Below w.heap.size w w' := by
  have C0 := Lib.hid (fun (wx : World) => pSine n wx)
  have C0 := Lib.hid (pSine n w H)
  obtain ⟨l1, l2⟩ : -1073741824 ≤ L6.lo n ∧ L6.hi n ≤ 1073741824 := by
    obtain ⟨f1, f2⟩ := L6.up_eq n
    obtain ⟨b1, b2, b3, b4⟩ := L6.dirM_in n
    obtain ⟨i1, i2, i3, i4⟩ := upD_in (L6.dirM n) b1 b2
    by_cases c : L6.mT n < 10800000
    · rw [(f1 c).1, (f1 c).2]; omega
    · rw [(f2 (by omega)).1, (f2 (by omega)).2]; omega
  have C1 := Lib.hid (fun (wx : World) => Tryd.cmp_Compare_int (L6.lo n) v wx)
  have key : (Lib.compareInt (L6.lo n) v ≠ 0 → blN n v = Lib.compareInt (L6.lo n) v) ∧ (Lib.compareInt (L6.lo n) v = 0 → blN n v = L6.hi n - L6.lo n) ∧ L6.lo n ≤ L6.hi n ∧ L6.hi n ≤ L6.lo n + 1 := by
    have cl : L6.lo n < v → Lib.compareInt (L6.lo n) v = -1 := fun h => by unfold Lib.compareInt; rw [if_pos h]
    have ce : L6.lo n = v → Lib.compareInt (L6.lo n) v = 0 := fun h => by unfold Lib.compareInt; rw [if_neg (by omega), if_neg (by omega)]
    have cg : v < L6.lo n → Lib.compareInt (L6.lo n) v = 1 := fun h => by unfold Lib.compareInt; rw [if_neg (by omega), if_pos (by omega)]
    have e : L6.lo n = L6.fl n := rfl
    rw [e] at cl ce cg ⊢
    unfold blN L6.hi
    rcases (show L6.fl n < v ∨ L6.fl n = v ∨ v < L6.fl n by omega) with h | h | h
    · rw [cl h, if_neg (fun k => by have := k.2; omega), if_neg (by omega)]
      refine ⟨fun _ => rfl, fun k => absurd k (by decide), ?_, ?_⟩ <;> split <;> omega
    · rw [ce h]
      by_cases x : L6.ex n = true
      · rw [if_pos ⟨x, h⟩, if_pos x]; omega
      · rw [if_neg (fun k => x k.1), if_neg x, if_pos (by omega)]; omega
    · rw [cg h, if_neg (fun k => by have := k.2; omega), if_pos (by omega)]
      refine ⟨fun _ => rfl, fun k => absurd k (by decide), ?_, ?_⟩ <;> split <;> omega
  obtain ⟨k1, k2, k3, k4⟩ := key
  generalize L6.lo n = lo at *
  generalize L6.hi n = hi at *
  generalize Lib.compareInt lo v = c at *
  generalize blN n v = r at *
  obtain ⟨d, hd⟩ : ∃ d, hi - lo = d := ⟨_, rfl⟩
  have d1 : 0 ≤ d := by omega
  have d2 : d ≤ 1 := by omega
  rw [hd] at k2
  have C2 := Lib.hid (fun (g : Nat) (wx : World) c0 c1 => or_any c d r g wx c0 c1 k1 k2)
  clear k1 k2 H
  go_enter Tryd.func50, Tryd.ntmps50
  go_wp2_with fail
  refine C0.out.mono ?_
  rintro e w1 ⟨rfl, hb⟩
  have HB := Lib.hid hb
  clear hb
  go_wp2_with fail
  refine (C1.out _).mono ?_
  rintro e w2 ⟨rfl, rfl⟩
  go_wp2_with fail
  have N := At2.new w2 (.int .i64 c) (.int .i64 d) 3
  have HB := Lib.hid (bstep HB.out (below1 w2 (.cells #[.int .i64 c, .int .i64 d] 3)))
  refine (C2.out _ _ N.c0 N.c1).mono ?_
  rintro e w3 ⟨rfl, rfl⟩
  go_wp2_with fail
  go_ret
  exact ⟨rfl, HB.out⟩
/-- all that is asked of the program -/
theorem trProg (w : World) (H : Held w) : TrProg w where
  below := fun n v wx hb n1 v1 => pBelow n v wx (H.keep hb) n1 v1
end Go.Proofs.YtndcjldnnfhedaaDoor

/- Trig: the listed tables, as the walks read them. -/
namespace Go.Proofs.YtndcjldnnfhedaaDoor
open Go.RowKit Go.Lib
set_option linter.unusedVariables false
set_option maxRecDepth 100000

/-- an array of arrays of integers, as the memory holds it -/
theorem cells_of_tab2 {H : Type} {enc : TypeId × Value → H} {P : Program} {w : World} {base : Nat} {sp : Nat → Bool} {held : Bool} {fuel : Nat} {t e f : TypeId} {n m : Nat} {k : IntKind} {cs : List Value} {zss : List (List Int)} {p : List MemPlace}
    (ht : P.underlying t = some (.array n e)) (he : P.underlying e = some (.array m f)) (hf : P.underlying f = some (.int k)) (hcf : P.cellsOf f = 1) (hce : P.cellsOf e = m)
    (h : DataW.trod enc P w base sp held fuel t cs = some (.agg (zss.map fun zs => tabData k zs), p)) (i : Nat) (hi : i < n) (zs : List Int) (hz : zss[i]? = some zs) : (cs.drop (i * m)).take m = zs.map fun z => Value.int k z := by
  cases fuel with
  | zero => simp [DataW.trod] at h
  | succ fuel =>
    simp only [DataW.trod, ht, hce] at h
    split at h
    · obtain ⟨xs, hm, hx⟩ := Option.map_eq_some_iff.1 h
      have hxs : xs.map (·.1) = zss.map fun zs => (tabData k zs : DataW H) := by
        have := congrArg Prod.fst hx
        simpa using this
      obtain ⟨b, hb, hq⟩ := mapM_at hm i i (by simp [hi])
      have h2 : (xs.map (·.1))[i]? = some b.1 := by simp [hb]
      rw [hxs] at h2
      simp only [List.getElem?_map, hz, Option.map_some, Option.some.injEq] at h2
      exact cells_of_tab he hf hcf hce (p := b.2) (by rw [hq, h2])
    · cases h
def invs : List (List Int) := [
  [9223372036854775808, 0],
  [3074457345618258602, 12297829382473034410],
  [768614336404564650, 12297829382473034410],
  [153722867280912930, 2459565876494606882],
  [25620477880152155, 409927646082434480],
  [3660068268593165, 58561092297490640],
  [457508533574145, 11536535182605656090],
  [50834281508238, 7430751933748256770],
  [5083428150823, 15500470452342466969],
  [462129831893, 1409133677485678815],
  [38510819324, 7803571170502786407],
  [2962370717, 4857215645510110865],
  [211597908, 6935066858146990638],
  [14106527, 4151686605285043032],
  [881657, 17553302981933019829],
  [51862, 4287855011944804392],
  [2881, 4337490628154611714],
  [151, 11878864184877327952],
  [7, 10739652449784119786],
  [0, 6660326712654808623],
  [0, 302742123302491301],
  [0, 13162701013151795],
  [0, 548445875547991],
  [0, 21937835021919],
  [0, 843762885458],
  [0, 31250477239],
  [0, 1116088472],
  [0, 38485809]]
theorem invs_is : ∀ i, i < 28 → invs[i]? = some [hb (L6.cf i), lb (L6.cf i)] := by decide +kernel
theorem heldOf (W : World) (h : laidMet Tryd.prog [("almucantar/digits.radian", Rows.laid_almucantar_digits_radian), ("almucantar/digits.inverses", Rows.laid_almucantar_digits_inverses)] W) : Held W := by
  have r : TabIs Tryd.prog W "almucantar/digits.radian" .u64 [5365940339316, 7144251595963602554] :=
    tabIs_of_head (g := 3) (by kernel_rfl) (by kernel_rfl) (t := 100) Tryd.underlying100 Tryd.underlying89 (by kernel_rfl) (by kernel_rfl) h
  have h1 : laidMet Tryd.prog [("almucantar/digits.inverses", .agg (invs.map fun zs => tabData .u64 zs))] W := h.tail
  obtain ⟨ps, ⟨g', t', cs, fuel, p, q, hg', ht', hvar, hd, _, _⟩, _⟩ := h1
  obtain rfl := Option.some.inj ((show Tryd.prog.globalNamed "almucantar/digits.inverses" = some 4 by kernel_rfl).symm.trans hg')
  obtain rfl := Option.some.inj ((show (Tryd.prog.globals[4]?).map (·.type) = some 139 by kernel_rfl).symm.trans ht')
  have key : ∀ i, i < 28 → (cs.toList.drop (i * 2)).take 2 = [Value.int .u64 (hb (L6.cf i)), Value.int .u64 (lb (L6.cf i))] := fun i hi =>
    cells_of_tab2 Tryd.underlying139 Tryd.underlying100 Tryd.underlying89 (by kernel_rfl) (by kernel_rfl) hd i hi _ (invs_is i hi)
  refine ⟨r.cell (by kernel_rfl) 0 (by decide), r.cell (by kernel_rfl) 1 (by decide), fun i hi => ?_, fun i hi => ?_⟩
  · rw [World.var?_cell (show Tryd.prog.globalNamed "almucantar/digits.inverses" = some 4 by kernel_rfl) hvar (i * 2)]
    have := congrArg (·[0]?) (key i hi)
    simpa [List.getElem?_take, List.getElem?_drop] using this
  · rw [World.var?_cell (show Tryd.prog.globalNamed "almucantar/digits.inverses" = some 4 by kernel_rfl) hvar (i * 2 + 1)]
    have := congrArg (·[1]?) (key i hi)
    simpa [List.getElem?_take, List.getElem?_drop] using this
end Go.Proofs.YtndcjldnnfhedaaDoor
