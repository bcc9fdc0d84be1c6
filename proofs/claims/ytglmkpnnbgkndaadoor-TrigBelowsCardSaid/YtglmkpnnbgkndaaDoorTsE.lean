/- Trig: the program's sine of one angle, and small functions. -/
import Derived.Test.YtglmkpnnbgkndaaDoorTsD
import Derived.Test.YtglmkpnnbgkndaaDoorTg19
import Derived.Test.YtglmkpnnbgkndaaDoorTrG
namespace Go.Proofs.YtglmkpnnbgkndaaDoor
open Go.RowKit
set_option linter.unusedVariables false
set_option maxRecDepth 100000

theorem tmodT (n : Int) : (n.tmod 21600000 < 0 → n.tmod 21600000 + 21600000 = n % 21600000) ∧ (¬ n.tmod 21600000 < 0 → n.tmod 21600000 = n % 21600000) ∧ -21600000 < n.tmod 21600000 ∧ n.tmod 21600000 < 21600000 := by
  have e := Int.tmod_add_mul_tdiv n 21600000
  have b1 := Int.tmod_lt_of_pos n (show (0 : Int) < 21600000 by omega)
  have b2 := Int.lt_tmod_of_pos n (show (0 : Int) < 21600000 by omega)
  generalize n.tmod 21600000 = r at *
  generalize n.tdiv 21600000 = q at *
  omega

theorem pWrap (n : Int) (w : World) :
    Calls Tryd.prog 48 #[.int .i64 n] w fun e w' => e = .returned (.int .i64 (wrapN n)) ∧ w' = w := by
  obtain ⟨m1, m2, m3, m4⟩ := tmodT n
  unfold wrapN
  generalize n % 21600000 = v at *
  obtain ⟨r, hr⟩ : ∃ r, n.tmod 21600000 = r := ⟨_, rfl⟩
  rw [hr] at m1 m2 m3 m4
  by_cases h : r < 0
  · have E := Lib.hid (m1 h)
    clear m1 m2
    go_enter Tryd.func48, Tryd.ntmps48
    go_wp2
    go_ret
    exact ⟨ret_int (by have := E.out; go_num), rfl⟩
  · have E := Lib.hid (m2 h)
    clear m1 m2
    go_enter Tryd.func48, Tryd.ntmps48
    go_wp2
    go_ret
    exact ⟨ret_int (by have := E.out; go_num), rfl⟩

theorem pValid (a b : Int) (w : World) :
    Calls Tryd.prog 32 #[.agg #[.int .i64 a, .int .i64 b]] w fun e w' => e = .returned (.bool (aok a b)) ∧ Below w.heap.size w w' := by
  obtain ⟨a0, a1, af0, af1, alt⟩ := At2.new w (.int .i64 a) (.int .i64 b) 23
  unfold aok
  by_cases c1 : -1099511627776 ≤ a
  · by_cases c2 : a ≤ b
    · by_cases c3 : b ≤ 1099511627776
      · rw [decide_eq_true (show -1099511627776 ≤ a ∧ b ≤ 1099511627776 ∧ a ≤ b by omega)]
        go_enter Tryd.func32, Tryd.ntmps32
        go_wp2
        go_ret
        exact ⟨rfl, below1 _ _⟩
      · rw [decide_eq_false (show ¬ (-1099511627776 ≤ a ∧ b ≤ 1099511627776 ∧ a ≤ b) by omega)]
        go_enter Tryd.func32, Tryd.ntmps32
        go_wp2
        go_ret
        exact ⟨rfl, below1 _ _⟩
    · rw [decide_eq_false (show ¬ (-1099511627776 ≤ a ∧ b ≤ 1099511627776 ∧ a ≤ b) by omega)]
      go_enter Tryd.func32, Tryd.ntmps32
      go_wp2
      go_ret
      exact ⟨rfl, below1 _ _⟩
  · rw [decide_eq_false (show ¬ (-1099511627776 ≤ a ∧ b ≤ 1099511627776 ∧ a ≤ b) by omega)]
    go_enter Tryd.func32, Tryd.ntmps32
    go_wp2
    go_ret
    exact ⟨rfl, below1 _ _⟩

theorem pValid_is (a b : Int) (r : Bool) (h : aok a b = r) (w : World) :
    Calls Tryd.prog 32 #[.agg #[.int .i64 a, .int .i64 b]] w fun e w' => e = .returned (.bool r) ∧ Below w.heap.size w w' := h ▸ pValid a b w
theorem upD_in (m : Int) (h0 : 0 ≤ m) (h1 : m ≤ 5400000) : 0 ≤ L6.upD m ∧ L6.upD m ≤ 1073741824 ∧ 0 ≤ L6.upU m ∧ L6.upU m ≤ 1073741824 := by
  unfold L6.upD L6.upU
  by_cases c : m = 0
  · rw [if_pos c, if_pos c]; omega
  · rw [if_neg c, if_neg c]
    by_cases c1 : m = 1800000
    · rw [if_pos c1, if_pos c1]; omega
    · rw [if_neg c1, if_neg c1]
      by_cases c2 : m = 5400000
      · rw [if_pos c2, if_pos c2]; omega
      · rw [if_neg c2, if_neg c2]
        have := irr_lt m.toNat (by omega)
        generalize L6.irr m.toNat = q at *
        omega
theorem pUpper (d m : Int) (hm : min d (10800000 - d) = m) (h0 : 0 ≤ d) (h1 : d ≤ 10800000) (w : World) (H : Held w) :
    Calls Tryd.prog 50 #[.int .i64 d] w fun e w' => e = .returned (.tuple #[.int .i64 (L6.upD m), .int .i64 (L6.upU m)]) ∧ Below w.heap.size w w' := by
  have m0 : 0 ≤ m := by omega
  have m1 : m ≤ 5400000 := by omega
  unfold L6.upD L6.upU
  by_cases c : m = 0
  · rw [if_pos c, if_pos c]
    go_enter Tryd.func50, Tryd.ntmps50
    go_wp2
    go_ret2
    exact ⟨rfl, Below.refl _ _⟩
  · rw [if_neg c, if_neg c]
    by_cases c1 : m = 1800000
    · rw [if_pos c1, if_pos c1]
      go_enter Tryd.func50, Tryd.ntmps50
      go_wp2
      go_ret2
      exact ⟨rfl, Below.refl _ _⟩
    · rw [if_neg c1, if_neg c1]
      by_cases c2 : m = 5400000
      · rw [if_pos c2, if_pos c2]
        go_enter Tryd.func50, Tryd.ntmps50
        go_wp2
        go_ret2
        exact ⟨rfl, Below.refl _ _⟩
      · rw [if_neg c2, if_neg c2]
        have C0 := Lib.hid (fun (wx : World) (hb : Below w.heap.size w wx) => irr_any m (by omega) (by omega) wx (H.keep hb))
        have L := (irr_lt m.toNat (by omega)).resolve_right (by omega)
        have eq : hb (L6.irr m.toNat) / 17179869184 = ((L6.irr m.toNat / 316912650057057350374175801344 : Nat) : Int) := by unfold hb; omega
        have u1 : hb (L6.irr m.toNat) < 18446744073709551616 := by unfold hb; omega
        have u0 : 0 ≤ hb (L6.irr m.toNat) := by unfold hb; omega
        have q1 : ((L6.irr m.toNat / 316912650057057350374175801344 : Nat) : Int) < 1073741824 := by omega
        have q0 : (0 : Int) ≤ ((L6.irr m.toNat / 316912650057057350374175801344 : Nat) : Int) := by omega
        generalize ((L6.irr m.toNat / 316912650057057350374175801344 : Nat) : Int) = q at *
        have wq : IntKind.i64.wrap q = q := by rw [IntKind.wrap_i64]; omega
        generalize hb (L6.irr m.toNat) = u at *
        generalize lb (L6.irr m.toNat) = v at *
        have hix : ∀ (wx : World), (Instr.index 74 (.agg #[.int .u64 u, .int .u64 v]) (.int .i64 0)).run Tryd.prog wx = .ok (.int .u64 u) wx := fun _ => rfl
        clear L H
        go_enter Tryd.func50, Tryd.ntmps50
        go_wp2_with fail
        refine (C0.out _ (Below.refl _ _)).mono ?_
        rintro e w1 ⟨rfl, hb⟩
        go_wp2_with fail
        go_ret2
        exact ⟨rfl, hb⟩
theorem pSine (n : Int) (w : World) (H : Held w) :
    Calls Tryd.prog 37 #[.int .i64 n] w fun e w' => e = .returned (.tuple #[.int .i64 (L6.lo n), .int .i64 (L6.hi n)]) ∧ Below w.heap.size w w' := by
  obtain ⟨f1, f2⟩ := L6.up_eq n
  obtain ⟨b1, b2, b3, b4⟩ := L6.dirM_in n
  have m := L6.m_in n
  have C0 := Lib.hid (fun (wx : World) => pWrap n wx)
  rw [show wrapN n = L6.mT n from rfl] at C0
  obtain ⟨i1, i2, i3, i4⟩ := upD_in (L6.dirM n) b1 b2
  by_cases c : L6.mT n < 10800000
  · have e : L6.dirH n = L6.mT n := by unfold L6.dirH; rw [if_neg (by omega)]
    have C1 := Lib.hid (fun (wx : World) (hb : Below w.heap.size w wx) => pUpper (L6.mT n) (L6.dirM n) (by unfold L6.dirM; rw [e]) m.1 (by omega) wx (H.keep hb))
    rw [(f1 c).1, (f1 c).2]
    clear f1 f2 e b1 b2 b3 b4
    obtain ⟨m1, m2⟩ := m
    generalize L6.upD (L6.dirM n) = u at *
    generalize L6.upU (L6.dirM n) = v at *
    generalize L6.mT n = t at *
    clear H
    go_enter Tryd.func37, Tryd.ntmps37
    go_wp2_with fail
    refine (C0.out _).mono ?_
    rintro e w1 ⟨rfl, rfl⟩
    go_wp2_with fail
    refine (C1.out _ (Below.refl _ _)).mono ?_
    rintro e w2 ⟨rfl, hb⟩
    go_wp2_with fail
    go_ret2
    exact ⟨rfl, hb⟩
  · have e : L6.dirH n = L6.mT n - 10800000 := by unfold L6.dirH; rw [if_pos (by omega)]
    have C1 := Lib.hid (fun (wx : World) (hb : Below w.heap.size w wx) => pUpper (L6.mT n - 10800000) (L6.dirM n) (by unfold L6.dirM; rw [e]) (by omega) (by omega) wx (H.keep hb))
    rw [(f2 (by omega)).1, (f2 (by omega)).2]
    clear f1 f2 e b1 b2 b3 b4
    obtain ⟨m1, m2⟩ := m
    generalize L6.upD (L6.dirM n) = u at *
    generalize L6.upU (L6.dirM n) = v at *
    generalize L6.mT n = t at *
    clear H
    go_enter Tryd.func37, Tryd.ntmps37
    go_wp2_with fail
    refine (C0.out _).mono ?_
    rintro e w1 ⟨rfl, rfl⟩
    go_wp2_with fail
    refine (C1.out _ (Below.refl _ _)).mono ?_
    rintro e w2 ⟨rfl, hb⟩
    go_wp2_with fail
    go_ret2
    exact ⟨rfl, hb⟩
theorem pAt (n : Int) (w : World) (H : Held w) :
    Calls Tryd.prog 47 #[.int .i64 n] w fun e w' => e = .returned (.agg #[.int .i64 (L6.lo n), .int .i64 (L6.hi n)]) ∧ Below w.heap.size w w' := by
  have C0 := Lib.hid (fun (wx : World) (hb : Below w.heap.size w wx) => pSine n wx (H.keep hb))
  have HB := Lib.hid (below1 w (.cells #[.int .i64 0, .int .i64 0] 25))
  have R := At2.new w (.int .i64 0) (.int .i64 0) 25
  generalize L6.lo n = u at *
  generalize L6.hi n = v at *
  clear H
  go_enter Tryd.func47, Tryd.ntmps47
  go_wp2_with fail
  refine (C0.out _ HB.out).mono ?_
  rintro e w1 ⟨rfl, hb⟩
  have R := R.keep hb
  have HB := Lib.hid (bstep HB.out hb)
  obtain ⟨R0, R1, R2, R3, -⟩ := id R
  obtain ⟨z0, z1⟩ := set2 R0 R1 (.int .i64 u) (.int .i64 v)
  go_wp2_with fail
  refine bodyPost_ret (v := .agg #[.int .i64 u, .int .i64 v]) (by simp [results, Tryd.results47, go_sem, z0, z1]) rfl ⟨rfl, ?_⟩
  exact below_set2 HB.out (Nat.le_refl _) _ _
theorem pHull (a b c d : Int) (w : World) :
    Calls Tryd.prog 46 #[.agg #[.int .i64 a, .int .i64 b], .agg #[.int .i64 c, .int .i64 d]] w fun e w' => e = .returned (.agg #[.int .i64 (min a c), .int .i64 (max b d)]) ∧ Below w.heap.size w w' := by
  obtain ⟨A, B⟩ := At2.two w (.int .i64 a) (.int .i64 b) (.int .i64 c) (.int .i64 d) 25 25
  have A' := A.alloc (.cells #[.int .i64 0, .int .i64 0] 25)
  have B' := B.alloc (.cells #[.int .i64 0, .int .i64 0] 25)
  obtain ⟨A0, A1, -, -, -⟩ := id A'
  obtain ⟨B0, B1, -, -, -⟩ := id B'
  go_enter Tryd.func46, Tryd.ntmps46
  go_wp2_with fail
  refine bodyPost_ret (v := .agg #[.int .i64 (min a c), .int .i64 (max b d)]) (by simp [results, Tryd.results46, go_sem]) rfl ⟨rfl, ?_⟩
  exact below3 _ _ _ _
end Go.Proofs.YtglmkpnnbgkndaaDoor
