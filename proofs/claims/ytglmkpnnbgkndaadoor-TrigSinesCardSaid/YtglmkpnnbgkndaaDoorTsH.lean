/- Trig: the contracts of Haversine and Below: all that is asked of the program. -/
import Derived.Test.YtglmkpnnbgkndaaDoorTsG
namespace Go.Proofs.YtglmkpnnbgkndaaDoor
open Go.RowKit
set_option linter.unusedVariables false
set_option maxRecDepth 100000

theorem has_q (a b : Int) : L6.has (a + 5400000) (b + 5400000) 5400000 = L6.has a b 0 ∧ L6.has (a + 5400000) (b + 5400000) (-5400000) = L6.has a b 10800000 := by
  unfold L6.has
  constructor
  · exact decide_eq_decide.2 (by omega)
  · exact decide_eq_decide.2 (by omega)
theorem fl_even (n : Int) (h : L6.ex n = true) : L6.fl n % 2 = 0 := by
  unfold L6.fl
  rw [if_pos h]
  unfold L6.exV
  split
  · decide
  · split
    · decide
    · split
      · decide
      · split <;> decide
theorem hv_eq (n : Int) : hvL n = (1073741824 - L6.hi (n + 5400000)) / 2 ∧ hvH n = (1073741824 - L6.lo (n + 5400000) + 1) / 2 := by
  unfold hvL hvH L6.hi L6.lo
  by_cases h : L6.ex (n + 5400000) = true
  · have := fl_even _ h
    rw [if_pos h, if_pos h, if_pos h]
    omega
  · rw [if_neg h, if_neg h, if_neg h]
    omega
theorem hav_eq (a b : Int) (a1 : -1099511627776 ≤ a) (b1 : b ≤ 1099511627776) (ab : a ≤ b) :
    hL a b = (1073741824 - L6.sH (a + 5400000) (b + 5400000)).tdiv 2 ∧ hH a b = (1073741824 - L6.sL (a + 5400000) (b + 5400000) + 1).tdiv 2 ∧
    -1073741824 ≤ L6.sL (a + 5400000) (b + 5400000) ∧ L6.sL (a + 5400000) (b + 5400000) ≤ 1073741824 ∧ -1073741824 ≤ L6.sH (a + 5400000) (b + 5400000) ∧ L6.sH (a + 5400000) (b + 5400000) ≤ 1073741824 := by
  have okk : ∀ n, a + 5400000 ≤ n → n ≤ b + 5400000 → L6.Ok n := fun n h1 h2 => by unfold L6.Ok; omega
  obtain ⟨l1, l2⟩ := L6.lo_hi_in (a + 5400000) (okk _ (by omega) (by omega))
  obtain ⟨k1, k2⟩ := L6.lo_hi_in (b + 5400000) (okk _ (by omega) (by omega))
  have e1 : L6.lo (a + 5400000) ≤ L6.hi (a + 5400000) := by unfold L6.lo L6.hi; split <;> omega
  have e2 : L6.lo (b + 5400000) ≤ L6.hi (b + 5400000) := by unfold L6.lo L6.hi; split <;> omega
  obtain ⟨q1, q2⟩ := has_q a b
  obtain ⟨u1, u2⟩ := hv_eq a
  obtain ⟨v1, v2⟩ := hv_eq b
  have S : -1073741824 ≤ L6.sL (a + 5400000) (b + 5400000) ∧ L6.sL (a + 5400000) (b + 5400000) ≤ 1073741824 := by unfold L6.sL; split <;> omega
  have T : -1073741824 ≤ L6.sH (a + 5400000) (b + 5400000) ∧ L6.sH (a + 5400000) (b + 5400000) ≤ 1073741824 := by unfold L6.sH; split <;> omega
  refine ⟨?_, ?_, S.1, S.2, T.1, T.2⟩
  · rw [Int.tdiv_eq_ediv_of_nonneg (by omega)]
    unfold hL L6.sH
    rw [q1]
    split
    · rfl
    · omega
  · rw [Int.tdiv_eq_ediv_of_nonneg (by omega)]
    unfold hH L6.sL
    rw [q2]
    split
    · rfl
    · omega
theorem pHav (a b : Int) (w : World) (H : Held w) (a1 : I64 a) (b1 : I64 b) :
    Calls Tryd.prog 18 #[.agg #[.int .i64 a, .int .i64 b]] w fun e w' => e = .returned (vTr (aok a b) (hL a b) (hH a b)) ∧ Below w.heap.size w w' := by
  obtain ⟨A, R⟩ := At2.two w (.int .i64 a) (.int .i64 b) (.int .i64 0) (.int .i64 0) 23 25
  have HB := Lib.hid (below2 w (.cells #[.int .i64 a, .int .i64 b] 23) (.cells #[.int .i64 0, .int .i64 0] 25))
  obtain ⟨A0, A1, -, -, -⟩ := id A
  have C0 := Lib.hid (fun (wx : World) (hb : Below w.heap.size w wx) => pCos a b wx (H.keep hb) a1 b1)
  rcases Bool.eq_false_or_eq_true (aok a b) with h | h
  · rw [vTr_yes _ _ h]
    rw [vTr_yes _ _ h] at C0
    obtain ⟨q1, q2, q3⟩ := (aok_iff a b).1 h
    obtain ⟨e1, e2, s1, s2, t1, t2⟩ := hav_eq a b q1 q2 q3
    generalize L6.sL (a + 5400000) (b + 5400000) = u at *
    generalize L6.sH (a + 5400000) (b + 5400000) = v at *
    obtain ⟨x, hx⟩ : ∃ x, 1073741824 - v = x := ⟨_, rfl⟩
    obtain ⟨y, hy⟩ : ∃ y, 1073741824 - u = y := ⟨_, rfl⟩
    obtain ⟨z, hz⟩ : ∃ z, y + 1 = z := ⟨_, rfl⟩
    rw [hx] at e1
    rw [hy, hz] at e2
    generalize hL a b = l at *
    generalize hH a b = m at *
    have x1 : 0 ≤ x := by omega
    have x2 : x ≤ 2147483648 := by omega
    have y1 : 0 ≤ y := by omega
    have y2 : y ≤ 2147483648 := by omega
    have z1 : 0 ≤ z := by omega
    have z2 : z ≤ 2147483649 := by omega
    have l1 : -9223372036854775808 ≤ l := by rw [e1, Int.tdiv_eq_ediv_of_nonneg x1]; omega
    have l2 : l ≤ 9223372036854775807 := by rw [e1, Int.tdiv_eq_ediv_of_nonneg x1]; omega
    have m1 : -9223372036854775808 ≤ m := by rw [e2, Int.tdiv_eq_ediv_of_nonneg z1]; omega
    have m2 : m ≤ 9223372036854775807 := by rw [e2, Int.tdiv_eq_ediv_of_nonneg z1]; omega
    replace e1 := e1.symm
    replace e2 := e2.symm
    clear h H q1 q2 q3
    go_enter Tryd.func18, Tryd.ntmps18
    go_wp2_with fail
    refine (C0.out _ HB.out).mono ?_
    rintro e w1 ⟨rfl, hb⟩
    have R := R.keep hb
    have HB := Lib.hid (bstep HB.out hb)
    clear hb A0 A1 A
    have R := R.alloc (.cells #[.int .i64 u, .int .i64 v] 25)
    have N := At2.new w1 (.int .i64 u) (.int .i64 v) 25
    have HB := Lib.hid (bstep HB.out (below1 w1 (.cells #[.int .i64 u, .int .i64 v] 25)))
    obtain ⟨R0, R1, R2, R3, -⟩ := id R
    obtain ⟨N0, N1, N2, N3, -⟩ := id N
    obtain ⟨z0, z3⟩ := set2 R0 R1 (.int .i64 l) (.int .i64 m)
    go_wp2_with fail
    refine bodyPost_ret (v := .tuple #[.agg #[.int .i64 l, .int .i64 m], .int .i64 0]) (by simp [results, Tryd.results18, go_sem, z0, z3]) rfl ⟨rfl, ?_⟩
    exact below_set2 HB.out (by omega) _ _
  · rw [vTr_no _ _ h]
    rw [vTr_no _ _ h] at C0
    clear h H
    go_enter Tryd.func18, Tryd.ntmps18
    go_wp2_with fail
    refine (C0.out _ HB.out).mono ?_
    rintro e w1 ⟨rfl, hb⟩
    have R := R.keep hb
    have HB := Lib.hid (bstep HB.out hb)
    clear hb A0 A1 A
    have R := R.alloc (.cells #[.int .i64 0, .int .i64 0] 25)
    have HB := Lib.hid (bstep HB.out (below1 w1 (.cells #[.int .i64 0, .int .i64 0] 25)))
    obtain ⟨R0, R1, R2, R3, -⟩ := id R
    obtain ⟨z0, z3⟩ := set2 R0 R1 (.int .i64 0) (.int .i64 0)
    go_wp2_with fail
    refine bodyPost_ret (v := .tuple #[.agg #[.int .i64 0, .int .i64 0], .int .i64 1]) (by simp [results, Tryd.results18, go_sem, z0, z3]) rfl ⟨rfl, ?_⟩
    exact below_set2 HB.out (by omega) _ _
theorem or_any (x y r : Int) (g : Nat) (w : World) (c0 : w.cell? ⟨g, 0, none⟩ = some (.int .i64 x)) (c1 : w.cell? ⟨g, 1, none⟩ = some (.int .i64 y)) (h1 : x ≠ 0 → r = x) (h2 : x = 0 → r = y) :
    Calls Tryd.prog 38 #[.slice (some ⟨g, 0, none⟩) 2 2] w fun e w' => e = .returned (.int .i64 r) ∧ w' = w := by
  have h1 := Lib.hid h1
  have h2 := Lib.hid h2
  go_enter Tryd.func38, Tryd.ntmps38
  go_wp2_with fail
  go_loopg [8] 2 (fun m v8 wr => ∃ j : Nat, m = 2 - j ∧ v8 = .int .i64 (j : Int) ∧ Hid (j ≤ 2) ∧ Hid (1 ≤ j → x = 0) ∧ Hid (2 ≤ j → y = 0) ∧ w = wr)
  case atStart => exact ⟨0, rfl, rfl, Nat.zero_le _, fun h => absurd h (by omega), fun h => absurd h (by omega), rfl⟩
  case round =>
    obtain ⟨j, hm, rfl, HJ, HX, HY, rfl⟩ := hrel
    have HG := Lib.hid hm
    clear hm
    rcases (show j = 0 ∨ j = 1 ∨ j = 2 by have := HJ.out; omega) with rfl | rfl | rfl
    · by_cases c : x = 0
      · have HX := Lib.hid c
        subst c
        go_wp2_with fail
        go_roundg 1
        case measure => have := HG.out; omega
        case rel => exact ⟨1, rfl, rfl, by show _ ≤ _; omega, by first | exact fun _ => rfl | exact fun _ => trivial, fun h => absurd h (by omega), by first | rfl | trivial⟩
      · have e := h1.out c
        go_wp2_with fail
        go_ret
        exact ⟨ret_int e.symm, rfl⟩
    · have z := HX.out (by omega)
      have e := h2.out z
      by_cases c : y = 0
      · have HZ := Lib.hid z
        clear e z
        subst c
        go_wp2_with fail
        go_roundg 0
        case measure => have := HG.out; omega
        case rel => exact ⟨2, rfl, rfl, by show _ ≤ _; omega, fun _ => HZ.out, by first | exact fun _ => rfl | exact fun _ => trivial, by first | rfl | trivial⟩
      · clear z
        go_wp2_with fail
        go_ret
        exact ⟨ret_int e.symm, rfl⟩
    · have z := HX.out (by omega)
      have e := h2.out z
      have f := HY.out (by omega)
      have e := Lib.hid (e.trans f)
      clear z f
      go_wp2_with fail
      go_ret
      exact ⟨ret_int e.out.symm, rfl⟩
theorem pBelow (n v : Int) (w : World) (H : Held w) (n1 : I64 n) (v1 : I64 v) :
    Calls Tryd.prog 20 #[.int .i64 n, .int .i64 v] w fun e w' => e = .returned (.int .i64 (blN n v)) ∧ Below w.heap.size w w' := by
  have C0 := Lib.hid (fun (wx : World) => pSine n wx)
  have C0 := Lib.hid (pSine n w H)
  obtain ⟨l1, l2⟩ : -1073741824 ≤ L6.lo n ∧ L6.hi n ≤ 1073741824 := by
    obtain ⟨f1, f2⟩ := L6.up_eq n
    obtain ⟨b1, b2, b3, b4⟩ := L6.dirM_in n
    obtain ⟨i1, i2, i3, i4⟩ := upD_in (L6.dirM n) b1 b2
    by_cases c : L6.mT n < 10800000
    · rw [(f1 c).1, (f1 c).2]; omega
    · rw [(f2 (by omega)).1, (f2 (by omega)).2]; omega
  have C1 := Lib.hid (fun (wx : World) => Tryd.cmp_Compare_int (L6.lo n) v wx)
  have key : (Lib.compareInt (L6.lo n) v ≠ 0 → blN n v = Lib.compareInt (L6.lo n) v) ∧ (Lib.compareInt (L6.lo n) v = 0 → blN n v = L6.hi n - L6.lo n) ∧ L6.lo n ≤ L6.hi n ∧ L6.hi n ≤ L6.lo n + 1 := by
    have cl : L6.lo n < v → Lib.compareInt (L6.lo n) v = -1 := fun h => by unfold Lib.compareInt; rw [if_pos h]
    have ce : L6.lo n = v → Lib.compareInt (L6.lo n) v = 0 := fun h => by unfold Lib.compareInt; rw [if_neg (by omega), if_neg (by omega)]
    have cg : v < L6.lo n → Lib.compareInt (L6.lo n) v = 1 := fun h => by unfold Lib.compareInt; rw [if_neg (by omega), if_pos (by omega)]
    have e : L6.lo n = L6.fl n := rfl
    rw [e] at cl ce cg ⊢
    unfold blN L6.hi
    rcases (show L6.fl n < v ∨ L6.fl n = v ∨ v < L6.fl n by omega) with h | h | h
    · rw [cl h, if_neg (fun k => by have := k.2; omega), if_neg (by omega)]
      refine ⟨fun _ => rfl, fun k => absurd k (by decide), ?_, ?_⟩ <;> split <;> omega
    · rw [ce h]
      by_cases x : L6.ex n = true
      · rw [if_pos ⟨x, h⟩, if_pos x]; omega
      · rw [if_neg (fun k => x k.1), if_neg x, if_pos (by omega)]; omega
    · rw [cg h, if_neg (fun k => by have := k.2; omega), if_pos (by omega)]
      refine ⟨fun _ => rfl, fun k => absurd k (by decide), ?_, ?_⟩ <;> split <;> omega
  obtain ⟨k1, k2, k3, k4⟩ := key
  generalize L6.lo n = lo at *
  generalize L6.hi n = hi at *
  generalize Lib.compareInt lo v = c at *
  generalize blN n v = r at *
  obtain ⟨d, hd⟩ : ∃ d, hi - lo = d := ⟨_, rfl⟩
  have d1 : 0 ≤ d := by omega
  have d2 : d ≤ 1 := by omega
  rw [hd] at k2
  have C2 := Lib.hid (fun (g : Nat) (wx : World) c0 c1 => or_any c d r g wx c0 c1 k1 k2)
  clear k1 k2 H
  go_enter Tryd.func20, Tryd.ntmps20
  go_wp2_with fail
  refine C0.out.mono ?_
  rintro e w1 ⟨rfl, hb⟩
  have HB := Lib.hid hb
  clear hb
  go_wp2_with fail
  refine (C1.out _).mono ?_
  rintro e w2 ⟨rfl, rfl⟩
  go_wp2_with fail
  have N := At2.new w2 (.int .i64 c) (.int .i64 d) 3
  have HB := Lib.hid (bstep HB.out (below1 w2 (.cells #[.int .i64 c, .int .i64 d] 3)))
  refine (C2.out _ _ N.c0 N.c1).mono ?_
  rintro e w3 ⟨rfl, rfl⟩
  go_wp2_with fail
  go_ret
  exact ⟨rfl, HB.out⟩
/-- all that is asked of the program -/
theorem trProg (w : World) (H : Held w) : TrProg w where
  sin := fun a b wx hb a1 b1 => pSin a b wx (H.keep hb) a1 b1
  cos := fun a b wx hb a1 b1 => pCos a b wx (H.keep hb) a1 b1
  hav := fun a b wx hb a1 b1 => pHav a b wx (H.keep hb) a1 b1
  below := fun n v wx hb n1 v1 => pBelow n v wx (H.keep hb) n1 v1
end Go.Proofs.YtglmkpnnbgkndaaDoor
