/- Trig: the program's series. -/
import Derived.Test.YtglmkpnnbgkndaaDoorTsB
namespace Go.Proofs.YtglmkpnnbgkndaaDoor
open Go.RowKit
set_option linter.unusedVariables false
set_option maxRecDepth 100000

theorem cf_lt (i : Nat) : L6.cf i < 340282366920938463463374607431768211456 := by
  have e : L6.cf i ≤ 170141183460469231731687303715884105728 := by
    show 340282366920938463463374607431768211456 / L6.fct (i + 2) ≤ _
    have p := L6.fct_pos (i + 1)
    have h : 2 ≤ L6.fct (i + 2) := by
      show 2 ≤ L6.fct (i + 1) * (i + 1 + 1)
      exact Nat.mul_le_mul p (show 2 ≤ i + 1 + 1 by omega)
    exact Nat.le_trans (Nat.div_le_div_left h (by decide)) (by decide)
  omega
theorem ser_lt (f S j : Nat) : L6.ser f S j < 340282366920938463463374607431768211456 := Nat.lt_of_le_of_lt (L6.ser_le f S j) (cf_lt _)
structure Cell2 (w : World) (b k : Nat) (x y : Value) : Prop where
  c0 : w.cell? ⟨b, k, none⟩ = some x
  c1 : w.cell? ⟨b, k + 1, none⟩ = some y
theorem Cell2.keep {w w1 : World} {b k : Nat} {x y : Value} (h : Cell2 w b k x y) (hb : Below w.heap.size w w1) : Cell2 w1 b k x y := by
  have l := World.block_lt_of_cell? _ _ h.c0
  exact ⟨(hb.cell (p := ⟨b, k, none⟩) l).trans h.c0, (hb.cell (p := ⟨b, k + 1, none⟩) l).trans h.c1⟩
theorem minus_le (a b : Nat) (ha : a < 340282366920938463463374607431768211456) (h : b ≤ a) (w : World) :
    Calls Tryd.prog 71 #[.agg #[.int .u64 (hb a), .int .u64 (lb a)], .agg #[.int .u64 (hb b), .int .u64 (lb b)]] w fun e w' => e = .returned (.agg #[.int .u64 (hb (a - b)), .int .u64 (lb (a - b))]) ∧ Below w.heap.size w w' := by
  have M := minus_any a b ha (by omega) w
  rwa [show (a + 340282366920938463463374607431768211456 - b) % 340282366920938463463374607431768211456 = a - b by omega] at M
set_option maxHeartbeats 1000000 in
theorem series_0_18 (X : Nat) (hX : X < 340282366920938463463374607431768211456) (w : World) (H : Held w) :
    Calls Tryd.prog 72 #[.int .i64 2, .int .i64 18, .agg #[.int .u64 (hb X), .int .u64 (lb X)]] w fun e w' => e = .returned (.agg #[.int .u64 (hb (L6.ser 0 X 9)), .int .u64 (lb (L6.ser 0 X 9))]) ∧ Below w.heap.size w w' := by
  obtain ⟨x, hx⟩ : ∃ x, x = hb X := ⟨_, rfl⟩
  obtain ⟨y, hy⟩ : ∃ y, y = lb X := ⟨_, rfl⟩
  obtain ⟨p, hp⟩ : ∃ p : Nat → Int, ∀ j, p j = hb (L6.ser 0 X j) := ⟨_, fun _ => rfl⟩
  obtain ⟨q, hq⟩ : ∃ q : Nat → Int, ∀ j, q j = lb (L6.ser 0 X j) := ⟨_, fun _ => rfl⟩
  have KT : Hid (∀ j wx, Calls Tryd.prog 70 #[.agg #[.int .u64 x, .int .u64 y], .agg #[.int .u64 (p j), .int .u64 (q j)]] wx fun e w' => e = .returned (.agg #[.int .u64 (hb (L6.pm X (L6.ser 0 X j))), .int .u64 (lb (L6.pm X (L6.ser 0 X j)))]) ∧ Below wx.heap.size wx w') := Lib.hid (fun j wx => by rw [hx, hy, hp, hq]; exact times_any X _ hX (ser_lt _ _ _) wx)
  have KM : Hid (∀ j, j ≤ 8 → ∀ wx, Calls Tryd.prog 71 #[.agg #[.int .u64 (hb (L6.cf (16 - 2 * j))), .int .u64 (lb (L6.cf (16 - 2 * j)))], .agg #[.int .u64 (hb (L6.pm X (L6.ser 0 X j))), .int .u64 (lb (L6.pm X (L6.ser 0 X j)))]] wx fun e w' => e = .returned (.agg #[.int .u64 (p (j + 1)), .int .u64 (q (j + 1))]) ∧ Below wx.heap.size wx w') := Lib.hid (fun j hj wx => by rw [hp, hq]; exact minus_le _ _ (cf_lt _) (L6.ser_fit 0 X (by omega) j hj) wx)
  have z0 := hp 0
  have z1 := hq 0
  have s0 : w.cell? ⟨1, 36, none⟩ = some (.int .u64 (p 0)) := by rw [z0]; exact H.i0 18 (by omega)
  have s1 : w.cell? ⟨1, 37, none⟩ = some (.int .u64 (q 0)) := by rw [z1]; exact H.i1 18 (by omega)
  rw [← hx, ← hy, ← hp, ← hq]
  clear hx hy hp hq z0 z1
  have l0 := World.block_lt_of_cell? _ _ s0
  have l1 := l0
  have W2 := below2 w (.cells #[.int .u64 x, .int .u64 y] 74) (.cells #[.int .u64 0, .int .u64 0] 74)
  have s0' := (W2.cell (p := ⟨1, 36, none⟩) l0).trans s0
  have s1' := (W2.cell (p := ⟨1, 37, none⟩) l0).trans s1
  have A := ((At2.new w (.int .u64 x) (.int .u64 y) 74).alloc (.cells #[.int .u64 0, .int .u64 0] 74)).alloc (.cells #[.int .u64 (p 0), .int .u64 (q 0)] 74)
  have R := (At2.new (w.alloc (.cells #[.int .u64 x, .int .u64 y] 74)) (.int .u64 0) (.int .u64 0) 74).alloc (.cells #[.int .u64 (p 0), .int .u64 (q 0)] 74)
  have N := At2.new ((w.alloc (.cells #[.int .u64 x, .int .u64 y] 74)).alloc (.cells #[.int .u64 0, .int .u64 0] 74)) (.int .u64 (p 0)) (.int .u64 (q 0)) 74
  have HB := Lib.hid (below3 w (.cells #[.int .u64 x, .int .u64 y] 74) (.cells #[.int .u64 0, .int .u64 0] 74) (.cells #[.int .u64 (p 0), .int .u64 (q 0)] 74))
  simp at N R
  have HH := Lib.hid H
  clear s0 s1 l1 W2 H
  go_enter Tryd.func72, Tryd.ntmps72
  go_wp2_with fail
  go_loopg [9] 9 (fun m v9 wr => ∃ j : Nat, m = 9 - j ∧ v9 = .int .i64 (16 - 2 * (j : Int)) ∧ Hid (j ≤ 9) ∧ Hid (At2 wr w.heap.size (.int .u64 x) (.int .u64 y)) ∧ Hid (At2 wr (w.heap.size + 1) (.int .u64 0) (.int .u64 0)) ∧ Hid (At2 wr (w.heap.size + 1 + 1) (.int .u64 (p j)) (.int .u64 (q j))) ∧ Hid (Below w.heap.size w wr))
  case atStart => exact ⟨0, rfl, rfl, Nat.zero_le _, A, R, N, HB⟩
  case round =>
    obtain ⟨j, hm, rfl, HJ, HA, HR, HN, HB⟩ := hrel
    clear s0' s1' l0 A R N
    have HM := Lib.hid hm
    clear hm
    have A := HA.out
    have R := HR.out
    have N := HN.out
    clear HA HR HN
    obtain ⟨A0, A1, -, -, -⟩ := id A
    obtain ⟨N0, N1, F0, F1, -⟩ := id N
    by_cases hj : j < 9
    · have KT := Lib.hid (KT.out j)
      have KM := Lib.hid (KM.out j (by omega))
      obtain ⟨i, hi⟩ : ∃ i : Nat, (16 : Int) - 2 * (j : Int) = (i : Int) := ⟨16 - 2 * j, by omega⟩
      have ei : 16 - 2 * j = i := by omega
      have i2 : (i : Int) < 28 := by omega
      have i3 : 0 ≤ (i : Int) := by omega
      have i4 : i < 28 := by omega
      have i5 : (0 : Int) ≤ (i : Int) := by omega
      rw [ei] at KM
      have HK := HH.out.keep HB.out
      have s0 := HK.i0 i (by omega)
      have s1 := HK.i1 i (by omega)
      have T0 : Cell2 wr 1 (i * 2) (.int .u64 (hb (L6.cf i))) (.int .u64 (lb (L6.cf i))) := ⟨s0, s1⟩
      clear HK ei
      generalize hb (L6.cf i) = u at *
      generalize lb (L6.cf i) = v at *
      generalize hb (L6.pm X (L6.ser 0 X j)) = h at *
      generalize lb (L6.pm X (L6.ser 0 X j)) = l at *
      rw [hi]
      go_wp2_with fail
      go_region_with (first
        | (go_at_call 70; refine (KT.out _).mono ?_; rintro e v1 ⟨rfl, hb⟩; (try (replace hb := bdrew hb)); have A := A.keep hb; have R := R.keep hb; have N := N.keep hb; have HB := Lib.hid (bstep HB.out hb); have T0 := T0.keep hb; clear hb A0 A1 N0 N1 F0 F1 s0 s1; obtain ⟨A0, A1, -, -, -⟩ := id A; obtain ⟨N0, N1, F0, F1, -⟩ := id N; obtain ⟨s0, s1⟩ := id T0)
        | (go_at_call 71; refine (KM.out _).mono ?_; rintro e v1 ⟨rfl, hb⟩; (try (replace hb := bdrew hb)); have A := A.keep hb; have R := R.keep hb; have N := N.keep hb; have HB := Lib.hid (bstep HB.out hb); have T0 := T0.keep hb; clear hb A0 A1 N0 N1 F0 F1 s0 s1; obtain ⟨A0, A1, -, -, -⟩ := id A; obtain ⟨N0, N1, F0, F1, -⟩ := id N; obtain ⟨s0, s1⟩ := id T0))
      all_goals
        have A := A.far (show w.heap.size ≠ w.heap.size + 1 + 1 by omega) (.int .u64 (p (j + 1))) (.int .u64 (q (j + 1)))
        have R := R.far (show w.heap.size + 1 ≠ w.heap.size + 1 + 1 by omega) (.int .u64 (p (j + 1))) (.int .u64 (q (j + 1)))
        have N := N.put (.int .u64 (p (j + 1))) (.int .u64 (q (j + 1)))
        have HB := Lib.hid (below_set2 HB.out (show w.heap.size ≤ w.heap.size + 1 + 1 by omega) (.int .u64 (p (j + 1))) (.int .u64 (q (j + 1))))
        clear A0 A1 N0 N1 F0 F1 s0 s1 T0 KT KM
        have j9 := Lib.hid hj
        have hi9 := Lib.hid hi
        clear hj hi
        go_wp2_with fail
        go_roundg (9 - (j + 1))
        case measure => have := HM.out; have := j9.out; omega
        case rel => exact ⟨j + 1, rfl, congrArg (Value.int .i64) (by have := hi9.out; omega), by have := j9.out; show _ ≤ _; omega, A, R, N, HB⟩
    · obtain rfl : j = 9 := by have := HJ.out; omega
      clear KT KM
      rw [show (16 : Int) - 2 * ((9 : Nat) : Int) = -2 by decide]
      obtain ⟨R0, R1, F2, F3, -⟩ := id R
      obtain ⟨s0, s1⟩ := set2 R0 R1 (.int .u64 (p 9)) (.int .u64 (q 9))
      go_wp2_with fail
      refine bodyPost_ret (v := .agg #[.int .u64 (p 9), .int .u64 (q 9)]) (by simp [results, Tryd.results72, go_sem, s0, s1]) rfl ⟨rfl, ?_⟩
      exact below_set2 HB.out (show w.heap.size ≤ w.heap.size + 1 by omega) _ _
set_option maxHeartbeats 1000000 in
theorem series_1_18 (X : Nat) (hX : X < 340282366920938463463374607431768211456) (w : World) (H : Held w) :
    Calls Tryd.prog 72 #[.int .i64 3, .int .i64 18, .agg #[.int .u64 (hb X), .int .u64 (lb X)]] w fun e w' => e = .returned (.agg #[.int .u64 (hb (L6.ser 1 X 9)), .int .u64 (lb (L6.ser 1 X 9))]) ∧ Below w.heap.size w w' := by
  obtain ⟨x, hx⟩ : ∃ x, x = hb X := ⟨_, rfl⟩
  obtain ⟨y, hy⟩ : ∃ y, y = lb X := ⟨_, rfl⟩
  obtain ⟨p, hp⟩ : ∃ p : Nat → Int, ∀ j, p j = hb (L6.ser 1 X j) := ⟨_, fun _ => rfl⟩
  obtain ⟨q, hq⟩ : ∃ q : Nat → Int, ∀ j, q j = lb (L6.ser 1 X j) := ⟨_, fun _ => rfl⟩
  have KT : Hid (∀ j wx, Calls Tryd.prog 70 #[.agg #[.int .u64 x, .int .u64 y], .agg #[.int .u64 (p j), .int .u64 (q j)]] wx fun e w' => e = .returned (.agg #[.int .u64 (hb (L6.pm X (L6.ser 1 X j))), .int .u64 (lb (L6.pm X (L6.ser 1 X j)))]) ∧ Below wx.heap.size wx w') := Lib.hid (fun j wx => by rw [hx, hy, hp, hq]; exact times_any X _ hX (ser_lt _ _ _) wx)
  have KM : Hid (∀ j, j ≤ 8 → ∀ wx, Calls Tryd.prog 71 #[.agg #[.int .u64 (hb (L6.cf (17 - 2 * j))), .int .u64 (lb (L6.cf (17 - 2 * j)))], .agg #[.int .u64 (hb (L6.pm X (L6.ser 1 X j))), .int .u64 (lb (L6.pm X (L6.ser 1 X j)))]] wx fun e w' => e = .returned (.agg #[.int .u64 (p (j + 1)), .int .u64 (q (j + 1))]) ∧ Below wx.heap.size wx w') := Lib.hid (fun j hj wx => by rw [hp, hq]; exact minus_le _ _ (cf_lt _) (L6.ser_fit 1 X (by omega) j hj) wx)
  have z0 := hp 0
  have z1 := hq 0
  have s0 : w.cell? ⟨1, 38, none⟩ = some (.int .u64 (p 0)) := by rw [z0]; exact H.i0 19 (by omega)
  have s1 : w.cell? ⟨1, 39, none⟩ = some (.int .u64 (q 0)) := by rw [z1]; exact H.i1 19 (by omega)
  rw [← hx, ← hy, ← hp, ← hq]
  clear hx hy hp hq z0 z1
  have l0 := World.block_lt_of_cell? _ _ s0
  have l1 := l0
  have W2 := below2 w (.cells #[.int .u64 x, .int .u64 y] 74) (.cells #[.int .u64 0, .int .u64 0] 74)
  have s0' := (W2.cell (p := ⟨1, 38, none⟩) l0).trans s0
  have s1' := (W2.cell (p := ⟨1, 39, none⟩) l0).trans s1
  have A := ((At2.new w (.int .u64 x) (.int .u64 y) 74).alloc (.cells #[.int .u64 0, .int .u64 0] 74)).alloc (.cells #[.int .u64 (p 0), .int .u64 (q 0)] 74)
  have R := (At2.new (w.alloc (.cells #[.int .u64 x, .int .u64 y] 74)) (.int .u64 0) (.int .u64 0) 74).alloc (.cells #[.int .u64 (p 0), .int .u64 (q 0)] 74)
  have N := At2.new ((w.alloc (.cells #[.int .u64 x, .int .u64 y] 74)).alloc (.cells #[.int .u64 0, .int .u64 0] 74)) (.int .u64 (p 0)) (.int .u64 (q 0)) 74
  have HB := Lib.hid (below3 w (.cells #[.int .u64 x, .int .u64 y] 74) (.cells #[.int .u64 0, .int .u64 0] 74) (.cells #[.int .u64 (p 0), .int .u64 (q 0)] 74))
  simp at N R
  have HH := Lib.hid H
  clear s0 s1 l1 W2 H
  go_enter Tryd.func72, Tryd.ntmps72
  go_wp2_with fail
  go_loopg [9] 9 (fun m v9 wr => ∃ j : Nat, m = 9 - j ∧ v9 = .int .i64 (17 - 2 * (j : Int)) ∧ Hid (j ≤ 9) ∧ Hid (At2 wr w.heap.size (.int .u64 x) (.int .u64 y)) ∧ Hid (At2 wr (w.heap.size + 1) (.int .u64 0) (.int .u64 0)) ∧ Hid (At2 wr (w.heap.size + 1 + 1) (.int .u64 (p j)) (.int .u64 (q j))) ∧ Hid (Below w.heap.size w wr))
  case atStart => exact ⟨0, rfl, rfl, Nat.zero_le _, A, R, N, HB⟩
  case round =>
    obtain ⟨j, hm, rfl, HJ, HA, HR, HN, HB⟩ := hrel
    clear s0' s1' l0 A R N
    have HM := Lib.hid hm
    clear hm
    have A := HA.out
    have R := HR.out
    have N := HN.out
    clear HA HR HN
    obtain ⟨A0, A1, -, -, -⟩ := id A
    obtain ⟨N0, N1, F0, F1, -⟩ := id N
    by_cases hj : j < 9
    · have KT := Lib.hid (KT.out j)
      have KM := Lib.hid (KM.out j (by omega))
      obtain ⟨i, hi⟩ : ∃ i : Nat, (17 : Int) - 2 * (j : Int) = (i : Int) := ⟨17 - 2 * j, by omega⟩
      have ei : 17 - 2 * j = i := by omega
      have i2 : (i : Int) < 28 := by omega
      have i3 : 1 ≤ (i : Int) := by omega
      have i4 : i < 28 := by omega
      have i5 : (0 : Int) ≤ (i : Int) := by omega
      rw [ei] at KM
      have HK := HH.out.keep HB.out
      have s0 := HK.i0 i (by omega)
      have s1 := HK.i1 i (by omega)
      have T0 : Cell2 wr 1 (i * 2) (.int .u64 (hb (L6.cf i))) (.int .u64 (lb (L6.cf i))) := ⟨s0, s1⟩
      clear HK ei
      generalize hb (L6.cf i) = u at *
      generalize lb (L6.cf i) = v at *
      generalize hb (L6.pm X (L6.ser 1 X j)) = h at *
      generalize lb (L6.pm X (L6.ser 1 X j)) = l at *
      rw [hi]
      go_wp2_with fail
      go_region_with (first
        | (go_at_call 70; refine (KT.out _).mono ?_; rintro e v1 ⟨rfl, hb⟩; (try (replace hb := bdrew hb)); have A := A.keep hb; have R := R.keep hb; have N := N.keep hb; have HB := Lib.hid (bstep HB.out hb); have T0 := T0.keep hb; clear hb A0 A1 N0 N1 F0 F1 s0 s1; obtain ⟨A0, A1, -, -, -⟩ := id A; obtain ⟨N0, N1, F0, F1, -⟩ := id N; obtain ⟨s0, s1⟩ := id T0)
        | (go_at_call 71; refine (KM.out _).mono ?_; rintro e v1 ⟨rfl, hb⟩; (try (replace hb := bdrew hb)); have A := A.keep hb; have R := R.keep hb; have N := N.keep hb; have HB := Lib.hid (bstep HB.out hb); have T0 := T0.keep hb; clear hb A0 A1 N0 N1 F0 F1 s0 s1; obtain ⟨A0, A1, -, -, -⟩ := id A; obtain ⟨N0, N1, F0, F1, -⟩ := id N; obtain ⟨s0, s1⟩ := id T0))
      all_goals
        have A := A.far (show w.heap.size ≠ w.heap.size + 1 + 1 by omega) (.int .u64 (p (j + 1))) (.int .u64 (q (j + 1)))
        have R := R.far (show w.heap.size + 1 ≠ w.heap.size + 1 + 1 by omega) (.int .u64 (p (j + 1))) (.int .u64 (q (j + 1)))
        have N := N.put (.int .u64 (p (j + 1))) (.int .u64 (q (j + 1)))
        have HB := Lib.hid (below_set2 HB.out (show w.heap.size ≤ w.heap.size + 1 + 1 by omega) (.int .u64 (p (j + 1))) (.int .u64 (q (j + 1))))
        clear A0 A1 N0 N1 F0 F1 s0 s1 T0 KT KM
        have j9 := Lib.hid hj
        have hi9 := Lib.hid hi
        clear hj hi
        go_wp2_with fail
        go_roundg (9 - (j + 1))
        case measure => have := HM.out; have := j9.out; omega
        case rel => exact ⟨j + 1, rfl, congrArg (Value.int .i64) (by have := hi9.out; omega), by have := j9.out; show _ ≤ _; omega, A, R, N, HB⟩
    · obtain rfl : j = 9 := by have := HJ.out; omega
      clear KT KM
      rw [show (17 : Int) - 2 * ((9 : Nat) : Int) = -1 by decide]
      obtain ⟨R0, R1, F2, F3, -⟩ := id R
      obtain ⟨s0, s1⟩ := set2 R0 R1 (.int .u64 (p 9)) (.int .u64 (q 9))
      go_wp2_with fail
      refine bodyPost_ret (v := .agg #[.int .u64 (p 9), .int .u64 (q 9)]) (by simp [results, Tryd.results72, go_sem, s0, s1]) rfl ⟨rfl, ?_⟩
      exact below_set2 HB.out (show w.heap.size ≤ w.heap.size + 1 by omega) _ _
end Go.Proofs.YtglmkpnnbgkndaaDoor
