/- Contract of math/bits.Div64: the quotient and the remainder of a number of 128 bits. -/
import Derived.Test.YtdkigfcglfgpoaaWdA
import Derived.Test.YtdkigfcglfgpoaaShelf
import Derived.Lib.ItoaNum
import Derived.Lib.BitFns
import Derived.Shelf.Bits.Mul64
import Derived.Deep.CutBlock
import Derived.Deep.DeepCutAuto
namespace Go.Proofs.Ytdkigfcglfgpoaa.wd
open Go.RowKit
set_option linter.unusedVariables false

set_option maxHeartbeats 400000 in
theorem div64_small (lo y : Nat) (w : World) (hlo : lo < 18446744073709551616) (hy : y < 18446744073709551616) (h0 : 0 < y) :
    Calls Try.prog 79 #[.int .u64 0, .int .u64 (lo : Int), .int .u64 (y : Int)] w fun e w' => e = .returned (.tuple #[.int .u64 ((lo / y : Nat) : Int), .int .u64 ((lo % y : Nat) : Int)]) ∧ Below w.heap.size w w' := by
  have t1 : ((y : Int) == 0) = false := by rw [beq_eq_false_iff_ne]; omega
  have t2 : ¬ (y : Int) = 0 := by omega
  have t3 : ¬ (y : Int) ≤ 0 := by omega
  have b1 : (0 : Int) < (y : Int) := by omega
  have w1 : IntKind.u64.wrap ((lo : Int) / (y : Int)) = (lo : Int) / (y : Int) := by
    rw [← Int.natCast_ediv]
    have := Nat.div_le_self lo y
    generalize lo / y = z at *
    exact IntWalk.u64_in _ (by omega)
  have e1 := Int.natCast_ediv lo y
  have e2 := Int.natCast_emod lo y
  rw [e1, e2]
  clear e1 e2
  go_enter Try.func79, Try.ntmps79
  go_wp2_with fail
  go_quiet (fail)
  go_wp2_with fail
  go_ret2
  exact ⟨rfl, below_drewN (Below.refl _ _) _⟩

/-- what the walk of Div64 needs: the parts of the shifted divisor and dividend, the digits and the rests -/
structure DvN (hi lo y s Y A B U D D1 D0 Q1 R1 Q0 R0 : Nat) : Prop where
  hA1 : 2147483648 ≤ A
  hA2 : A < 4294967296
  hB : B < 4294967296
  hU : U < A * 4294967296 + B
  hR : R1 < A * 4294967296 + B
  hD1 : D1 < 4294967296
  hD0 : D0 < 4294967296
  hQ1 : Q1 = (U * 4294967296 + D1) / (A * 4294967296 + B)
  hQ0 : Q0 = (R1 * 4294967296 + D0) / (A * 4294967296 + B)
  F1 : IntKind.u64.wrap ((y : Int) * 2 ^ s) = (Y : Int)
  F2 : (Y : Int) / 4294967296 = (A : Int)
  F3 : bits .and .u64 (Y : Int) 4294967295 = (B : Int)
  F4 : bits .or .u64 (IntKind.u64.wrap ((hi : Int) * 2 ^ s)) ((lo : Int) / 2 ^ (64 - s)) = (U : Int)
  F5 : IntKind.u64.wrap ((lo : Int) * 2 ^ s) = (D : Int)
  F6 : (D : Int) / 4294967296 = (D1 : Int)
  F7 : bits .and .u64 (D : Int) 4294967295 = (D0 : Int)
  F8 : IntKind.u64.wrap (IntKind.u64.wrap (IntKind.u64.wrap ((U : Int) * 4294967296) + (D1 : Int)) - IntKind.u64.wrap ((Q1 : Int) * (Y : Int))) = (R1 : Int)
  F9 : IntKind.u64.wrap (IntKind.u64.wrap (IntKind.u64.wrap ((R1 : Int) * 4294967296) + (D0 : Int)) - IntKind.u64.wrap ((Q0 : Int) * (Y : Int))) = (R0 : Int)
  G1 : Q1 * 4294967296 + Q0 = (hi * 18446744073709551616 + lo) / y
  G0 : ((R0 : Int) / 2 ^ s) = (((hi * 18446744073709551616 + lo) % y : Nat) : Int)

set_option maxRecDepth 100000 in
set_option maxHeartbeats 4000000 in
theorem div64_big (hi lo y s Y A B U D D1 D0 Q1 R1 Q0 R0 : Nat) (w : World) (hlo : (lo : Int) < 18446744073709551616) (hy : (y : Int) < 18446744073709551616) (h0 : (0 : Int) < (hi : Int)) (hh : (hi : Int) < (y : Int)) (hs : (s : Int) ≤ 63)
    (N : DvN hi lo y s Y A B U D D1 D0 Q1 R1 Q0 R0)
    (CL : ∀ wx, Calls Try.prog 83 #[.int .u64 (y : Int)] wx fun e w' => e = .returned (.int .i64 (s : Int)) ∧ wx = w') :
    Calls Try.prog 79 #[.int .u64 (hi : Int), .int .u64 (lo : Int), .int .u64 (y : Int)] w fun e w' => e = .returned (.tuple #[.int .u64 (((hi * 18446744073709551616 + lo) / y : Nat) : Int), .int .u64 (((hi * 18446744073709551616 + lo) % y : Nat) : Int)]) ∧ Below w.heap.size w w' := by
  have t1 : ((y : Int) == 0) = false := by rw [beq_eq_false_iff_ne]; omega
  have t4 : ((hi : Int) == 0) = false := by rw [beq_eq_false_iff_ne]; omega
  have t2 : ¬ (y : Int) = 0 := by omega
  have t3 : ¬ (y : Int) ≤ (hi : Int) := by omega
  have b1 : (0 : Int) < (y : Int) := by omega
  have hA2 : (A : Int) < 4294967296 := by have := N.hA2; omega
  have hB2 : (B : Int) < 4294967296 := by have := N.hB; omega
  have hD1 : (D1 : Int) < 4294967296 := by have := N.hD1; omega
  have hD0 : (D0 : Int) < 4294967296 := by have := N.hD0; omega
  have b3 : (2147483648 : Int) ≤ (A : Int) := by have := N.hA1; omega
  have b2 : ¬ (A : Int) = 0 := by omega
  have F1 := N.F1
  have F2 := N.F2
  have F3 := N.F3
  have F4 := N.F4
  have F5 := N.F5
  have F6 := N.F6
  have F7 := N.F7
  have S1 := dg_start U A B D1 N.hA1 N.hB N.hD1 N.hU
  obtain ⟨q, hq⟩ : ∃ q, q = U / A := ⟨_, rfl⟩
  have f1 : (U : Int).tdiv (A : Int) = (q : Int) := by rw [hq]; rfl
  have f2 : (U : Int) / (A : Int) = (q : Int) := by rw [hq]; rfl
  obtain ⟨r, hr⟩ : ∃ r, r = U - q * A := ⟨_, rfl⟩
  have f5 : (U : Int) < 18446744073709551616 := by have := N.hU; have := N.hA2; have := N.hB; omega
  have f6 : q * A ≤ U := by rw [hq]; exact Nat.div_mul_le_self U A
  have f7 : r < A := by
    have h5 := Nat.div_add_mod U A; have h6 := Nat.mod_lt U (show 0 < A by have := N.hA1; omega); rw [Nat.mul_comm, ← hq] at h5; omega
  have f3 : (q : Int) * (A : Int) = ((q * A : Nat) : Int) := rfl
  rw [← hq, ← hr] at S1
  have f8 : (q : Int) ≤ 4294967297 := by have := S1.le; omega
  have f4 : IntKind.u64.wrap ((U : Int) - IntKind.u64.wrap ((q : Int) * (A : Int))) = (r : Int) := by
    rw [f3, IntKind.wrap_u64, IntKind.wrap_u64, hr]; omega
  have f9 : (r : Int) < 4294967296 := by have := N.hA2; omega
  have HS1 := Lib.hid S1
  clear S1 hr f3 f6 hq f7
  have S2 := dg_start R1 A B D0 N.hA1 N.hB N.hD0 N.hR
  obtain ⟨q', hq'⟩ : ∃ q', q' = R1 / A := ⟨_, rfl⟩
  have g1 : (R1 : Int).tdiv (A : Int) = (q' : Int) := by rw [hq']; rfl
  have g2 : (R1 : Int) / (A : Int) = (q' : Int) := by rw [hq']; rfl
  obtain ⟨r', hr'⟩ : ∃ r', r' = R1 - q' * A := ⟨_, rfl⟩
  have g5 : (R1 : Int) < 18446744073709551616 := by have := N.hR; have := N.hA2; have := N.hB; omega
  have g6 : q' * A ≤ R1 := by rw [hq']; exact Nat.div_mul_le_self R1 A
  have g7 : r' < A := by
    have h5 := Nat.div_add_mod R1 A; have h6 := Nat.mod_lt R1 (show 0 < A by have := N.hA1; omega); rw [Nat.mul_comm, ← hq'] at h5; omega
  have g3 : (q' : Int) * (A : Int) = ((q' * A : Nat) : Int) := rfl
  rw [← hq', ← hr'] at S2
  have g8 : (q' : Int) ≤ 4294967297 := by have := S2.le; omega
  have g4 : IntKind.u64.wrap ((R1 : Int) - IntKind.u64.wrap ((q' : Int) * (A : Int))) = (r' : Int) := by
    rw [g3, IntKind.wrap_u64, IntKind.wrap_u64, hr']; omega
  have g9 : (r' : Int) < 4294967296 := by have := N.hA2; omega
  have HS2 := Lib.hid S2
  clear S2 hr' g3 g6 hq' g7
  have F8 := N.F8
  have F9 := N.F9
  have b4 : (Q1 : Int) < 4294967296 := by have := dg_lt U A B D1 N.hD1 N.hU; rw [← N.hQ1] at this; omega
  have b5 : (Q0 : Int) < 4294967296 := by have := dg_lt R1 A B D0 N.hD0 N.hR; rw [← N.hQ0] at this; omega
  have G1 : Hid (((hi * 18446744073709551616 + lo) / y : Nat) = (Q1 * 4294967296 + Q0 : Nat)) := by show _ = _; exact N.G1.symm
  have G0 : Hid ((((hi * 18446744073709551616 + lo) % y : Nat) : Int) = (R0 : Int) / 2 ^ s) := by show _ = _; exact N.G0.symm
  rw [G1.out, G0.out]
  clear G1 G0
  have NN := Lib.hid N
  have HC := Lib.hid CL
  clear CL N
  go_enter Try.func79, Try.ntmps79
  go_wp2_with fail
  refine (HC.out _).mono ?_
  rintro e w' ⟨rfl, rfl⟩
  go_upto_block 0 with fail
  go_cut [15] (fun s15 wx => s15 = .int .u64 (Q1 : Int) ∧ wx = w)
  case first =>
    go_wp2_with fail
    go_loop [15, 16] (fun a b => ∃ q r : Nat, a = .int .u64 (q : Int) ∧ b = .int .u64 (r : Int) ∧ (r : Int) < 4294967296 ∧ Hid (Dg U A B D1 q r)) (fun a _ => (intOf a).toNat)
    case atStart => exact ⟨_, _, rfl, rfl, by omega, HS1⟩
    case round =>
      obtain ⟨k, j, rfl, rfl, hr', HD⟩ := hrel
      have hle : (k : Int) ≤ 4294967297 := by have := HD.out.le; omega
      by_cases c1 : (4294967296 : Int) ≤ (k : Int)
      · have hm := Lib.hid (dg_more HD.out (by omega) NN.out.hD1 NN.out.hU (.inl (by omega)))
        obtain ⟨p, hp⟩ : ∃ p, p = k - 1 := ⟨_, rfl⟩
        have HD' : Hid (Dg U A B D1 p (j + A)) := by rw [hp]; exact hm.out.2
        have hkp : (k : Int) - 1 = (p : Int) := by have := hm.out.1; omega
        have hp1 : (1 : Int) ≤ (k : Int) := by omega
        clear hm hp
        by_cases c3 : (4294967296 : Int) ≤ (j : Int) + (A : Int)
        · have HQ : Hid (p = Q1) := (dg_break HD'.out (by omega) NN.out.hB (by omega) (by omega)).trans NN.out.hQ1.symm
          go_wp2_with fail
          go_meet
          exact ⟨by rw [HQ.out], rfl⟩
        · go_wp2_with fail
          go_round
          case rel => exact ⟨p, j + A, by go_num, by go_num, by omega, HD'⟩
          case measure => simp [intOf]; omega
      · obtain ⟨m, hm⟩ : ∃ m : Nat, m = k * B := ⟨_, rfl⟩
        have hmi : (k : Int) * (B : Int) = (m : Int) := by rw [hm]; rfl
        have hm2 : (m : Int) < 18446744073709551616 := by
          have : k * B ≤ 4294967295 * 4294967295 := Nat.mul_le_mul (by omega) (by have := NN.out.hB; omega)
          omega
        have HM := Lib.hid hm
        clear hm
        by_cases c2 : 4294967296 * (j : Int) + (D1 : Int) < (m : Int)
        · have hmm := Lib.hid (dg_more HD.out (by omega) NN.out.hD1 NN.out.hU (.inr (by rw [← HM.out]; omega)))
          obtain ⟨p, hp⟩ : ∃ p, p = k - 1 := ⟨_, rfl⟩
          have HD' : Hid (Dg U A B D1 p (j + A)) := by rw [hp]; exact hmm.out.2
          have hkp : (k : Int) - 1 = (p : Int) := by have := hmm.out.1; omega
          have hp1 : (1 : Int) ≤ (k : Int) := by have := hmm.out.1; omega
          clear hmm hp
          by_cases c3 : (4294967296 : Int) ≤ (j : Int) + (A : Int)
          · have HQ : Hid (p = Q1) := (dg_break HD'.out (by omega) NN.out.hB (by omega) (by omega)).trans NN.out.hQ1.symm
            go_wp2_with fail
            go_meet
            exact ⟨by rw [HQ.out], rfl⟩
          · go_wp2_with fail
            go_round
            case rel => exact ⟨p, j + A, by go_num, by go_num, by omega, HD'⟩
            case measure => simp [intOf]; omega
        · have HQ : Hid (k = Q1) := (dg_stop HD.out (by omega) (by rw [← HM.out]; omega)).trans NN.out.hQ1.symm
          go_wp2_with fail
          go_meet
          exact ⟨by rw [HQ.out], rfl⟩
  case rest =>
    obtain ⟨rfl, rfl⟩ := hcut
    go_upto_block 2 with fail
    go_cut [18] (fun s18 wx => s18 = .int .u64 (Q0 : Int) ∧ wx = wc)
    case first =>
      go_wp2_with fail
      go_loop [18, 16] (fun a b => ∃ q r : Nat, a = .int .u64 (q : Int) ∧ b = .int .u64 (r : Int) ∧ (r : Int) < 4294967296 ∧ Hid (Dg R1 A B D0 q r)) (fun a _ => (intOf a).toNat)
      case atStart => exact ⟨_, _, rfl, rfl, by omega, HS2⟩
      case round =>
        obtain ⟨k, j, rfl, rfl, hr', HD⟩ := hrel
        have hle : (k : Int) ≤ 4294967297 := by have := HD.out.le; omega
        by_cases c1 : (4294967296 : Int) ≤ (k : Int)
        · have hm := Lib.hid (dg_more HD.out (by omega) NN.out.hD0 NN.out.hR (.inl (by omega)))
          obtain ⟨p, hp⟩ : ∃ p, p = k - 1 := ⟨_, rfl⟩
          have HD' : Hid (Dg R1 A B D0 p (j + A)) := by rw [hp]; exact hm.out.2
          have hkp : (k : Int) - 1 = (p : Int) := by have := hm.out.1; omega
          have hp1 : (1 : Int) ≤ (k : Int) := by omega
          clear hm hp
          by_cases c3 : (4294967296 : Int) ≤ (j : Int) + (A : Int)
          · have HQ : Hid (p = Q0) := (dg_break HD'.out (by omega) NN.out.hB (by omega) (by omega)).trans NN.out.hQ0.symm
            go_wp2_with fail
            go_meet
            exact ⟨by rw [HQ.out], rfl⟩
          · go_wp2_with fail
            go_round
            case rel => exact ⟨p, j + A, by go_num, by go_num, by omega, HD'⟩
            case measure => simp [intOf]; omega
        · obtain ⟨m, hm⟩ : ∃ m : Nat, m = k * B := ⟨_, rfl⟩
          have hmi : (k : Int) * (B : Int) = (m : Int) := by rw [hm]; rfl
          have hm2 : (m : Int) < 18446744073709551616 := by
            have : k * B ≤ 4294967295 * 4294967295 := Nat.mul_le_mul (by omega) (by have := NN.out.hB; omega)
            omega
          have HM := Lib.hid hm
          clear hm
          by_cases c2 : 4294967296 * (j : Int) + (D0 : Int) < (m : Int)
          · have hmm := Lib.hid (dg_more HD.out (by omega) NN.out.hD0 NN.out.hR (.inr (by rw [← HM.out]; omega)))
            obtain ⟨p, hp⟩ : ∃ p, p = k - 1 := ⟨_, rfl⟩
            have HD' : Hid (Dg R1 A B D0 p (j + A)) := by rw [hp]; exact hmm.out.2
            have hkp : (k : Int) - 1 = (p : Int) := by have := hmm.out.1; omega
            have hp1 : (1 : Int) ≤ (k : Int) := by have := hmm.out.1; omega
            clear hmm hp
            by_cases c3 : (4294967296 : Int) ≤ (j : Int) + (A : Int)
            · have HQ : Hid (p = Q0) := (dg_break HD'.out (by omega) NN.out.hB (by omega) (by omega)).trans NN.out.hQ0.symm
              go_wp2_with fail
              go_meet
              exact ⟨by rw [HQ.out], rfl⟩
            · go_wp2_with fail
              go_round
              case rel => exact ⟨p, j + A, by go_num, by go_num, by omega, HD'⟩
              case measure => simp [intOf]; omega
          · have HQ : Hid (k = Q0) := (dg_stop HD.out (by omega) (by rw [← HM.out]; omega)).trans NN.out.hQ0.symm
            go_wp2_with fail
            go_meet
            exact ⟨by rw [HQ.out], rfl⟩
    case rest =>
      obtain ⟨rfl, rfl⟩ := hcut
      go_wp2_with fail
      go_ret2
      exact ⟨by rw [Int.natCast_add, Int.natCast_mul]; rfl, Below.refl _ _⟩

theorem dvm (N Y : Nat) (h : 0 < Y) : ∃ Q R, Q = N / Y ∧ R = N % Y ∧ R < Y ∧ Q * Y + R = N :=
  ⟨N / Y, N % Y, rfl, rfl, Nat.mod_lt _ h, by rw [Nat.mul_comm]; exact Nat.div_add_mod N Y⟩
theorem div64_nums (hi lo y s : Nat) (hlo : lo < 18446744073709551616) (hy : y < 18446744073709551616) (hh : hi < y) (hs : s ≤ 63) (hY1 : 9223372036854775808 ≤ y * 2 ^ s) (hY2 : y * 2 ^ s < 18446744073709551616) :
    ∃ Y A B U D D1 D0 Q1 R1 Q0 R0, DvN hi lo y s Y A B U D D1 D0 Q1 R1 Q0 R0 := by
  have hp : 0 < 2 ^ s := Nat.pow_pos (by omega)
  obtain ⟨Y, hY⟩ : ∃ Y, Y = y * 2 ^ s := ⟨_, rfl⟩
  rw [← hY] at hY1 hY2
  obtain ⟨hsh, hsl⟩ := shift_high hi lo s hs hlo
  obtain ⟨U, hU⟩ : ∃ U, U = hi * 2 ^ s + lo / 2 ^ (64 - s) := ⟨_, rfl⟩
  obtain ⟨D, hD⟩ : ∃ D, D = lo * 2 ^ s % 18446744073709551616 := ⟨_, rfl⟩
  rw [← hU, ← hD] at hsh
  have hUY : U < Y := by
    have h1 : hi * 2 ^ s + 2 ^ s ≤ Y := by rw [hY]; have : (hi + 1) * 2 ^ s ≤ y * 2 ^ s := Nat.mul_le_mul_right _ hh; rw [Nat.add_mul, Nat.one_mul] at this; exact this
    omega
  have hU1 : hi * 2 ^ s ≤ U := by rw [hU]; exact Nat.le_add_right _ _
  have hU3 : lo / 2 ^ (64 - s) ≤ U := by rw [hU]; exact Nat.le_add_left _ _
  have hYp : Y / 4294967296 * 4294967296 + Y % 4294967296 = Y := Nat.div_add_mod' Y 4294967296
  have hDp : D / 4294967296 * 4294967296 + D % 4294967296 = D := Nat.div_add_mod' D 4294967296
  have hDl : D < 18446744073709551616 := by rw [hD]; exact Nat.mod_lt _ (by omega)
  have hy0 : 0 < Y := by omega
  obtain ⟨Q1, R1, hQ1, hR1, hR1l, r1⟩ := dvm (U * 4294967296 + D / 4294967296) Y hy0
  obtain ⟨Q0, R0, hQ0, hR0, hR0l, r0⟩ := dvm (R1 * 4294967296 + D % 4294967296) Y hy0
  have td := two_digits U (D / 4294967296) (D % 4294967296) Y hy0
  rw [← hQ1, ← hR1, ← hQ0, ← hR0] at td
  have hN : (U * 4294967296 + D / 4294967296) * 4294967296 + D % 4294967296 = (hi * 18446744073709551616 + lo) * 2 ^ s := by
    rw [hsh, Nat.add_mul, Nat.mul_assoc, Nat.add_assoc, hDp]
  have td1 := td.1
  have td2 := td.2
  clear td
  rw [hN, hY] at td1 td2
  have sh := shifted (hi * 18446744073709551616 + lo) y (2 ^ s) hp
  have hand : ∀ a : Nat, a < 18446744073709551616 → bits .and .u64 (a : Int) 4294967295 = ((a % 4294967296 : Nat) : Int) := Mul64.maskN
  refine ⟨Y, Y / 4294967296, Y % 4294967296, U, D, D / 4294967296, D % 4294967296, Q1, R1, Q0, R0, ?_⟩
  refine { hA1 := by omega, hA2 := by omega, hB := by omega, hU := by omega, hR := by omega, hD1 := by omega, hD0 := by omega, hQ1 := by rw [hYp]; exact hQ1, hQ0 := by rw [hYp]; exact hQ0, F1 := ?_, F2 := by omega, F3 := hand Y hY2, F4 := ?_, F5 := ?_, F6 := by omega, F7 := hand D hDl, F8 := ?_, F9 := ?_, G1 := ?_, G0 := ?_ }
  · have e : (y : Int) * 2 ^ s = (Y : Int) := by rw [hY, Int.natCast_mul, Int.natCast_pow]; rfl
    rw [e, IntKind.wrap_u64]; omega
  · have e : (hi : Int) * 2 ^ s = ((hi * 2 ^ s : Nat) : Int) := by rw [Int.natCast_mul, Int.natCast_pow]; rfl
    have e2 : (lo : Int) / 2 ^ (64 - s) = ((lo / 2 ^ (64 - s) : Nat) : Int) := by rw [Int.natCast_ediv, Int.natCast_pow]; rfl
    have l1 : hi * 2 ^ s < 18446744073709551616 := by omega
    have l2 : lo / 2 ^ (64 - s) < 18446744073709551616 := Nat.lt_of_le_of_lt hU3 (by omega)
    have e3 : IntKind.u64.wrap ((hi * 2 ^ s : Nat) : Int) = ((hi * 2 ^ s : Nat) : Int) := by
      generalize hi * 2 ^ s = z at *
      rw [IntKind.wrap_u64]; omega
    rw [e, e2, e3, bits_or_u64_nat _ _ l1 l2]
    have e4 : hi * 2 ^ s = hi <<< s := (Nat.shiftLeft_eq hi s).symm
    rw [e4, ← Nat.shiftLeft_add_eq_or_of_lt hsl, Nat.shiftLeft_eq, hU]
  · have e : (lo : Int) * 2 ^ s = ((lo * 2 ^ s : Nat) : Int) := by rw [Int.natCast_mul, Int.natCast_pow]; rfl
    rw [e, IntKind.wrap_u64, hD]; omega
  · have e : (Q1 : Int) * (Y : Int) = ((Q1 * Y : Nat) : Int) := rfl
    rw [e]; simp only [IntKind.wrap_u64]; omega
  · have e : (Q0 : Int) * (Y : Int) = ((Q0 * Y : Nat) : Int) := rfl
    rw [e]; simp only [IntKind.wrap_u64]; omega
  · rw [td1, sh.1]
  · have e : (R0 : Int) / 2 ^ s = ((R0 / 2 ^ s : Nat) : Int) := by rw [Int.natCast_ediv, Int.natCast_pow]; rfl
    rw [e, td2, sh.2]

theorem div64_any (hi lo y : Nat) (w : World) (hlo : lo < 18446744073709551616) (hy : y < 18446744073709551616) (hh : hi < y) :
    Calls Try.prog 79 #[.int .u64 (hi : Int), .int .u64 (lo : Int), .int .u64 (y : Int)] w fun e w' => e = .returned (.tuple #[.int .u64 (((hi * 18446744073709551616 + lo) / y : Nat) : Int), .int .u64 (((hi * 18446744073709551616 + lo) % y : Nat) : Int)]) ∧ Below w.heap.size w w' := by
  by_cases h0 : hi = 0
  · subst h0
    have := div64_small lo y w hlo hy (by omega)
    rw [Nat.zero_mul, Nat.zero_add]
    exact this
  · have hb := Lib.bitLenAux_bounds 64 y hy (by omega)
    obtain ⟨L, hL⟩ : ∃ L, L = Lib.bitLen y := ⟨_, rfl⟩
    have hb' : 1 ≤ L ∧ 2 ^ (L - 1) ≤ y ∧ y < 2 ^ L := by rw [hL]; exact hb
    have hL64 : L ≤ 64 := by rw [hL]; exact Lib.bitLen_le y 64 (by omega) (by omega)
    have hY1 : 9223372036854775808 ≤ y * 2 ^ (64 - L) := by
      have h1 : 2 ^ (L - 1) * 2 ^ (64 - L) ≤ y * 2 ^ (64 - L) := Nat.mul_le_mul_right _ hb'.2.1
      rw [← Nat.pow_add, show L - 1 + (64 - L) = 63 by omega] at h1
      exact h1
    have hY2 : y * 2 ^ (64 - L) < 18446744073709551616 := by
      have h1 : y * 2 ^ (64 - L) < 2 ^ L * 2 ^ (64 - L) := Nat.mul_lt_mul_of_pos_right hb'.2.2 (Nat.pow_pos (by omega))
      rw [← Nat.pow_add, show L + (64 - L) = 64 by omega] at h1
      exact h1
    obtain ⟨Y, A, B, U, D, D1, D0, Q1, R1, Q0, R0, N⟩ := div64_nums hi lo y (64 - L) hlo hy hh (by omega) hY1 hY2
    refine div64_big hi lo y (64 - L) Y A B U D D1 D0 Q1 R1 Q0 R0 w (by omega) (by omega) (by omega) (by omega) (by omega) N ?_
    intro wx
    refine (Try.bits_LeadingZeros64 (y : Int) wx (by omega) (by omega)).mono ?_
    rintro e w' ⟨rfl, rfl⟩
    refine ⟨?_, rfl⟩
    rw [show ((y : Int)).toNat = y from rfl, ← hL, show ((64 - L : Nat) : Int) = 64 - (L : Int) by omega]
end Go.Proofs.Ytdkigfcglfgpoaa.wd
