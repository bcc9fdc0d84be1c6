/- Contracts of ratio.Make and ratio.Valid. -/
import Derived.Test.YtlcmnfhkicjclaaDoorRtA
namespace Go.Proofs.YtlcmnfhkicjclaaDoor
open Go.RowKit
set_option linter.unusedVariables false

/-- a quotient of two integers, by its parts -/
structure MkF (n d : Int) (N D g U L : Nat) : Prop where
  hN : N = n.natAbs
  hD : D = d.natAbs
  hg : g = N.gcd D
  g0 : 0 < g
  gD : g ≤ D
  eU : (N : Int).tdiv (g : Int) = (U : Int)
  eL : (D : Int).tdiv (g : Int) = (L : Int)
  lU : U ≤ N
  lL : L ≤ D
  L1 : 1 ≤ L
  mU : (U : Int) * (g : Int) = (N : Int)
  mL : (L : Int) * (g : Int) = (D : Int)
  den : (Rat.divInt n d).den = L
  num : (Rat.divInt n d).num = if (n < 0 ∧ ¬ d < 0) ∨ (¬ n < 0 ∧ d < 0) then -(U : Int) else (U : Int)
theorem mkF (n d : Int) (hd : d ≠ 0) : ∃ N D g U L : Nat, MkF n d N D g U L := by
  have hg := gcd_pos n d hd
  have hgD : n.natAbs.gcd d.natAbs ∣ d.natAbs := Nat.gcd_dvd_right _ _
  have hgN : n.natAbs.gcd d.natAbs ∣ n.natAbs := Nat.gcd_dvd_left _ _
  have h1 := divInt_den n d hd
  have h2 := divInt_num n d hd
  refine ⟨n.natAbs, d.natAbs, _, _, _, rfl, rfl, rfl, hg, Nat.le_of_dvd (by omega) hgD, rfl, rfl, Nat.div_le_self _ _, Nat.div_le_self _ _, Nat.div_pos (Nat.le_of_dvd (by omega) hgD) hg, ?_, ?_, h1, h2⟩
  · exact_mod_cast Nat.div_mul_cancel hgN
  · exact_mod_cast Nat.div_mul_cancel hgD
theorem MkF.big {n d : Int} {N D g U L : Nat} (F : MkF n d N D g U L) (h : 1073741824 < U ∨ 1073741824 < L) : rfit (Rat.divInt n d) = false := by
  rw [rfit_not, F.num, F.den]
  split <;> omega
theorem MkF.fit {n d : Int} {N D g U L : Nat} (F : MkF n d N D g U L) (h : U ≤ 1073741824) (h' : L ≤ 1073741824) : rfit (Rat.divInt n d) = true := by
  rw [rfit_iff, F.num, F.den]
  split <;> omega

theorem Make_zero (n : Int) (w : World) :
    Calls Tryd.prog 13 #[.int .i64 n, .int .i64 0] w fun e w' => e = .returned (.tuple #[.agg #[.int .i64 0, .int .i64 0], .int .i64 16]) ∧ Below w.heap.size w w' := by
  obtain ⟨a0, a1, af0, af1, alt⟩ := At2.new w (.int .i64 0) (.int .i64 0) 24
  obtain ⟨s0, s1⟩ := set2 a0 a1 (.int .i64 0) (.int .i64 0)
  go_enter Tryd.func13, Tryd.ntmps13
  go_wp2
  refine bodyPost_ret (v := .tuple #[.agg #[.int .i64 0, .int .i64 0], .int .i64 16]) (by simp [results, Tryd.results13, go_sem]) rfl ⟨rfl, ?_⟩
  exact below1 _ _

set_option maxRecDepth 100000 in
set_option maxHeartbeats 2000000 in
theorem Make_b1 (n d : Int) (w : World) (N D g U L : Nat) (F : MkF n d N D g U L) (hd : d ≠ 0) (n1 : -9223372036854775808 ≤ n) (n2 : n ≤ 9223372036854775807) (d1 : -9223372036854775808 ≤ d) (d2 : d ≤ 9223372036854775807) (hU : (1073741824 : Int) < (U : Int)) :
    Calls Tryd.prog 13 #[.int .i64 n, .int .i64 d] w fun e w' => e = .returned (.tuple #[.agg #[.int .i64 (rN (Rat.divInt n d)), .int .i64 (rD (Rat.divInt n d))], .int .i64 (rE (Rat.divInt n d))]) ∧ Below w.heap.size w w' := by
  have CN := Lib.hid (fun wx => absolute_any n wx n1 n2)
  have CD := Lib.hid (fun wx => absolute_any d wx d1 d2)
  rw [← F.hN] at CN
  rw [← F.hD] at CD
  have lN : N < 18446744073709551616 := by have := F.hN; omega
  have lD : D < 18446744073709551616 := by have := F.hD; omega
  have CG := Lib.hid (fun wx => cd_any N D wx lN lD)
  rw [← F.hg] at CG
  have t0 : (d == 0) = false := beq_eq_false_iff_ne.2 hd
  have t1 : ¬ (g : Int) = 0 := by have := F.g0; omega
  have t2 := F.eU
  have t3 := F.eL
  have w1 : IntKind.u64.wrap (U : Int) = (U : Int) := by rw [IntKind.wrap_u64]; have := F.lU; omega
  have w2 : IntKind.u64.wrap (L : Int) = (L : Int) := by rw [IntKind.wrap_u64]; have := F.lL; omega
  have HB : 1073741824 < U ∨ 1073741824 < L := by omega
  rw [rN_big (F.big HB), rD_big (F.big HB), rE_big (F.big HB)]
  clear F hd n1 n2 d1 d2 lN lD HB
  go_enter Tryd.func13, Tryd.ntmps13
  go_wp2_with fail
  refine (CN.out _).mono ?_
  rintro e w' ⟨rfl, rfl⟩
  go_wp2_with fail
  refine (CD.out _).mono ?_
  rintro e w' ⟨rfl, rfl⟩
  go_wp2_with fail
  refine (CG.out _).mono ?_
  rintro e w3 ⟨rfl, hb3⟩
  have A := At2.of hb3
  have HB := Lib.hid (alloc_below hb3)
  obtain ⟨a0, a1, af0, af1, alt⟩ := A
  clear hb3
  go_wp2_with fail
  go_quiet (fail)
  obtain ⟨s0, s1⟩ := set2 (w1 := w3.drewN nq) (b := w.heap.size) a0 a1 (.int .i64 0) (.int .i64 0)
  go_wp2
  refine bodyPost_ret (v := .tuple #[.agg #[.int .i64 0, .int .i64 0], .int .i64 5]) (by simp [results, Tryd.results13, go_sem, s0, s1]) rfl ⟨rfl, ?_⟩
  exact below_set2 (HB.out.trans (below_drewN _ _ _)) (by omega) _ _

set_option maxRecDepth 100000 in
set_option maxHeartbeats 2000000 in
theorem Make_b2 (n d : Int) (w : World) (N D g U L : Nat) (F : MkF n d N D g U L) (hd : d ≠ 0) (n1 : -9223372036854775808 ≤ n) (n2 : n ≤ 9223372036854775807) (d1 : -9223372036854775808 ≤ d) (d2 : d ≤ 9223372036854775807) (hU : (U : Int) ≤ 1073741824) (hL : (1073741824 : Int) < (L : Int)) :
    Calls Tryd.prog 13 #[.int .i64 n, .int .i64 d] w fun e w' => e = .returned (.tuple #[.agg #[.int .i64 (rN (Rat.divInt n d)), .int .i64 (rD (Rat.divInt n d))], .int .i64 (rE (Rat.divInt n d))]) ∧ Below w.heap.size w w' := by
  have CN := Lib.hid (fun wx => absolute_any n wx n1 n2)
  have CD := Lib.hid (fun wx => absolute_any d wx d1 d2)
  rw [← F.hN] at CN
  rw [← F.hD] at CD
  have lN : N < 18446744073709551616 := by have := F.hN; omega
  have lD : D < 18446744073709551616 := by have := F.hD; omega
  have CG := Lib.hid (fun wx => cd_any N D wx lN lD)
  rw [← F.hg] at CG
  have t0 : (d == 0) = false := beq_eq_false_iff_ne.2 hd
  have t1 : ¬ (g : Int) = 0 := by have := F.g0; omega
  have t2 := F.eU
  have t3 := F.eL
  have w1 : IntKind.u64.wrap (U : Int) = (U : Int) := by rw [IntKind.wrap_u64]; have := F.lU; omega
  have w2 : IntKind.u64.wrap (L : Int) = (L : Int) := by rw [IntKind.wrap_u64]; have := F.lL; omega
  have HB : 1073741824 < U ∨ 1073741824 < L := by omega
  rw [rN_big (F.big HB), rD_big (F.big HB), rE_big (F.big HB)]
  clear F hd n1 n2 d1 d2 lN lD HB
  go_enter Tryd.func13, Tryd.ntmps13
  go_wp2_with fail
  refine (CN.out _).mono ?_
  rintro e w' ⟨rfl, rfl⟩
  go_wp2_with fail
  refine (CD.out _).mono ?_
  rintro e w' ⟨rfl, rfl⟩
  go_wp2_with fail
  refine (CG.out _).mono ?_
  rintro e w3 ⟨rfl, hb3⟩
  have A := At2.of hb3
  have HB := Lib.hid (alloc_below hb3)
  obtain ⟨a0, a1, af0, af1, alt⟩ := A
  clear hb3
  go_wp2_with fail
  go_quiet (fail)
  obtain ⟨s0, s1⟩ := set2 (w1 := w3.drewN nq) (b := w.heap.size) a0 a1 (.int .i64 0) (.int .i64 0)
  go_wp2
  refine bodyPost_ret (v := .tuple #[.agg #[.int .i64 0, .int .i64 0], .int .i64 5]) (by simp [results, Tryd.results13, go_sem, s0, s1]) rfl ⟨rfl, ?_⟩
  exact below_set2 (HB.out.trans (below_drewN _ _ _)) (by omega) _ _

set_option maxRecDepth 100000 in
set_option maxHeartbeats 2000000 in
theorem Make_f1 (n d : Int) (w : World) (N D g U L : Nat) (F : MkF n d N D g U L) (hd : d ≠ 0) (n1 : -9223372036854775808 ≤ n) (n2 : n ≤ 9223372036854775807) (d1 : -9223372036854775808 ≤ d) (d2 : d ≤ 9223372036854775807) (hU : (U : Int) ≤ 1073741824) (hL : (L : Int) ≤ 1073741824) (hn : n < 0) (hd2 : d < 0) :
    Calls Tryd.prog 13 #[.int .i64 n, .int .i64 d] w fun e w' => e = .returned (.tuple #[.agg #[.int .i64 (rN (Rat.divInt n d)), .int .i64 (rD (Rat.divInt n d))], .int .i64 (rE (Rat.divInt n d))]) ∧ Below w.heap.size w w' := by
  have CN := Lib.hid (fun wx => absolute_any n wx n1 n2)
  have CD := Lib.hid (fun wx => absolute_any d wx d1 d2)
  rw [← F.hN] at CN
  rw [← F.hD] at CD
  have lN : N < 18446744073709551616 := by have := F.hN; omega
  have lD : D < 18446744073709551616 := by have := F.hD; omega
  have CG := Lib.hid (fun wx => cd_any N D wx lN lD)
  rw [← F.hg] at CG
  have t0 : (d == 0) = false := beq_eq_false_iff_ne.2 hd
  have t1 : ¬ (g : Int) = 0 := by have := F.g0; omega
  have t2 := F.eU
  have t3 := F.eL
  have w1 : IntKind.u64.wrap (U : Int) = (U : Int) := by rw [IntKind.wrap_u64]; have := F.lU; omega
  have w2 : IntKind.u64.wrap (L : Int) = (L : Int) := by rw [IntKind.wrap_u64]; have := F.lL; omega
  have u0 : (0 : Int) ≤ (U : Int) := by omega
  have l1 : (1 : Int) ≤ (L : Int) := by have := F.L1; omega
  rw [rN_fit (F.fit (by omega) (by omega)), rD_fit (F.fit (by omega) (by omega)), rE_fit (F.fit (by omega) (by omega)), F.num, F.den, if_neg (by omega)]
  have tn : decide (n < 0) = true := decide_eq_true (by omega)
  have td : decide (d < 0) = true := decide_eq_true (by omega)
  clear hn hd2
  clear F hd n1 n2 d1 d2 lN lD
  go_enter Tryd.func13, Tryd.ntmps13
  go_wp2_with fail
  refine (CN.out _).mono ?_
  rintro e w' ⟨rfl, rfl⟩
  go_wp2_with fail
  refine (CD.out _).mono ?_
  rintro e w' ⟨rfl, rfl⟩
  go_wp2_with fail
  refine (CG.out _).mono ?_
  rintro e w3 ⟨rfl, hb3⟩
  have A := At2.of hb3
  have HB := Lib.hid (alloc_below hb3)
  obtain ⟨a0, a1, af0, af1, alt⟩ := A
  clear hb3
  go_wp2_with fail
  go_quiet (fail)
  have A' : At2 (w3.drewN nq) w.heap.size (.int .i64 0) (.int .i64 0) := ⟨a0, a1, af0, af1, alt⟩
  have HB2 := Lib.hid (HB.out.trans (below_drewN w.heap.size w3 nq))
  clear a0 a1 af0 af1 alt HB
  generalize w3.drewN nq = wq at A' HB2 ⊢
  obtain ⟨c0, c1, cf0, cf1, clt⟩ := A'
  obtain ⟨s0, s1⟩ := put2 c0 c1 (.int .i64 (U : Int)) (.int .i64 (L : Int)) (.cells #[.int .i64 (U : Int), .int .i64 (L : Int)] 24)
  go_wp2
  refine bodyPost_ret (v := .tuple #[.agg #[.int .i64 (U : Int), .int .i64 (L : Int)], .int .i64 0]) (by simp [results, Tryd.results13, go_sem, s0, s1]) rfl ⟨rfl, ?_⟩
  exact below_put2 HB2.out (Nat.le_refl _) (by omega) _ _ _

set_option maxRecDepth 100000 in
set_option maxHeartbeats 2000000 in
theorem Make_f2 (n d : Int) (w : World) (N D g U L : Nat) (F : MkF n d N D g U L) (hd : d ≠ 0) (n1 : -9223372036854775808 ≤ n) (n2 : n ≤ 9223372036854775807) (d1 : -9223372036854775808 ≤ d) (d2 : d ≤ 9223372036854775807) (hU : (U : Int) ≤ 1073741824) (hL : (L : Int) ≤ 1073741824) (hn : n < 0) (hd2 : 0 ≤ d) :
    Calls Tryd.prog 13 #[.int .i64 n, .int .i64 d] w fun e w' => e = .returned (.tuple #[.agg #[.int .i64 (rN (Rat.divInt n d)), .int .i64 (rD (Rat.divInt n d))], .int .i64 (rE (Rat.divInt n d))]) ∧ Below w.heap.size w w' := by
  have CN := Lib.hid (fun wx => absolute_any n wx n1 n2)
  have CD := Lib.hid (fun wx => absolute_any d wx d1 d2)
  rw [← F.hN] at CN
  rw [← F.hD] at CD
  have lN : N < 18446744073709551616 := by have := F.hN; omega
  have lD : D < 18446744073709551616 := by have := F.hD; omega
  have CG := Lib.hid (fun wx => cd_any N D wx lN lD)
  rw [← F.hg] at CG
  have t0 : (d == 0) = false := beq_eq_false_iff_ne.2 hd
  have t1 : ¬ (g : Int) = 0 := by have := F.g0; omega
  have t2 := F.eU
  have t3 := F.eL
  have w1 : IntKind.u64.wrap (U : Int) = (U : Int) := by rw [IntKind.wrap_u64]; have := F.lU; omega
  have w2 : IntKind.u64.wrap (L : Int) = (L : Int) := by rw [IntKind.wrap_u64]; have := F.lL; omega
  have u0 : (0 : Int) ≤ (U : Int) := by omega
  have l1 : (1 : Int) ≤ (L : Int) := by have := F.L1; omega
  rw [rN_fit (F.fit (by omega) (by omega)), rD_fit (F.fit (by omega) (by omega)), rE_fit (F.fit (by omega) (by omega)), F.num, F.den, if_pos (by omega)]
  have tn : decide (n < 0) = true := decide_eq_true (by omega)
  have td : decide (d < 0) = false := decide_eq_false (by omega)
  clear hn hd2
  clear F hd n1 n2 d1 d2 lN lD
  go_enter Tryd.func13, Tryd.ntmps13
  go_wp2_with fail
  refine (CN.out _).mono ?_
  rintro e w' ⟨rfl, rfl⟩
  go_wp2_with fail
  refine (CD.out _).mono ?_
  rintro e w' ⟨rfl, rfl⟩
  go_wp2_with fail
  refine (CG.out _).mono ?_
  rintro e w3 ⟨rfl, hb3⟩
  have A := At2.of hb3
  have HB := Lib.hid (alloc_below hb3)
  obtain ⟨a0, a1, af0, af1, alt⟩ := A
  clear hb3
  go_wp2_with fail
  go_quiet (fail)
  have A' : At2 (w3.drewN nq) w.heap.size (.int .i64 0) (.int .i64 0) := ⟨a0, a1, af0, af1, alt⟩
  have HB2 := Lib.hid (HB.out.trans (below_drewN w.heap.size w3 nq))
  clear a0 a1 af0 af1 alt HB
  generalize w3.drewN nq = wq at A' HB2 ⊢
  obtain ⟨c0, c1, cf0, cf1, clt⟩ := A'
  obtain ⟨s0, s1⟩ := put2 c0 c1 (.int .i64 (-(U : Int))) (.int .i64 (L : Int)) (.cells #[.int .i64 (-(U : Int)), .int .i64 (L : Int)] 24)
  go_wp2
  refine bodyPost_ret (v := .tuple #[.agg #[.int .i64 (-(U : Int)), .int .i64 (L : Int)], .int .i64 0]) (by simp [results, Tryd.results13, go_sem, s0, s1]) rfl ⟨rfl, ?_⟩
  exact below_put2 HB2.out (Nat.le_refl _) (by omega) _ _ _

set_option maxRecDepth 100000 in
set_option maxHeartbeats 2000000 in
theorem Make_f3 (n d : Int) (w : World) (N D g U L : Nat) (F : MkF n d N D g U L) (hd : d ≠ 0) (n1 : -9223372036854775808 ≤ n) (n2 : n ≤ 9223372036854775807) (d1 : -9223372036854775808 ≤ d) (d2 : d ≤ 9223372036854775807) (hU : (U : Int) ≤ 1073741824) (hL : (L : Int) ≤ 1073741824) (hn : 0 ≤ n) (hd2 : d < 0) :
    Calls Tryd.prog 13 #[.int .i64 n, .int .i64 d] w fun e w' => e = .returned (.tuple #[.agg #[.int .i64 (rN (Rat.divInt n d)), .int .i64 (rD (Rat.divInt n d))], .int .i64 (rE (Rat.divInt n d))]) ∧ Below w.heap.size w w' := by
  have CN := Lib.hid (fun wx => absolute_any n wx n1 n2)
  have CD := Lib.hid (fun wx => absolute_any d wx d1 d2)
  rw [← F.hN] at CN
  rw [← F.hD] at CD
  have lN : N < 18446744073709551616 := by have := F.hN; omega
  have lD : D < 18446744073709551616 := by have := F.hD; omega
  have CG := Lib.hid (fun wx => cd_any N D wx lN lD)
  rw [← F.hg] at CG
  have t0 : (d == 0) = false := beq_eq_false_iff_ne.2 hd
  have t1 : ¬ (g : Int) = 0 := by have := F.g0; omega
  have t2 := F.eU
  have t3 := F.eL
  have w1 : IntKind.u64.wrap (U : Int) = (U : Int) := by rw [IntKind.wrap_u64]; have := F.lU; omega
  have w2 : IntKind.u64.wrap (L : Int) = (L : Int) := by rw [IntKind.wrap_u64]; have := F.lL; omega
  have u0 : (0 : Int) ≤ (U : Int) := by omega
  have l1 : (1 : Int) ≤ (L : Int) := by have := F.L1; omega
  rw [rN_fit (F.fit (by omega) (by omega)), rD_fit (F.fit (by omega) (by omega)), rE_fit (F.fit (by omega) (by omega)), F.num, F.den, if_pos (by omega)]
  have tn : decide (n < 0) = false := decide_eq_false (by omega)
  have td : decide (d < 0) = true := decide_eq_true (by omega)
  clear hn hd2
  clear F hd n1 n2 d1 d2 lN lD
  go_enter Tryd.func13, Tryd.ntmps13
  go_wp2_with fail
  refine (CN.out _).mono ?_
  rintro e w' ⟨rfl, rfl⟩
  go_wp2_with fail
  refine (CD.out _).mono ?_
  rintro e w' ⟨rfl, rfl⟩
  go_wp2_with fail
  refine (CG.out _).mono ?_
  rintro e w3 ⟨rfl, hb3⟩
  have A := At2.of hb3
  have HB := Lib.hid (alloc_below hb3)
  obtain ⟨a0, a1, af0, af1, alt⟩ := A
  clear hb3
  go_wp2_with fail
  go_quiet (fail)
  have A' : At2 (w3.drewN nq) w.heap.size (.int .i64 0) (.int .i64 0) := ⟨a0, a1, af0, af1, alt⟩
  have HB2 := Lib.hid (HB.out.trans (below_drewN w.heap.size w3 nq))
  clear a0 a1 af0 af1 alt HB
  generalize w3.drewN nq = wq at A' HB2 ⊢
  obtain ⟨c0, c1, cf0, cf1, clt⟩ := A'
  obtain ⟨s0, s1⟩ := put2 c0 c1 (.int .i64 (-(U : Int))) (.int .i64 (L : Int)) (.cells #[.int .i64 (-(U : Int)), .int .i64 (L : Int)] 24)
  go_wp2
  refine bodyPost_ret (v := .tuple #[.agg #[.int .i64 (-(U : Int)), .int .i64 (L : Int)], .int .i64 0]) (by simp [results, Tryd.results13, go_sem, s0, s1]) rfl ⟨rfl, ?_⟩
  exact below_put2 HB2.out (Nat.le_refl _) (by omega) _ _ _

set_option maxRecDepth 100000 in
set_option maxHeartbeats 2000000 in
theorem Make_f4 (n d : Int) (w : World) (N D g U L : Nat) (F : MkF n d N D g U L) (hd : d ≠ 0) (n1 : -9223372036854775808 ≤ n) (n2 : n ≤ 9223372036854775807) (d1 : -9223372036854775808 ≤ d) (d2 : d ≤ 9223372036854775807) (hU : (U : Int) ≤ 1073741824) (hL : (L : Int) ≤ 1073741824) (hn : 0 ≤ n) (hd2 : 0 ≤ d) :
    Calls Tryd.prog 13 #[.int .i64 n, .int .i64 d] w fun e w' => e = .returned (.tuple #[.agg #[.int .i64 (rN (Rat.divInt n d)), .int .i64 (rD (Rat.divInt n d))], .int .i64 (rE (Rat.divInt n d))]) ∧ Below w.heap.size w w' := by
  have CN := Lib.hid (fun wx => absolute_any n wx n1 n2)
  have CD := Lib.hid (fun wx => absolute_any d wx d1 d2)
  rw [← F.hN] at CN
  rw [← F.hD] at CD
  have lN : N < 18446744073709551616 := by have := F.hN; omega
  have lD : D < 18446744073709551616 := by have := F.hD; omega
  have CG := Lib.hid (fun wx => cd_any N D wx lN lD)
  rw [← F.hg] at CG
  have t0 : (d == 0) = false := beq_eq_false_iff_ne.2 hd
  have t1 : ¬ (g : Int) = 0 := by have := F.g0; omega
  have t2 := F.eU
  have t3 := F.eL
  have w1 : IntKind.u64.wrap (U : Int) = (U : Int) := by rw [IntKind.wrap_u64]; have := F.lU; omega
  have w2 : IntKind.u64.wrap (L : Int) = (L : Int) := by rw [IntKind.wrap_u64]; have := F.lL; omega
  have u0 : (0 : Int) ≤ (U : Int) := by omega
  have l1 : (1 : Int) ≤ (L : Int) := by have := F.L1; omega
  rw [rN_fit (F.fit (by omega) (by omega)), rD_fit (F.fit (by omega) (by omega)), rE_fit (F.fit (by omega) (by omega)), F.num, F.den, if_neg (by omega)]
  have tn : decide (n < 0) = false := decide_eq_false (by omega)
  have td : decide (d < 0) = false := decide_eq_false (by omega)
  clear hn hd2
  clear F hd n1 n2 d1 d2 lN lD
  go_enter Tryd.func13, Tryd.ntmps13
  go_wp2_with fail
  refine (CN.out _).mono ?_
  rintro e w' ⟨rfl, rfl⟩
  go_wp2_with fail
  refine (CD.out _).mono ?_
  rintro e w' ⟨rfl, rfl⟩
  go_wp2_with fail
  refine (CG.out _).mono ?_
  rintro e w3 ⟨rfl, hb3⟩
  have A := At2.of hb3
  have HB := Lib.hid (alloc_below hb3)
  obtain ⟨a0, a1, af0, af1, alt⟩ := A
  clear hb3
  go_wp2_with fail
  go_quiet (fail)
  have A' : At2 (w3.drewN nq) w.heap.size (.int .i64 0) (.int .i64 0) := ⟨a0, a1, af0, af1, alt⟩
  have HB2 := Lib.hid (HB.out.trans (below_drewN w.heap.size w3 nq))
  clear a0 a1 af0 af1 alt HB
  generalize w3.drewN nq = wq at A' HB2 ⊢
  obtain ⟨c0, c1, cf0, cf1, clt⟩ := A'
  obtain ⟨s0, s1⟩ := put2 c0 c1 (.int .i64 (U : Int)) (.int .i64 (L : Int)) (.cells #[.int .i64 (U : Int), .int .i64 (L : Int)] 24)
  go_wp2
  refine bodyPost_ret (v := .tuple #[.agg #[.int .i64 (U : Int), .int .i64 (L : Int)], .int .i64 0]) (by simp [results, Tryd.results13, go_sem, s0, s1]) rfl ⟨rfl, ?_⟩
  exact below_put2 HB2.out (Nat.le_refl _) (by omega) _ _ _

theorem Make_any (n d : Int) (w : World) (hd : d ≠ 0) (n1 : -9223372036854775808 ≤ n) (n2 : n ≤ 9223372036854775807) (d1 : -9223372036854775808 ≤ d) (d2 : d ≤ 9223372036854775807) :
    Calls Tryd.prog 13 #[.int .i64 n, .int .i64 d] w fun e w' => e = .returned (.tuple #[.agg #[.int .i64 (rN (Rat.divInt n d)), .int .i64 (rD (Rat.divInt n d))], .int .i64 (rE (Rat.divInt n d))]) ∧ Below w.heap.size w w' := by
  obtain ⟨N, D, g, U, L, F⟩ := mkF n d hd
  by_cases hU : (1073741824 : Int) < (U : Int)
  · exact Make_b1 n d w N D g U L F hd n1 n2 d1 d2 hU
  · by_cases hL : (1073741824 : Int) < (L : Int)
    · exact Make_b2 n d w N D g U L F hd n1 n2 d1 d2 (by omega) hL
    · by_cases hn : n < 0
      · by_cases h : d < 0
        · exact Make_f1 n d w N D g U L F hd n1 n2 d1 d2 (by omega) (by omega) hn h
        · exact Make_f2 n d w N D g U L F hd n1 n2 d1 d2 (by omega) (by omega) hn (by omega)
      · by_cases h : d < 0
        · exact Make_f3 n d w N D g U L F hd n1 n2 d1 d2 (by omega) (by omega) (by omega) h
        · exact Make_f4 n d w N D g U L F hd n1 n2 d1 d2 (by omega) (by omega) (by omega) (by omega)
end Go.Proofs.YtlcmnfhkicjclaaDoor
