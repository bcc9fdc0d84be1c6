/- Contract of the reference's Make. -/
import Derived.Test.YtlcmnfhkicjclaaDoorRtE
namespace Go.Proofs.YtlcmnfhkicjclaaDoor
open Go.RowKit
set_option linter.unusedVariables false

/-- the loop of the greatest common divisor, negated -/
theorem tmod_negs (x y : Nat) : Int.tmod (-(x : Int)) (-(y : Int)) = -((x % y : Nat) : Int) := by
  rw [Int.tmod_neg, Int.neg_tmod]; rfl

theorem rMake_zero (n : Int) (w : World) :
    Calls Tryd.prog 14 #[.int .i64 n, .int .i64 0] w fun e w' => e = .returned (.tuple #[.agg #[.int .i64 0, .int .i64 0], .int .i64 16]) ∧ Below w.heap.size w w' := by
  obtain ⟨a0, a1, af0, af1, alt⟩ := At2.new w (.int .i64 0) (.int .i64 0) 24
  go_enter Tryd.func14, Tryd.ntmps14
  go_wp2
  refine bodyPost_ret (v := .tuple #[.agg #[.int .i64 0, .int .i64 0], .int .i64 16]) (by simp [results, Tryd.results14, go_sem]) rfl ⟨rfl, ?_⟩
  exact below1 _ _

set_option maxRecDepth 100000 in
set_option maxHeartbeats 4000000 in
theorem rMake_0 (n d : Int) (w : World) (hd0 : d ≠ 0) (n1 : -9223372036854775808 ≤ n) (n2 : n ≤ 9223372036854775807) (d1 : -9223372036854775808 ≤ d) (d2 : d ≤ 9223372036854775807) (hn : 0 < n) (hd : 0 < d) (N D g : Nat) (hN : (N : Int) = n) (hD : (D : Int) = d) (hg : g = N.gcd D) (q1 q2 z1 z2 : Int)
    (e1 : n.tdiv (-(g : Int)) = z1) (e2 : d.tdiv (-(g : Int)) = z2) (v1 : IntKind.i64.wrap z1 = q1) (v2 : IntKind.i64.wrap z2 = q2) (x y : Int) (hs : (q2 < 0 ∧ IntKind.i64.wrap (-q1) = x ∧ IntKind.i64.wrap (-q2) = y) ∨ (¬ q2 < 0 ∧ q1 = x ∧ q2 = y)) (F : RmFin (Rat.divInt n d) x y) :
    Calls Tryd.prog 14 #[.int .i64 n, .int .i64 d] w fun e w' => e = .returned (.tuple #[.agg #[.int .i64 (rN (Rat.divInt n d)), .int .i64 (rD (Rat.divInt n d))], .int .i64 (rE (Rat.divInt n d))]) ∧ Below w.heap.size w w' := by
  have HF := Lib.hid F
  have HS := Lib.hid hs
  have HG0 := Lib.hid hg
  have g0 : Hid (0 < g) := by show 0 < g; rw [hg]; exact Nat.gcd_pos_of_pos_right _ (by omega)
  have lN : Hid (N ≤ 9223372036854775808) := by show N ≤ _; omega
  have lD : Hid (D ≤ 9223372036854775808) := by show D ≤ _; omega
  have t0 : (d == 0) = false := beq_eq_false_iff_ne.2 hd0
  have HN := Lib.hid hN
  have HD := Lib.hid hD
  obtain ⟨Q, hQ⟩ : ∃ Q, Q = Rat.divInt n d := ⟨_, rfl⟩
  rw [← hQ] at HF ⊢
  clear F hs hg hQ hd0 hN hD
  go_enter Tryd.func14, Tryd.ntmps14
  go_wp2_with fail
  clear hn hd n1 n2 d1 d2
  go_loopg [6, 7] D (fun m va vb wr => ∃ a b : Nat, m = b ∧ va = .int .i64 (-(a : Int)) ∧ vb = .int .i64 (-(b : Int)) ∧ Hid (g = a.gcd b ∧ a ≤ 9223372036854775808 ∧ b ≤ 9223372036854775808) ∧ Hid (At2 wr w.heap.size (.int .i64 0) (.int .i64 0)) ∧ Hid (Below w.heap.size w wr))
  case atStart => exact ⟨N, D, rfl, by congr 1; have := HN.out; omega, by congr 1; have := HD.out; omega, And.intro HG0.out (And.intro lN.out lD.out), Lib.hid (At2.new _ _ _ _), Lib.hid (below1 _ _)⟩
  case round =>
    obtain ⟨a, b, hgk, rfl, rfl, HG, HA, HB⟩ := hrel
    have HGK := Lib.hid hgk
    clear hgk
    by_cases hz : b = 0
    · subst hz
      have hx : a = g := by rw [HG.out.1, Nat.gcd_zero_right]
      subst hx
      have t1 : ¬ -(a : Int) = 0 := by have := g0.out; omega
      have t1' : ¬ (a : Int) = 0 := by have := g0.out; omega
      obtain ⟨a0, a1, af0, af1, alt⟩ := HA.out
      have hs := HS.out
      rcases hs with hs | hs
      · obtain ⟨hs, v3, v4⟩ := hs
        have hsd : decide (q2 < 0) = true := decide_eq_true (by omega)
        clear hs
        by_cases c1 : x < -1073741824
        · have b1 : decide (x < -1073741824) = true := decide_eq_true c1
          have HE := Lib.hid (And.intro (rN_big (HF.out.1 (by omega))) (And.intro (rD_big (HF.out.1 (by omega))) (rE_big (HF.out.1 (by omega)))))
          obtain ⟨s0, s1⟩ := set2 a0 a1 (.int .i64 0) (.int .i64 0)
          go_wp2_with fail
          refine bodyPost_ret (v := .tuple #[.agg #[.int .i64 0, .int .i64 0], .int .i64 5]) (by simp [results, Tryd.results14, go_sem, s0, s1]) rfl ⟨by rw [HE.out.1, HE.out.2.1, HE.out.2.2], ?_⟩
          exact below_set2 HB.out (by omega) _ _
        by_cases c2 : 1073741824 < x
        · have b2 : decide (1073741824 < x) = true := decide_eq_true c2
          have b1 : decide (x < -1073741824) = false := decide_eq_false c1
          have HE := Lib.hid (And.intro (rN_big (HF.out.1 (by omega))) (And.intro (rD_big (HF.out.1 (by omega))) (rE_big (HF.out.1 (by omega)))))
          obtain ⟨s0, s1⟩ := set2 a0 a1 (.int .i64 0) (.int .i64 0)
          go_wp2_with fail
          refine bodyPost_ret (v := .tuple #[.agg #[.int .i64 0, .int .i64 0], .int .i64 5]) (by simp [results, Tryd.results14, go_sem, s0, s1]) rfl ⟨by rw [HE.out.1, HE.out.2.1, HE.out.2.2], ?_⟩
          exact below_set2 HB.out (by omega) _ _
        by_cases c3 : y < 1
        · have b3 : decide (y < 1) = true := decide_eq_true c3
          have b1 : decide (x < -1073741824) = false := decide_eq_false c1
          have b2 : decide (1073741824 < x) = false := decide_eq_false c2
          have HE := Lib.hid (And.intro (rN_big (HF.out.1 (by omega))) (And.intro (rD_big (HF.out.1 (by omega))) (rE_big (HF.out.1 (by omega)))))
          obtain ⟨s0, s1⟩ := set2 a0 a1 (.int .i64 0) (.int .i64 0)
          go_wp2_with fail
          refine bodyPost_ret (v := .tuple #[.agg #[.int .i64 0, .int .i64 0], .int .i64 5]) (by simp [results, Tryd.results14, go_sem, s0, s1]) rfl ⟨by rw [HE.out.1, HE.out.2.1, HE.out.2.2], ?_⟩
          exact below_set2 HB.out (by omega) _ _
        by_cases c4 : 1073741824 < y
        · have b4 : decide (1073741824 < y) = true := decide_eq_true c4
          have b1 : decide (x < -1073741824) = false := decide_eq_false c1
          have b2 : decide (1073741824 < x) = false := decide_eq_false c2
          have b3 : decide (y < 1) = false := decide_eq_false c3
          have HE := Lib.hid (And.intro (rN_big (HF.out.1 (by omega))) (And.intro (rD_big (HF.out.1 (by omega))) (rE_big (HF.out.1 (by omega)))))
          obtain ⟨s0, s1⟩ := set2 a0 a1 (.int .i64 0) (.int .i64 0)
          go_wp2_with fail
          refine bodyPost_ret (v := .tuple #[.agg #[.int .i64 0, .int .i64 0], .int .i64 5]) (by simp [results, Tryd.results14, go_sem, s0, s1]) rfl ⟨by rw [HE.out.1, HE.out.2.1, HE.out.2.2], ?_⟩
          exact below_set2 HB.out (by omega) _ _
        have b1 : decide (x < -1073741824) = false := decide_eq_false c1
        have b2 : decide (1073741824 < x) = false := decide_eq_false c2
        have b3 : decide (y < 1) = false := decide_eq_false c3
        have b4 : decide (1073741824 < y) = false := decide_eq_false c4
        obtain ⟨f1, f2, f3⟩ := HF.out.2 (by omega) (by omega) (by omega) (by omega)
        have HE := Lib.hid (And.intro ((rN_fit f1).trans f2) (And.intro ((rD_fit f1).trans f3) (rE_fit f1)))
        clear f1 f2 f3
        obtain ⟨s0, s1⟩ := set2 a0 a1 (.int .i64 x) (.int .i64 y)
        go_wp2_with fail
        refine bodyPost_ret (v := .tuple #[.agg #[.int .i64 x, .int .i64 y], .int .i64 0]) (by simp [results, Tryd.results14, go_sem, s0, s1]) rfl ⟨by rw [HE.out.1, HE.out.2.1, HE.out.2.2], ?_⟩
        exact below_set2 HB.out (by omega) _ _
      · obtain ⟨hs, rfl, rfl⟩ := hs
        have hsd : decide (q2 < 0) = false := decide_eq_false (by omega)
        clear hs
        by_cases c1 : q1 < -1073741824
        · have b1 : decide (q1 < -1073741824) = true := decide_eq_true c1
          have HE := Lib.hid (And.intro (rN_big (HF.out.1 (by omega))) (And.intro (rD_big (HF.out.1 (by omega))) (rE_big (HF.out.1 (by omega)))))
          obtain ⟨s0, s1⟩ := set2 a0 a1 (.int .i64 0) (.int .i64 0)
          go_wp2_with fail
          refine bodyPost_ret (v := .tuple #[.agg #[.int .i64 0, .int .i64 0], .int .i64 5]) (by simp [results, Tryd.results14, go_sem, s0, s1]) rfl ⟨by rw [HE.out.1, HE.out.2.1, HE.out.2.2], ?_⟩
          exact below_set2 HB.out (by omega) _ _
        by_cases c2 : 1073741824 < q1
        · have b2 : decide (1073741824 < q1) = true := decide_eq_true c2
          have b1 : decide (q1 < -1073741824) = false := decide_eq_false c1
          have HE := Lib.hid (And.intro (rN_big (HF.out.1 (by omega))) (And.intro (rD_big (HF.out.1 (by omega))) (rE_big (HF.out.1 (by omega)))))
          obtain ⟨s0, s1⟩ := set2 a0 a1 (.int .i64 0) (.int .i64 0)
          go_wp2_with fail
          refine bodyPost_ret (v := .tuple #[.agg #[.int .i64 0, .int .i64 0], .int .i64 5]) (by simp [results, Tryd.results14, go_sem, s0, s1]) rfl ⟨by rw [HE.out.1, HE.out.2.1, HE.out.2.2], ?_⟩
          exact below_set2 HB.out (by omega) _ _
        by_cases c3 : q2 < 1
        · have b3 : decide (q2 < 1) = true := decide_eq_true c3
          have b1 : decide (q1 < -1073741824) = false := decide_eq_false c1
          have b2 : decide (1073741824 < q1) = false := decide_eq_false c2
          have HE := Lib.hid (And.intro (rN_big (HF.out.1 (by omega))) (And.intro (rD_big (HF.out.1 (by omega))) (rE_big (HF.out.1 (by omega)))))
          obtain ⟨s0, s1⟩ := set2 a0 a1 (.int .i64 0) (.int .i64 0)
          go_wp2_with fail
          refine bodyPost_ret (v := .tuple #[.agg #[.int .i64 0, .int .i64 0], .int .i64 5]) (by simp [results, Tryd.results14, go_sem, s0, s1]) rfl ⟨by rw [HE.out.1, HE.out.2.1, HE.out.2.2], ?_⟩
          exact below_set2 HB.out (by omega) _ _
        by_cases c4 : 1073741824 < q2
        · have b4 : decide (1073741824 < q2) = true := decide_eq_true c4
          have b1 : decide (q1 < -1073741824) = false := decide_eq_false c1
          have b2 : decide (1073741824 < q1) = false := decide_eq_false c2
          have b3 : decide (q2 < 1) = false := decide_eq_false c3
          have HE := Lib.hid (And.intro (rN_big (HF.out.1 (by omega))) (And.intro (rD_big (HF.out.1 (by omega))) (rE_big (HF.out.1 (by omega)))))
          obtain ⟨s0, s1⟩ := set2 a0 a1 (.int .i64 0) (.int .i64 0)
          go_wp2_with fail
          refine bodyPost_ret (v := .tuple #[.agg #[.int .i64 0, .int .i64 0], .int .i64 5]) (by simp [results, Tryd.results14, go_sem, s0, s1]) rfl ⟨by rw [HE.out.1, HE.out.2.1, HE.out.2.2], ?_⟩
          exact below_set2 HB.out (by omega) _ _
        have b1 : decide (q1 < -1073741824) = false := decide_eq_false c1
        have b2 : decide (1073741824 < q1) = false := decide_eq_false c2
        have b3 : decide (q2 < 1) = false := decide_eq_false c3
        have b4 : decide (1073741824 < q2) = false := decide_eq_false c4
        obtain ⟨f1, f2, f3⟩ := HF.out.2 (by omega) (by omega) (by omega) (by omega)
        have HE := Lib.hid (And.intro ((rN_fit f1).trans f2) (And.intro ((rD_fit f1).trans f3) (rE_fit f1)))
        clear f1 f2 f3
        obtain ⟨s0, s1⟩ := set2 a0 a1 (.int .i64 q1) (.int .i64 q2)
        go_wp2_with fail
        refine bodyPost_ret (v := .tuple #[.agg #[.int .i64 q1, .int .i64 q2], .int .i64 0]) (by simp [results, Tryd.results14, go_sem, s0, s1]) rfl ⟨by rw [HE.out.1, HE.out.2.1, HE.out.2.2], ?_⟩
        exact below_set2 HB.out (by omega) _ _
    · have t1 : (-(b : Int) != 0) = true := by rw [bne_iff_ne]; omega
      have t1' : ((b : Int) != 0) = true := by rw [bne_iff_ne]; omega
      have t2 : ¬ -(b : Int) = 0 := by omega
      have t2' : ¬ (b : Int) = 0 := by omega
      obtain ⟨r, hr⟩ : ∃ r, r = a % b := ⟨_, rfl⟩
      have t3 := tmod_negs a b
      rw [← hr] at t3
      have t4 : r < b := by rw [hr]; exact Nat.mod_lt _ (by omega)
      have HS2 := Lib.hid (gcd_step a b)
      have HR := Lib.hid hr
      have HT4 := Lib.hid t4
      have w1 : IntKind.i64.wrap (-(r : Int)) = -(r : Int) := by rw [IntKind.wrap_i64]; have := HG.out; omega
      clear hr t4
      go_wp2_with fail
      go_quiet (fail)
      go_wp2
      go_roundg r
      case measure => have := HGK.out; have := HT4.out; omega
      case rel => exact ⟨b, r, rfl, by go_num, by go_num, And.intro (by rw [HG.out.1, HS2.out, HR.out]) (by have := HG.out; have := HT4.out; omega), Lib.hid (HA.out.keep (below_drewN _ _ _)), Lib.hid (HB.out.trans (below_drewN _ _ _))⟩

set_option maxRecDepth 100000 in
set_option maxHeartbeats 4000000 in
theorem rMake_1 (n d : Int) (w : World) (hd0 : d ≠ 0) (n1 : -9223372036854775808 ≤ n) (n2 : n ≤ 9223372036854775807) (d1 : -9223372036854775808 ≤ d) (d2 : d ≤ 9223372036854775807) (hn : 0 < n) (hd : d ≤ 0) (N D g : Nat) (hN : (N : Int) = n) (hD : (D : Int) = -d) (hg : g = N.gcd D) (q1 q2 z1 z2 : Int)
    (e1 : n.tdiv (-(g : Int)) = z1) (e2 : d.tdiv (-(g : Int)) = z2) (v1 : IntKind.i64.wrap z1 = q1) (v2 : IntKind.i64.wrap z2 = q2) (x y : Int) (hs : (q2 < 0 ∧ IntKind.i64.wrap (-q1) = x ∧ IntKind.i64.wrap (-q2) = y) ∨ (¬ q2 < 0 ∧ q1 = x ∧ q2 = y)) (F : RmFin (Rat.divInt n d) x y) :
    Calls Tryd.prog 14 #[.int .i64 n, .int .i64 d] w fun e w' => e = .returned (.tuple #[.agg #[.int .i64 (rN (Rat.divInt n d)), .int .i64 (rD (Rat.divInt n d))], .int .i64 (rE (Rat.divInt n d))]) ∧ Below w.heap.size w w' := by
  have HF := Lib.hid F
  have HS := Lib.hid hs
  have HG0 := Lib.hid hg
  have g0 : Hid (0 < g) := by show 0 < g; rw [hg]; exact Nat.gcd_pos_of_pos_right _ (by omega)
  have lN : Hid (N ≤ 9223372036854775808) := by show N ≤ _; omega
  have lD : Hid (D ≤ 9223372036854775808) := by show D ≤ _; omega
  have t0 : (d == 0) = false := beq_eq_false_iff_ne.2 hd0
  have HN := Lib.hid hN
  have HD := Lib.hid hD
  obtain ⟨Q, hQ⟩ : ∃ Q, Q = Rat.divInt n d := ⟨_, rfl⟩
  rw [← hQ] at HF ⊢
  clear F hs hg hQ hd0 hN hD
  go_enter Tryd.func14, Tryd.ntmps14
  go_wp2_with fail
  clear hn hd n1 n2 d1 d2
  go_loopg [6, 7] D (fun m va vb wr => ∃ a b : Nat, m = b ∧ va = .int .i64 (-(a : Int)) ∧ vb = .int .i64 (-(b : Int)) ∧ Hid (g = a.gcd b ∧ a ≤ 9223372036854775808 ∧ b ≤ 9223372036854775808) ∧ Hid (At2 wr w.heap.size (.int .i64 0) (.int .i64 0)) ∧ Hid (Below w.heap.size w wr))
  case atStart => exact ⟨N, D, rfl, by congr 1; have := HN.out; omega, by congr 1; have := HD.out; omega, And.intro HG0.out (And.intro lN.out lD.out), Lib.hid (At2.new _ _ _ _), Lib.hid (below1 _ _)⟩
  case round =>
    obtain ⟨a, b, hgk, rfl, rfl, HG, HA, HB⟩ := hrel
    have HGK := Lib.hid hgk
    clear hgk
    by_cases hz : b = 0
    · subst hz
      have hx : a = g := by rw [HG.out.1, Nat.gcd_zero_right]
      subst hx
      have t1 : ¬ -(a : Int) = 0 := by have := g0.out; omega
      have t1' : ¬ (a : Int) = 0 := by have := g0.out; omega
      obtain ⟨a0, a1, af0, af1, alt⟩ := HA.out
      have hs := HS.out
      rcases hs with hs | hs
      · obtain ⟨hs, v3, v4⟩ := hs
        have hsd : decide (q2 < 0) = true := decide_eq_true (by omega)
        clear hs
        by_cases c1 : x < -1073741824
        · have b1 : decide (x < -1073741824) = true := decide_eq_true c1
          have HE := Lib.hid (And.intro (rN_big (HF.out.1 (by omega))) (And.intro (rD_big (HF.out.1 (by omega))) (rE_big (HF.out.1 (by omega)))))
          obtain ⟨s0, s1⟩ := set2 a0 a1 (.int .i64 0) (.int .i64 0)
          go_wp2_with fail
          refine bodyPost_ret (v := .tuple #[.agg #[.int .i64 0, .int .i64 0], .int .i64 5]) (by simp [results, Tryd.results14, go_sem, s0, s1]) rfl ⟨by rw [HE.out.1, HE.out.2.1, HE.out.2.2], ?_⟩
          exact below_set2 HB.out (by omega) _ _
        by_cases c2 : 1073741824 < x
        · have b2 : decide (1073741824 < x) = true := decide_eq_true c2
          have b1 : decide (x < -1073741824) = false := decide_eq_false c1
          have HE := Lib.hid (And.intro (rN_big (HF.out.1 (by omega))) (And.intro (rD_big (HF.out.1 (by omega))) (rE_big (HF.out.1 (by omega)))))
          obtain ⟨s0, s1⟩ := set2 a0 a1 (.int .i64 0) (.int .i64 0)
          go_wp2_with fail
          refine bodyPost_ret (v := .tuple #[.agg #[.int .i64 0, .int .i64 0], .int .i64 5]) (by simp [results, Tryd.results14, go_sem, s0, s1]) rfl ⟨by rw [HE.out.1, HE.out.2.1, HE.out.2.2], ?_⟩
          exact below_set2 HB.out (by omega) _ _
        by_cases c3 : y < 1
        · have b3 : decide (y < 1) = true := decide_eq_true c3
          have b1 : decide (x < -1073741824) = false := decide_eq_false c1
          have b2 : decide (1073741824 < x) = false := decide_eq_false c2
          have HE := Lib.hid (And.intro (rN_big (HF.out.1 (by omega))) (And.intro (rD_big (HF.out.1 (by omega))) (rE_big (HF.out.1 (by omega)))))
          obtain ⟨s0, s1⟩ := set2 a0 a1 (.int .i64 0) (.int .i64 0)
          go_wp2_with fail
          refine bodyPost_ret (v := .tuple #[.agg #[.int .i64 0, .int .i64 0], .int .i64 5]) (by simp [results, Tryd.results14, go_sem, s0, s1]) rfl ⟨by rw [HE.out.1, HE.out.2.1, HE.out.2.2], ?_⟩
          exact below_set2 HB.out (by omega) _ _
        by_cases c4 : 1073741824 < y
        · have b4 : decide (1073741824 < y) = true := decide_eq_true c4
          have b1 : decide (x < -1073741824) = false := decide_eq_false c1
          have b2 : decide (1073741824 < x) = false := decide_eq_false c2
          have b3 : decide (y < 1) = false := decide_eq_false c3
          have HE := Lib.hid (And.intro (rN_big (HF.out.1 (by omega))) (And.intro (rD_big (HF.out.1 (by omega))) (rE_big (HF.out.1 (by omega)))))
          obtain ⟨s0, s1⟩ := set2 a0 a1 (.int .i64 0) (.int .i64 0)
          go_wp2_with fail
          refine bodyPost_ret (v := .tuple #[.agg #[.int .i64 0, .int .i64 0], .int .i64 5]) (by simp [results, Tryd.results14, go_sem, s0, s1]) rfl ⟨by rw [HE.out.1, HE.out.2.1, HE.out.2.2], ?_⟩
          exact below_set2 HB.out (by omega) _ _
        have b1 : decide (x < -1073741824) = false := decide_eq_false c1
        have b2 : decide (1073741824 < x) = false := decide_eq_false c2
        have b3 : decide (y < 1) = false := decide_eq_false c3
        have b4 : decide (1073741824 < y) = false := decide_eq_false c4
        obtain ⟨f1, f2, f3⟩ := HF.out.2 (by omega) (by omega) (by omega) (by omega)
        have HE := Lib.hid (And.intro ((rN_fit f1).trans f2) (And.intro ((rD_fit f1).trans f3) (rE_fit f1)))
        clear f1 f2 f3
        obtain ⟨s0, s1⟩ := set2 a0 a1 (.int .i64 x) (.int .i64 y)
        go_wp2_with fail
        refine bodyPost_ret (v := .tuple #[.agg #[.int .i64 x, .int .i64 y], .int .i64 0]) (by simp [results, Tryd.results14, go_sem, s0, s1]) rfl ⟨by rw [HE.out.1, HE.out.2.1, HE.out.2.2], ?_⟩
        exact below_set2 HB.out (by omega) _ _
      · obtain ⟨hs, rfl, rfl⟩ := hs
        have hsd : decide (q2 < 0) = false := decide_eq_false (by omega)
        clear hs
        by_cases c1 : q1 < -1073741824
        · have b1 : decide (q1 < -1073741824) = true := decide_eq_true c1
          have HE := Lib.hid (And.intro (rN_big (HF.out.1 (by omega))) (And.intro (rD_big (HF.out.1 (by omega))) (rE_big (HF.out.1 (by omega)))))
          obtain ⟨s0, s1⟩ := set2 a0 a1 (.int .i64 0) (.int .i64 0)
          go_wp2_with fail
          refine bodyPost_ret (v := .tuple #[.agg #[.int .i64 0, .int .i64 0], .int .i64 5]) (by simp [results, Tryd.results14, go_sem, s0, s1]) rfl ⟨by rw [HE.out.1, HE.out.2.1, HE.out.2.2], ?_⟩
          exact below_set2 HB.out (by omega) _ _
        by_cases c2 : 1073741824 < q1
        · have b2 : decide (1073741824 < q1) = true := decide_eq_true c2
          have b1 : decide (q1 < -1073741824) = false := decide_eq_false c1
          have HE := Lib.hid (And.intro (rN_big (HF.out.1 (by omega))) (And.intro (rD_big (HF.out.1 (by omega))) (rE_big (HF.out.1 (by omega)))))
          obtain ⟨s0, s1⟩ := set2 a0 a1 (.int .i64 0) (.int .i64 0)
          go_wp2_with fail
          refine bodyPost_ret (v := .tuple #[.agg #[.int .i64 0, .int .i64 0], .int .i64 5]) (by simp [results, Tryd.results14, go_sem, s0, s1]) rfl ⟨by rw [HE.out.1, HE.out.2.1, HE.out.2.2], ?_⟩
          exact below_set2 HB.out (by omega) _ _
        by_cases c3 : q2 < 1
        · have b3 : decide (q2 < 1) = true := decide_eq_true c3
          have b1 : decide (q1 < -1073741824) = false := decide_eq_false c1
          have b2 : decide (1073741824 < q1) = false := decide_eq_false c2
          have HE := Lib.hid (And.intro (rN_big (HF.out.1 (by omega))) (And.intro (rD_big (HF.out.1 (by omega))) (rE_big (HF.out.1 (by omega)))))
          obtain ⟨s0, s1⟩ := set2 a0 a1 (.int .i64 0) (.int .i64 0)
          go_wp2_with fail
          refine bodyPost_ret (v := .tuple #[.agg #[.int .i64 0, .int .i64 0], .int .i64 5]) (by simp [results, Tryd.results14, go_sem, s0, s1]) rfl ⟨by rw [HE.out.1, HE.out.2.1, HE.out.2.2], ?_⟩
          exact below_set2 HB.out (by omega) _ _
        by_cases c4 : 1073741824 < q2
        · have b4 : decide (1073741824 < q2) = true := decide_eq_true c4
          have b1 : decide (q1 < -1073741824) = false := decide_eq_false c1
          have b2 : decide (1073741824 < q1) = false := decide_eq_false c2
          have b3 : decide (q2 < 1) = false := decide_eq_false c3
          have HE := Lib.hid (And.intro (rN_big (HF.out.1 (by omega))) (And.intro (rD_big (HF.out.1 (by omega))) (rE_big (HF.out.1 (by omega)))))
          obtain ⟨s0, s1⟩ := set2 a0 a1 (.int .i64 0) (.int .i64 0)
          go_wp2_with fail
          refine bodyPost_ret (v := .tuple #[.agg #[.int .i64 0, .int .i64 0], .int .i64 5]) (by simp [results, Tryd.results14, go_sem, s0, s1]) rfl ⟨by rw [HE.out.1, HE.out.2.1, HE.out.2.2], ?_⟩
          exact below_set2 HB.out (by omega) _ _
        have b1 : decide (q1 < -1073741824) = false := decide_eq_false c1
        have b2 : decide (1073741824 < q1) = false := decide_eq_false c2
        have b3 : decide (q2 < 1) = false := decide_eq_false c3
        have b4 : decide (1073741824 < q2) = false := decide_eq_false c4
        obtain ⟨f1, f2, f3⟩ := HF.out.2 (by omega) (by omega) (by omega) (by omega)
        have HE := Lib.hid (And.intro ((rN_fit f1).trans f2) (And.intro ((rD_fit f1).trans f3) (rE_fit f1)))
        clear f1 f2 f3
        obtain ⟨s0, s1⟩ := set2 a0 a1 (.int .i64 q1) (.int .i64 q2)
        go_wp2_with fail
        refine bodyPost_ret (v := .tuple #[.agg #[.int .i64 q1, .int .i64 q2], .int .i64 0]) (by simp [results, Tryd.results14, go_sem, s0, s1]) rfl ⟨by rw [HE.out.1, HE.out.2.1, HE.out.2.2], ?_⟩
        exact below_set2 HB.out (by omega) _ _
    · have t1 : (-(b : Int) != 0) = true := by rw [bne_iff_ne]; omega
      have t1' : ((b : Int) != 0) = true := by rw [bne_iff_ne]; omega
      have t2 : ¬ -(b : Int) = 0 := by omega
      have t2' : ¬ (b : Int) = 0 := by omega
      obtain ⟨r, hr⟩ : ∃ r, r = a % b := ⟨_, rfl⟩
      have t3 := tmod_negs a b
      rw [← hr] at t3
      have t4 : r < b := by rw [hr]; exact Nat.mod_lt _ (by omega)
      have HS2 := Lib.hid (gcd_step a b)
      have HR := Lib.hid hr
      have HT4 := Lib.hid t4
      have w1 : IntKind.i64.wrap (-(r : Int)) = -(r : Int) := by rw [IntKind.wrap_i64]; have := HG.out; omega
      clear hr t4
      go_wp2_with fail
      go_quiet (fail)
      go_wp2
      go_roundg r
      case measure => have := HGK.out; have := HT4.out; omega
      case rel => exact ⟨b, r, rfl, by go_num, by go_num, And.intro (by rw [HG.out.1, HS2.out, HR.out]) (by have := HG.out; have := HT4.out; omega), Lib.hid (HA.out.keep (below_drewN _ _ _)), Lib.hid (HB.out.trans (below_drewN _ _ _))⟩

set_option maxRecDepth 100000 in
set_option maxHeartbeats 4000000 in
theorem rMake_2 (n d : Int) (w : World) (hd0 : d ≠ 0) (n1 : -9223372036854775808 ≤ n) (n2 : n ≤ 9223372036854775807) (d1 : -9223372036854775808 ≤ d) (d2 : d ≤ 9223372036854775807) (hn : n ≤ 0) (hd : 0 < d) (N D g : Nat) (hN : (N : Int) = -n) (hD : (D : Int) = d) (hg : g = N.gcd D) (q1 q2 z1 z2 : Int)
    (e1 : n.tdiv (-(g : Int)) = z1) (e2 : d.tdiv (-(g : Int)) = z2) (v1 : IntKind.i64.wrap z1 = q1) (v2 : IntKind.i64.wrap z2 = q2) (x y : Int) (hs : (q2 < 0 ∧ IntKind.i64.wrap (-q1) = x ∧ IntKind.i64.wrap (-q2) = y) ∨ (¬ q2 < 0 ∧ q1 = x ∧ q2 = y)) (F : RmFin (Rat.divInt n d) x y) :
    Calls Tryd.prog 14 #[.int .i64 n, .int .i64 d] w fun e w' => e = .returned (.tuple #[.agg #[.int .i64 (rN (Rat.divInt n d)), .int .i64 (rD (Rat.divInt n d))], .int .i64 (rE (Rat.divInt n d))]) ∧ Below w.heap.size w w' := by
  have HF := Lib.hid F
  have HS := Lib.hid hs
  have HG0 := Lib.hid hg
  have g0 : Hid (0 < g) := by show 0 < g; rw [hg]; exact Nat.gcd_pos_of_pos_right _ (by omega)
  have lN : Hid (N ≤ 9223372036854775808) := by show N ≤ _; omega
  have lD : Hid (D ≤ 9223372036854775808) := by show D ≤ _; omega
  have t0 : (d == 0) = false := beq_eq_false_iff_ne.2 hd0
  have HN := Lib.hid hN
  have HD := Lib.hid hD
  obtain ⟨Q, hQ⟩ : ∃ Q, Q = Rat.divInt n d := ⟨_, rfl⟩
  rw [← hQ] at HF ⊢
  clear F hs hg hQ hd0 hN hD
  go_enter Tryd.func14, Tryd.ntmps14
  go_wp2_with fail
  clear hn hd n1 n2 d1 d2
  go_loopg [6, 7] D (fun m va vb wr => ∃ a b : Nat, m = b ∧ va = .int .i64 (-(a : Int)) ∧ vb = .int .i64 (-(b : Int)) ∧ Hid (g = a.gcd b ∧ a ≤ 9223372036854775808 ∧ b ≤ 9223372036854775808) ∧ Hid (At2 wr w.heap.size (.int .i64 0) (.int .i64 0)) ∧ Hid (Below w.heap.size w wr))
  case atStart => exact ⟨N, D, rfl, by congr 1; have := HN.out; omega, by congr 1; have := HD.out; omega, And.intro HG0.out (And.intro lN.out lD.out), Lib.hid (At2.new _ _ _ _), Lib.hid (below1 _ _)⟩
  case round =>
    obtain ⟨a, b, hgk, rfl, rfl, HG, HA, HB⟩ := hrel
    have HGK := Lib.hid hgk
    clear hgk
    by_cases hz : b = 0
    · subst hz
      have hx : a = g := by rw [HG.out.1, Nat.gcd_zero_right]
      subst hx
      have t1 : ¬ -(a : Int) = 0 := by have := g0.out; omega
      have t1' : ¬ (a : Int) = 0 := by have := g0.out; omega
      obtain ⟨a0, a1, af0, af1, alt⟩ := HA.out
      have hs := HS.out
      rcases hs with hs | hs
      · obtain ⟨hs, v3, v4⟩ := hs
        have hsd : decide (q2 < 0) = true := decide_eq_true (by omega)
        clear hs
        by_cases c1 : x < -1073741824
        · have b1 : decide (x < -1073741824) = true := decide_eq_true c1
          have HE := Lib.hid (And.intro (rN_big (HF.out.1 (by omega))) (And.intro (rD_big (HF.out.1 (by omega))) (rE_big (HF.out.1 (by omega)))))
          obtain ⟨s0, s1⟩ := set2 a0 a1 (.int .i64 0) (.int .i64 0)
          go_wp2_with fail
          refine bodyPost_ret (v := .tuple #[.agg #[.int .i64 0, .int .i64 0], .int .i64 5]) (by simp [results, Tryd.results14, go_sem, s0, s1]) rfl ⟨by rw [HE.out.1, HE.out.2.1, HE.out.2.2], ?_⟩
          exact below_set2 HB.out (by omega) _ _
        by_cases c2 : 1073741824 < x
        · have b2 : decide (1073741824 < x) = true := decide_eq_true c2
          have b1 : decide (x < -1073741824) = false := decide_eq_false c1
          have HE := Lib.hid (And.intro (rN_big (HF.out.1 (by omega))) (And.intro (rD_big (HF.out.1 (by omega))) (rE_big (HF.out.1 (by omega)))))
          obtain ⟨s0, s1⟩ := set2 a0 a1 (.int .i64 0) (.int .i64 0)
          go_wp2_with fail
          refine bodyPost_ret (v := .tuple #[.agg #[.int .i64 0, .int .i64 0], .int .i64 5]) (by simp [results, Tryd.results14, go_sem, s0, s1]) rfl ⟨by rw [HE.out.1, HE.out.2.1, HE.out.2.2], ?_⟩
          exact below_set2 HB.out (by omega) _ _
        by_cases c3 : y < 1
        · have b3 : decide (y < 1) = true := decide_eq_true c3
          have b1 : decide (x < -1073741824) = false := decide_eq_false c1
          have b2 : decide (1073741824 < x) = false := decide_eq_false c2
          have HE := Lib.hid (And.intro (rN_big (HF.out.1 (by omega))) (And.intro (rD_big (HF.out.1 (by omega))) (rE_big (HF.out.1 (by omega)))))
          obtain ⟨s0, s1⟩ := set2 a0 a1 (.int .i64 0) (.int .i64 0)
          go_wp2_with fail
          refine bodyPost_ret (v := .tuple #[.agg #[.int .i64 0, .int .i64 0], .int .i64 5]) (by simp [results, Tryd.results14, go_sem, s0, s1]) rfl ⟨by rw [HE.out.1, HE.out.2.1, HE.out.2.2], ?_⟩
          exact below_set2 HB.out (by omega) _ _
        by_cases c4 : 1073741824 < y
        · have b4 : decide (1073741824 < y) = true := decide_eq_true c4
          have b1 : decide (x < -1073741824) = false := decide_eq_false c1
          have b2 : decide (1073741824 < x) = false := decide_eq_false c2
          have b3 : decide (y < 1) = false := decide_eq_false c3
          have HE := Lib.hid (And.intro (rN_big (HF.out.1 (by omega))) (And.intro (rD_big (HF.out.1 (by omega))) (rE_big (HF.out.1 (by omega)))))
          obtain ⟨s0, s1⟩ := set2 a0 a1 (.int .i64 0) (.int .i64 0)
          go_wp2_with fail
          refine bodyPost_ret (v := .tuple #[.agg #[.int .i64 0, .int .i64 0], .int .i64 5]) (by simp [results, Tryd.results14, go_sem, s0, s1]) rfl ⟨by rw [HE.out.1, HE.out.2.1, HE.out.2.2], ?_⟩
          exact below_set2 HB.out (by omega) _ _
        have b1 : decide (x < -1073741824) = false := decide_eq_false c1
        have b2 : decide (1073741824 < x) = false := decide_eq_false c2
        have b3 : decide (y < 1) = false := decide_eq_false c3
        have b4 : decide (1073741824 < y) = false := decide_eq_false c4
        obtain ⟨f1, f2, f3⟩ := HF.out.2 (by omega) (by omega) (by omega) (by omega)
        have HE := Lib.hid (And.intro ((rN_fit f1).trans f2) (And.intro ((rD_fit f1).trans f3) (rE_fit f1)))
        clear f1 f2 f3
        obtain ⟨s0, s1⟩ := set2 a0 a1 (.int .i64 x) (.int .i64 y)
        go_wp2_with fail
        refine bodyPost_ret (v := .tuple #[.agg #[.int .i64 x, .int .i64 y], .int .i64 0]) (by simp [results, Tryd.results14, go_sem, s0, s1]) rfl ⟨by rw [HE.out.1, HE.out.2.1, HE.out.2.2], ?_⟩
        exact below_set2 HB.out (by omega) _ _
      · obtain ⟨hs, rfl, rfl⟩ := hs
        have hsd : decide (q2 < 0) = false := decide_eq_false (by omega)
        clear hs
        by_cases c1 : q1 < -1073741824
        · have b1 : decide (q1 < -1073741824) = true := decide_eq_true c1
          have HE := Lib.hid (And.intro (rN_big (HF.out.1 (by omega))) (And.intro (rD_big (HF.out.1 (by omega))) (rE_big (HF.out.1 (by omega)))))
          obtain ⟨s0, s1⟩ := set2 a0 a1 (.int .i64 0) (.int .i64 0)
          go_wp2_with fail
          refine bodyPost_ret (v := .tuple #[.agg #[.int .i64 0, .int .i64 0], .int .i64 5]) (by simp [results, Tryd.results14, go_sem, s0, s1]) rfl ⟨by rw [HE.out.1, HE.out.2.1, HE.out.2.2], ?_⟩
          exact below_set2 HB.out (by omega) _ _
        by_cases c2 : 1073741824 < q1
        · have b2 : decide (1073741824 < q1) = true := decide_eq_true c2
          have b1 : decide (q1 < -1073741824) = false := decide_eq_false c1
          have HE := Lib.hid (And.intro (rN_big (HF.out.1 (by omega))) (And.intro (rD_big (HF.out.1 (by omega))) (rE_big (HF.out.1 (by omega)))))
          obtain ⟨s0, s1⟩ := set2 a0 a1 (.int .i64 0) (.int .i64 0)
          go_wp2_with fail
          refine bodyPost_ret (v := .tuple #[.agg #[.int .i64 0, .int .i64 0], .int .i64 5]) (by simp [results, Tryd.results14, go_sem, s0, s1]) rfl ⟨by rw [HE.out.1, HE.out.2.1, HE.out.2.2], ?_⟩
          exact below_set2 HB.out (by omega) _ _
        by_cases c3 : q2 < 1
        · have b3 : decide (q2 < 1) = true := decide_eq_true c3
          have b1 : decide (q1 < -1073741824) = false := decide_eq_false c1
          have b2 : decide (1073741824 < q1) = false := decide_eq_false c2
          have HE := Lib.hid (And.intro (rN_big (HF.out.1 (by omega))) (And.intro (rD_big (HF.out.1 (by omega))) (rE_big (HF.out.1 (by omega)))))
          obtain ⟨s0, s1⟩ := set2 a0 a1 (.int .i64 0) (.int .i64 0)
          go_wp2_with fail
          refine bodyPost_ret (v := .tuple #[.agg #[.int .i64 0, .int .i64 0], .int .i64 5]) (by simp [results, Tryd.results14, go_sem, s0, s1]) rfl ⟨by rw [HE.out.1, HE.out.2.1, HE.out.2.2], ?_⟩
          exact below_set2 HB.out (by omega) _ _
        by_cases c4 : 1073741824 < q2
        · have b4 : decide (1073741824 < q2) = true := decide_eq_true c4
          have b1 : decide (q1 < -1073741824) = false := decide_eq_false c1
          have b2 : decide (1073741824 < q1) = false := decide_eq_false c2
          have b3 : decide (q2 < 1) = false := decide_eq_false c3
          have HE := Lib.hid (And.intro (rN_big (HF.out.1 (by omega))) (And.intro (rD_big (HF.out.1 (by omega))) (rE_big (HF.out.1 (by omega)))))
          obtain ⟨s0, s1⟩ := set2 a0 a1 (.int .i64 0) (.int .i64 0)
          go_wp2_with fail
          refine bodyPost_ret (v := .tuple #[.agg #[.int .i64 0, .int .i64 0], .int .i64 5]) (by simp [results, Tryd.results14, go_sem, s0, s1]) rfl ⟨by rw [HE.out.1, HE.out.2.1, HE.out.2.2], ?_⟩
          exact below_set2 HB.out (by omega) _ _
        have b1 : decide (q1 < -1073741824) = false := decide_eq_false c1
        have b2 : decide (1073741824 < q1) = false := decide_eq_false c2
        have b3 : decide (q2 < 1) = false := decide_eq_false c3
        have b4 : decide (1073741824 < q2) = false := decide_eq_false c4
        obtain ⟨f1, f2, f3⟩ := HF.out.2 (by omega) (by omega) (by omega) (by omega)
        have HE := Lib.hid (And.intro ((rN_fit f1).trans f2) (And.intro ((rD_fit f1).trans f3) (rE_fit f1)))
        clear f1 f2 f3
        obtain ⟨s0, s1⟩ := set2 a0 a1 (.int .i64 q1) (.int .i64 q2)
        go_wp2_with fail
        refine bodyPost_ret (v := .tuple #[.agg #[.int .i64 q1, .int .i64 q2], .int .i64 0]) (by simp [results, Tryd.results14, go_sem, s0, s1]) rfl ⟨by rw [HE.out.1, HE.out.2.1, HE.out.2.2], ?_⟩
        exact below_set2 HB.out (by omega) _ _
    · have t1 : (-(b : Int) != 0) = true := by rw [bne_iff_ne]; omega
      have t1' : ((b : Int) != 0) = true := by rw [bne_iff_ne]; omega
      have t2 : ¬ -(b : Int) = 0 := by omega
      have t2' : ¬ (b : Int) = 0 := by omega
      obtain ⟨r, hr⟩ : ∃ r, r = a % b := ⟨_, rfl⟩
      have t3 := tmod_negs a b
      rw [← hr] at t3
      have t4 : r < b := by rw [hr]; exact Nat.mod_lt _ (by omega)
      have HS2 := Lib.hid (gcd_step a b)
      have HR := Lib.hid hr
      have HT4 := Lib.hid t4
      have w1 : IntKind.i64.wrap (-(r : Int)) = -(r : Int) := by rw [IntKind.wrap_i64]; have := HG.out; omega
      clear hr t4
      go_wp2_with fail
      go_quiet (fail)
      go_wp2
      go_roundg r
      case measure => have := HGK.out; have := HT4.out; omega
      case rel => exact ⟨b, r, rfl, by go_num, by go_num, And.intro (by rw [HG.out.1, HS2.out, HR.out]) (by have := HG.out; have := HT4.out; omega), Lib.hid (HA.out.keep (below_drewN _ _ _)), Lib.hid (HB.out.trans (below_drewN _ _ _))⟩

set_option maxRecDepth 100000 in
set_option maxHeartbeats 4000000 in
theorem rMake_3 (n d : Int) (w : World) (hd0 : d ≠ 0) (n1 : -9223372036854775808 ≤ n) (n2 : n ≤ 9223372036854775807) (d1 : -9223372036854775808 ≤ d) (d2 : d ≤ 9223372036854775807) (hn : n ≤ 0) (hd : d ≤ 0) (N D g : Nat) (hN : (N : Int) = -n) (hD : (D : Int) = -d) (hg : g = N.gcd D) (q1 q2 z1 z2 : Int)
    (e1 : n.tdiv (-(g : Int)) = z1) (e2 : d.tdiv (-(g : Int)) = z2) (v1 : IntKind.i64.wrap z1 = q1) (v2 : IntKind.i64.wrap z2 = q2) (x y : Int) (hs : (q2 < 0 ∧ IntKind.i64.wrap (-q1) = x ∧ IntKind.i64.wrap (-q2) = y) ∨ (¬ q2 < 0 ∧ q1 = x ∧ q2 = y)) (F : RmFin (Rat.divInt n d) x y) :
    Calls Tryd.prog 14 #[.int .i64 n, .int .i64 d] w fun e w' => e = .returned (.tuple #[.agg #[.int .i64 (rN (Rat.divInt n d)), .int .i64 (rD (Rat.divInt n d))], .int .i64 (rE (Rat.divInt n d))]) ∧ Below w.heap.size w w' := by
  have HF := Lib.hid F
  have HS := Lib.hid hs
  have HG0 := Lib.hid hg
  have g0 : Hid (0 < g) := by show 0 < g; rw [hg]; exact Nat.gcd_pos_of_pos_right _ (by omega)
  have lN : Hid (N ≤ 9223372036854775808) := by show N ≤ _; omega
  have lD : Hid (D ≤ 9223372036854775808) := by show D ≤ _; omega
  have t0 : (d == 0) = false := beq_eq_false_iff_ne.2 hd0
  have HN := Lib.hid hN
  have HD := Lib.hid hD
  obtain ⟨Q, hQ⟩ : ∃ Q, Q = Rat.divInt n d := ⟨_, rfl⟩
  rw [← hQ] at HF ⊢
  clear F hs hg hQ hd0 hN hD
  go_enter Tryd.func14, Tryd.ntmps14
  go_wp2_with fail
  clear hn hd n1 n2 d1 d2
  go_loopg [6, 7] D (fun m va vb wr => ∃ a b : Nat, m = b ∧ va = .int .i64 (-(a : Int)) ∧ vb = .int .i64 (-(b : Int)) ∧ Hid (g = a.gcd b ∧ a ≤ 9223372036854775808 ∧ b ≤ 9223372036854775808) ∧ Hid (At2 wr w.heap.size (.int .i64 0) (.int .i64 0)) ∧ Hid (Below w.heap.size w wr))
  case atStart => exact ⟨N, D, rfl, by congr 1; have := HN.out; omega, by congr 1; have := HD.out; omega, And.intro HG0.out (And.intro lN.out lD.out), Lib.hid (At2.new _ _ _ _), Lib.hid (below1 _ _)⟩
  case round =>
    obtain ⟨a, b, hgk, rfl, rfl, HG, HA, HB⟩ := hrel
    have HGK := Lib.hid hgk
    clear hgk
    by_cases hz : b = 0
    · subst hz
      have hx : a = g := by rw [HG.out.1, Nat.gcd_zero_right]
      subst hx
      have t1 : ¬ -(a : Int) = 0 := by have := g0.out; omega
      have t1' : ¬ (a : Int) = 0 := by have := g0.out; omega
      obtain ⟨a0, a1, af0, af1, alt⟩ := HA.out
      have hs := HS.out
      rcases hs with hs | hs
      · obtain ⟨hs, v3, v4⟩ := hs
        have hsd : decide (q2 < 0) = true := decide_eq_true (by omega)
        clear hs
        by_cases c1 : x < -1073741824
        · have b1 : decide (x < -1073741824) = true := decide_eq_true c1
          have HE := Lib.hid (And.intro (rN_big (HF.out.1 (by omega))) (And.intro (rD_big (HF.out.1 (by omega))) (rE_big (HF.out.1 (by omega)))))
          obtain ⟨s0, s1⟩ := set2 a0 a1 (.int .i64 0) (.int .i64 0)
          go_wp2_with fail
          refine bodyPost_ret (v := .tuple #[.agg #[.int .i64 0, .int .i64 0], .int .i64 5]) (by simp [results, Tryd.results14, go_sem, s0, s1]) rfl ⟨by rw [HE.out.1, HE.out.2.1, HE.out.2.2], ?_⟩
          exact below_set2 HB.out (by omega) _ _
        by_cases c2 : 1073741824 < x
        · have b2 : decide (1073741824 < x) = true := decide_eq_true c2
          have b1 : decide (x < -1073741824) = false := decide_eq_false c1
          have HE := Lib.hid (And.intro (rN_big (HF.out.1 (by omega))) (And.intro (rD_big (HF.out.1 (by omega))) (rE_big (HF.out.1 (by omega)))))
          obtain ⟨s0, s1⟩ := set2 a0 a1 (.int .i64 0) (.int .i64 0)
          go_wp2_with fail
          refine bodyPost_ret (v := .tuple #[.agg #[.int .i64 0, .int .i64 0], .int .i64 5]) (by simp [results, Tryd.results14, go_sem, s0, s1]) rfl ⟨by rw [HE.out.1, HE.out.2.1, HE.out.2.2], ?_⟩
          exact below_set2 HB.out (by omega) _ _
        by_cases c3 : y < 1
        · have b3 : decide (y < 1) = true := decide_eq_true c3
          have b1 : decide (x < -1073741824) = false := decide_eq_false c1
          have b2 : decide (1073741824 < x) = false := decide_eq_false c2
          have HE := Lib.hid (And.intro (rN_big (HF.out.1 (by omega))) (And.intro (rD_big (HF.out.1 (by omega))) (rE_big (HF.out.1 (by omega)))))
          obtain ⟨s0, s1⟩ := set2 a0 a1 (.int .i64 0) (.int .i64 0)
          go_wp2_with fail
          refine bodyPost_ret (v := .tuple #[.agg #[.int .i64 0, .int .i64 0], .int .i64 5]) (by simp [results, Tryd.results14, go_sem, s0, s1]) rfl ⟨by rw [HE.out.1, HE.out.2.1, HE.out.2.2], ?_⟩
          exact below_set2 HB.out (by omega) _ _
        by_cases c4 : 1073741824 < y
        · have b4 : decide (1073741824 < y) = true := decide_eq_true c4
          have b1 : decide (x < -1073741824) = false := decide_eq_false c1
          have b2 : decide (1073741824 < x) = false := decide_eq_false c2
          have b3 : decide (y < 1) = false := decide_eq_false c3
          have HE := Lib.hid (And.intro (rN_big (HF.out.1 (by omega))) (And.intro (rD_big (HF.out.1 (by omega))) (rE_big (HF.out.1 (by omega)))))
          obtain ⟨s0, s1⟩ := set2 a0 a1 (.int .i64 0) (.int .i64 0)
          go_wp2_with fail
          refine bodyPost_ret (v := .tuple #[.agg #[.int .i64 0, .int .i64 0], .int .i64 5]) (by simp [results, Tryd.results14, go_sem, s0, s1]) rfl ⟨by rw [HE.out.1, HE.out.2.1, HE.out.2.2], ?_⟩
          exact below_set2 HB.out (by omega) _ _
        have b1 : decide (x < -1073741824) = false := decide_eq_false c1
        have b2 : decide (1073741824 < x) = false := decide_eq_false c2
        have b3 : decide (y < 1) = false := decide_eq_false c3
        have b4 : decide (1073741824 < y) = false := decide_eq_false c4
        obtain ⟨f1, f2, f3⟩ := HF.out.2 (by omega) (by omega) (by omega) (by omega)
        have HE := Lib.hid (And.intro ((rN_fit f1).trans f2) (And.intro ((rD_fit f1).trans f3) (rE_fit f1)))
        clear f1 f2 f3
        obtain ⟨s0, s1⟩ := set2 a0 a1 (.int .i64 x) (.int .i64 y)
        go_wp2_with fail
        refine bodyPost_ret (v := .tuple #[.agg #[.int .i64 x, .int .i64 y], .int .i64 0]) (by simp [results, Tryd.results14, go_sem, s0, s1]) rfl ⟨by rw [HE.out.1, HE.out.2.1, HE.out.2.2], ?_⟩
        exact below_set2 HB.out (by omega) _ _
      · obtain ⟨hs, rfl, rfl⟩ := hs
        have hsd : decide (q2 < 0) = false := decide_eq_false (by omega)
        clear hs
        by_cases c1 : q1 < -1073741824
        · have b1 : decide (q1 < -1073741824) = true := decide_eq_true c1
          have HE := Lib.hid (And.intro (rN_big (HF.out.1 (by omega))) (And.intro (rD_big (HF.out.1 (by omega))) (rE_big (HF.out.1 (by omega)))))
          obtain ⟨s0, s1⟩ := set2 a0 a1 (.int .i64 0) (.int .i64 0)
          go_wp2_with fail
          refine bodyPost_ret (v := .tuple #[.agg #[.int .i64 0, .int .i64 0], .int .i64 5]) (by simp [results, Tryd.results14, go_sem, s0, s1]) rfl ⟨by rw [HE.out.1, HE.out.2.1, HE.out.2.2], ?_⟩
          exact below_set2 HB.out (by omega) _ _
        by_cases c2 : 1073741824 < q1
        · have b2 : decide (1073741824 < q1) = true := decide_eq_true c2
          have b1 : decide (q1 < -1073741824) = false := decide_eq_false c1
          have HE := Lib.hid (And.intro (rN_big (HF.out.1 (by omega))) (And.intro (rD_big (HF.out.1 (by omega))) (rE_big (HF.out.1 (by omega)))))
          obtain ⟨s0, s1⟩ := set2 a0 a1 (.int .i64 0) (.int .i64 0)
          go_wp2_with fail
          refine bodyPost_ret (v := .tuple #[.agg #[.int .i64 0, .int .i64 0], .int .i64 5]) (by simp [results, Tryd.results14, go_sem, s0, s1]) rfl ⟨by rw [HE.out.1, HE.out.2.1, HE.out.2.2], ?_⟩
          exact below_set2 HB.out (by omega) _ _
        by_cases c3 : q2 < 1
        · have b3 : decide (q2 < 1) = true := decide_eq_true c3
          have b1 : decide (q1 < -1073741824) = false := decide_eq_false c1
          have b2 : decide (1073741824 < q1) = false := decide_eq_false c2
          have HE := Lib.hid (And.intro (rN_big (HF.out.1 (by omega))) (And.intro (rD_big (HF.out.1 (by omega))) (rE_big (HF.out.1 (by omega)))))
          obtain ⟨s0, s1⟩ := set2 a0 a1 (.int .i64 0) (.int .i64 0)
          go_wp2_with fail
          refine bodyPost_ret (v := .tuple #[.agg #[.int .i64 0, .int .i64 0], .int .i64 5]) (by simp [results, Tryd.results14, go_sem, s0, s1]) rfl ⟨by rw [HE.out.1, HE.out.2.1, HE.out.2.2], ?_⟩
          exact below_set2 HB.out (by omega) _ _
        by_cases c4 : 1073741824 < q2
        · have b4 : decide (1073741824 < q2) = true := decide_eq_true c4
          have b1 : decide (q1 < -1073741824) = false := decide_eq_false c1
          have b2 : decide (1073741824 < q1) = false := decide_eq_false c2
          have b3 : decide (q2 < 1) = false := decide_eq_false c3
          have HE := Lib.hid (And.intro (rN_big (HF.out.1 (by omega))) (And.intro (rD_big (HF.out.1 (by omega))) (rE_big (HF.out.1 (by omega)))))
          obtain ⟨s0, s1⟩ := set2 a0 a1 (.int .i64 0) (.int .i64 0)
          go_wp2_with fail
          refine bodyPost_ret (v := .tuple #[.agg #[.int .i64 0, .int .i64 0], .int .i64 5]) (by simp [results, Tryd.results14, go_sem, s0, s1]) rfl ⟨by rw [HE.out.1, HE.out.2.1, HE.out.2.2], ?_⟩
          exact below_set2 HB.out (by omega) _ _
        have b1 : decide (q1 < -1073741824) = false := decide_eq_false c1
        have b2 : decide (1073741824 < q1) = false := decide_eq_false c2
        have b3 : decide (q2 < 1) = false := decide_eq_false c3
        have b4 : decide (1073741824 < q2) = false := decide_eq_false c4
        obtain ⟨f1, f2, f3⟩ := HF.out.2 (by omega) (by omega) (by omega) (by omega)
        have HE := Lib.hid (And.intro ((rN_fit f1).trans f2) (And.intro ((rD_fit f1).trans f3) (rE_fit f1)))
        clear f1 f2 f3
        obtain ⟨s0, s1⟩ := set2 a0 a1 (.int .i64 q1) (.int .i64 q2)
        go_wp2_with fail
        refine bodyPost_ret (v := .tuple #[.agg #[.int .i64 q1, .int .i64 q2], .int .i64 0]) (by simp [results, Tryd.results14, go_sem, s0, s1]) rfl ⟨by rw [HE.out.1, HE.out.2.1, HE.out.2.2], ?_⟩
        exact below_set2 HB.out (by omega) _ _
    · have t1 : (-(b : Int) != 0) = true := by rw [bne_iff_ne]; omega
      have t1' : ((b : Int) != 0) = true := by rw [bne_iff_ne]; omega
      have t2 : ¬ -(b : Int) = 0 := by omega
      have t2' : ¬ (b : Int) = 0 := by omega
      obtain ⟨r, hr⟩ : ∃ r, r = a % b := ⟨_, rfl⟩
      have t3 := tmod_negs a b
      rw [← hr] at t3
      have t4 : r < b := by rw [hr]; exact Nat.mod_lt _ (by omega)
      have HS2 := Lib.hid (gcd_step a b)
      have HR := Lib.hid hr
      have HT4 := Lib.hid t4
      have w1 : IntKind.i64.wrap (-(r : Int)) = -(r : Int) := by rw [IntKind.wrap_i64]; have := HG.out; omega
      clear hr t4
      go_wp2_with fail
      go_quiet (fail)
      go_wp2
      go_roundg r
      case measure => have := HGK.out; have := HT4.out; omega
      case rel => exact ⟨b, r, rfl, by go_num, by go_num, And.intro (by rw [HG.out.1, HS2.out, HR.out]) (by have := HG.out; have := HT4.out; omega), Lib.hid (HA.out.keep (below_drewN _ _ _)), Lib.hid (HB.out.trans (below_drewN _ _ _))⟩

theorem rMake_any (n d : Int) (w : World) (hd : d ≠ 0) (n1 : -9223372036854775808 ≤ n) (n2 : n ≤ 9223372036854775807) (d1 : -9223372036854775808 ≤ d) (d2 : d ≤ 9223372036854775807) :
    Calls Tryd.prog 14 #[.int .i64 n, .int .i64 d] w fun e w' => e = .returned (.tuple #[.agg #[.int .i64 (rN (Rat.divInt n d)), .int .i64 (rD (Rat.divInt n d))], .int .i64 (rE (Rat.divInt n d))]) ∧ Below w.heap.size w w' := by
  obtain ⟨p1, p2⟩ := ref_parts n d hd n1 n2 d1 d2 _ _ rfl rfl
  obtain ⟨q2, hq2⟩ : ∃ z, z = IntKind.i64.wrap (d.tdiv (-((n.natAbs.gcd d.natAbs : Nat) : Int))) := ⟨_, rfl⟩
  obtain ⟨q1, hq1⟩ : ∃ z, z = IntKind.i64.wrap (n.tdiv (-((n.natAbs.gcd d.natAbs : Nat) : Int))) := ⟨_, rfl⟩
  rw [← hq1, ← hq2] at p1 p2
  obtain ⟨x, y, hs, F⟩ : ∃ x y : Int, ((q2 < 0 ∧ IntKind.i64.wrap (-q1) = x ∧ IntKind.i64.wrap (-q2) = y) ∨ (¬ q2 < 0 ∧ q1 = x ∧ q2 = y)) ∧ RmFin (Rat.divInt n d) x y := by
    by_cases h : q2 < 0
    · exact ⟨_, _, Or.inl ⟨h, rfl, rfl⟩, p1 h⟩
    · exact ⟨_, _, Or.inr ⟨h, rfl, rfl⟩, p2 h⟩
  by_cases hn : 0 < n
  · by_cases h : 0 < d
    · exact rMake_0 n d w hd n1 n2 d1 d2 hn h n.natAbs d.natAbs _ (by omega) (by omega) rfl q1 q2 _ _ rfl rfl hq1.symm hq2.symm x y hs F
    · exact rMake_1 n d w hd n1 n2 d1 d2 hn (by omega) n.natAbs d.natAbs _ (by omega) (by omega) rfl q1 q2 _ _ rfl rfl hq1.symm hq2.symm x y hs F
  · by_cases h : 0 < d
    · exact rMake_2 n d w hd n1 n2 d1 d2 (by omega) h n.natAbs d.natAbs _ (by omega) (by omega) rfl q1 q2 _ _ rfl rfl hq1.symm hq2.symm x y hs F
    · exact rMake_3 n d w hd n1 n2 d1 d2 (by omega) (by omega) n.natAbs d.natAbs _ (by omega) (by omega) rfl q1 q2 _ _ rfl rfl hq1.symm hq2.symm x y hs F
end Go.Proofs.YtlcmnfhkicjclaaDoor
