/- Fixed: contract of the reference's Make. -/
import Derived.Test.YtdkigfcglfgpoaaFxC
namespace Go.Proofs.Ytdkigfcglfgpoaa
open Go.RowKit
set_option linter.unusedVariables false

/-- digits to the base 2 of a quotient, one after the other -/
def mQ (A B i : Nat) : Nat := A * 2 ^ i / B
def mR (A B i : Nat) : Nat := A * 2 ^ i % B
theorem mQ_step (A B i : Nat) (hB : 0 < B) : (B ≤ 2 * mR A B i → mQ A B (i + 1) = 2 * mQ A B i + 1 ∧ mR A B (i + 1) = 2 * mR A B i - B) ∧ (¬ B ≤ 2 * mR A B i → mQ A B (i + 1) = 2 * mQ A B i ∧ mR A B (i + 1) = 2 * mR A B i) := by
  have e := Nat.div_add_mod (A * 2 ^ i) B
  have l := Nat.mod_lt (A * 2 ^ i) hB
  have e2 : A * 2 ^ (i + 1) = 2 * (A * 2 ^ i) := by rw [Nat.pow_succ, ← Nat.mul_assoc, Nat.mul_comm]
  unfold mQ mR
  rw [e2]
  generalize A * 2 ^ i = T at *
  generalize hq : T / B = q at *
  generalize hr : T % B = r at *
  have e3 : 2 * T = 2 * r + B * (2 * q) := by rw [← e, Nat.mul_add, ← Nat.mul_assoc, Nat.mul_comm 2 B, Nat.mul_assoc]; omega
  rw [e3]
  constructor
  · intro h
    have e4 : 2 * r + B * (2 * q) = (2 * r - B) + B * (2 * q + 1) := by rw [Nat.mul_add, Nat.mul_one]; omega
    rw [e4, Nat.add_mul_div_left _ _ hB, Nat.add_mul_mod_self_left, Nat.div_eq_of_lt (by omega), Nat.mod_eq_of_lt (by omega)]
    exact ⟨by omega, rfl⟩
  · intro h
    rw [Nat.add_mul_div_left _ _ hB, Nat.add_mul_mod_self_left, Nat.div_eq_of_lt (by omega), Nat.mod_eq_of_lt (by omega)]
    exact ⟨by omega, rfl⟩
theorem mQ_bound (A B i : Nat) (h : A ≤ 2 * B) (hB : 0 < B) : mQ A B i ≤ 2 * 2 ^ i := by
  unfold mQ
  refine Nat.div_le_of_le_mul ?_
  have := Nat.mul_le_mul_right (2 ^ i) h
  rw [Nat.mul_assoc, Nat.mul_comm 2, Nat.mul_assoc] at this
  rw [Nat.mul_comm 2]; omega
theorem nat_fl (A B : Nat) : (A : Int) * 1073741824 / (B : Int) = ((mQ A B 30 : Nat) : Int) := by
  unfold mQ
  rw [Int.natCast_ediv, Int.natCast_mul]
  rfl
theorem nat_ce (A B : Nat) (hB : 0 < B) : cdiv ((A : Int) * 1073741824) (B : Int) = if 0 < mR A B 30 then ((mQ A B 30 : Nat) : Int) + 1 else ((mQ A B 30 : Nat) : Int) := by
  have e := Nat.div_add_mod (A * 2 ^ 30) B
  have l := Nat.mod_lt (A * 2 ^ 30) hB
  have e1 : (A : Int) * 1073741824 = ((A * 2 ^ 30 : Nat) : Int) := by rw [Int.natCast_mul]; rfl
  unfold mQ mR
  rw [e1]
  generalize A * 2 ^ 30 = T at *
  generalize T / B = q at *
  generalize T % B = r at *
  subst e
  have b0 : (0 : Int) < (B : Int) := by omega
  unfold cdiv
  rw [Int.natCast_add, Int.natCast_mul]
  split
  · have : -((B : Int) * (q : Int) + (r : Int)) / (B : Int) = -((q : Int) + 1) := by
      rw [Int.ediv_eq_iff_of_pos b0]
      have e5 : -((q : Int) + 1) * (B : Int) = -((B : Int) * (q : Int)) - (B : Int) := by rw [Int.neg_mul, Int.add_mul, Int.mul_comm]; omega
      rw [e5]; omega
    omega
  · have : -((B : Int) * (q : Int) + (r : Int)) / (B : Int) = -(q : Int) := by
      rw [Int.ediv_eq_iff_of_pos b0]
      have e5 : -(q : Int) * (B : Int) = -((B : Int) * (q : Int)) := by rw [Int.neg_mul, Int.mul_comm]
      rw [e5]; omega
    omega
/-- the quotient rounded up -/
def mU (A B : Nat) : Int := if 0 < mR A B 30 then ((mQ A B 30 : Nat) : Int) + 1 else ((mQ A B 30 : Nat) : Int)
theorem makeR_eq (n d : Int) (hd : d ≠ 0) : makeR n d = if (n < 0 ∧ ¬ d < 0) ∨ (¬ n < 0 ∧ d < 0) then fit (-(mU n.natAbs d.natAbs)) (-((mQ n.natAbs d.natAbs 30 : Nat) : Int)) else fit ((mQ n.natAbs d.natAbs 30 : Nat) : Int) (mU n.natAbs d.natAbs) := by
  obtain ⟨A, hA⟩ : ∃ A, A = n.natAbs := ⟨_, rfl⟩
  obtain ⟨B, hB⟩ : ∃ B, B = d.natAbs := ⟨_, rfl⟩
  rw [← hA, ← hB]
  have h1 := nat_fl A B
  have h2 : cdiv ((A : Int) * 1073741824) (B : Int) = mU A B := nat_ce A B (by omega)
  have h3 : -(A : Int) * 1073741824 / (B : Int) = -(mU A B) := by rw [Int.neg_mul, fl_neg, h2]
  have h4 : cdiv (-(A : Int) * 1073741824) (B : Int) = -((mQ A B 30 : Nat) : Int) := by rw [Int.neg_mul, cdiv_neg, h1]
  unfold makeR
  rw [if_neg hd]
  by_cases c1 : d < 0
  · rw [if_pos c1, show -d = (B : Int) by omega]
    by_cases c2 : n < 0
    · rw [if_neg (by omega), show -n = (A : Int) by omega, h1, h2]
    · rw [if_pos (by omega), show -n = -(A : Int) by omega, h3, h4]
  · rw [if_neg c1, show d = (B : Int) by omega]
    by_cases c2 : n < 0
    · rw [if_pos (by omega), show n = -(A : Int) by omega, h3, h4]
    · rw [if_neg (by omega), show n = (A : Int) by omega, h1, h2]
theorem makeR_big (n d : Int) (hd : d ≠ 0) (h : 2 * d.natAbs < n.natAbs) : makeR n d = ⟨0, 0, 5⟩ := by
  rw [makeR_eq n d hd]
  have hB : 0 < d.natAbs := by omega
  have h2 : cdiv ((n.natAbs : Int) * 1073741824) (d.natAbs : Int) = mU n.natAbs d.natAbs := nat_ce _ _ hB
  generalize n.natAbs = A at *
  generalize d.natAbs = B at *
  have : 2147483648 < mU A B := by
    rw [← h2, lt_ce (by omega)]
    omega
  split
  · exact fit_no (by omega)
  · exact fit_no (by omega)

theorem rMake_zero (n : Int) (w : World) :
    Calls Try.prog 13 #[.int .i64 n, .int .i64 0] w fun e w' => e = .returned (vR (makeR n 0)) ∧ Below w.heap.size w w' := by
  rw [show makeR n 0 = ⟨0, 0, 16⟩ from if_pos rfl]
  unfold vR
  obtain ⟨a0, a1, af0, af1, alt⟩ := At2.new w (.int .i64 0) (.int .i64 0) 23
  go_enter Try.func13, Try.ntmps13
  go_wp2_with fail
  refine bodyPost_ret (v := .tuple #[.agg #[.int .i64 0, .int .i64 0], .int .i64 16]) (by simp [results, Try.results13, go_sem]) rfl ⟨rfl, ?_⟩
  exact below1 _ _
set_option maxHeartbeats 1000000 in
theorem rMake_some (n d : Int) (w : World) (hd : d ≠ 0) (n1 : -9223372036854775808 ≤ n) (n2 : n ≤ 9223372036854775807) (d1 : -9223372036854775808 ≤ d) (d2 : d ≤ 9223372036854775807) :
    Calls Try.prog 13 #[.int .i64 n, .int .i64 d] w fun e w' => e = .returned (vR (makeR n d)) ∧ Below w.heap.size w w' := by
  have A0 := At2.new w (.int .i64 0) (.int .i64 0) 23
  have S1 := Lib.hid (fun wx => rSize n wx n1 n2)
  have S2 := Lib.hid (fun wx => rSize d wx d1 d2)
  have HE := Lib.hid (makeR_eq n d hd)
  have HBig := Lib.hid (makeR_big n d hd)
  obtain ⟨F, hF⟩ : ∃ F, F = makeR n d := ⟨_, rfl⟩
  rw [← hF] at HE HBig ⊢
  have lA : n.natAbs ≤ 9223372036854775808 := by omega
  have lB : d.natAbs ≤ 9223372036854775808 := by omega
  have pB : 0 < d.natAbs := by omega
  generalize n.natAbs = A at *
  generalize d.natAbs = B at *
  have tz : (d == 0) = false := beq_eq_false_iff_ne.2 hd
  have bz : ¬ (B : Int) = 0 := by omega
  clear hF
  obtain ⟨q, hq⟩ : ∃ q, A / B = q := ⟨_, rfl⟩
  obtain ⟨r, hr⟩ : ∃ r, A % B = r := ⟨_, rfl⟩
  have dq : (A : Int).tdiv (B : Int) = (q : Int) := by rw [← hq]; rfl
  have dr : (A : Int).tmod (B : Int) = (r : Int) := by rw [← hr]; rfl
  have em := Nat.div_add_mod A B
  rw [hq, hr] at em
  have rl : r < B := by rw [← hr]; exact Nat.mod_lt _ pB
  have ql : q ≤ A := by rw [← hq]; exact Nat.div_le_self _ _
  unfold vR
  obtain ⟨a0, a1, af0, af1, alt⟩ := id A0
  have HQ := Lib.hid hq
  have HR := Lib.hid hr
  have EM := Lib.hid em
  clear hq hr em hd n1 n2 d1 d2
  by_cases c1 : q > 2
  · have e : F = ⟨0, 0, 5⟩ := HBig.out (by have := EM.out; have := Nat.mul_le_mul_left B (show 3 ≤ q by omega); omega)
    subst e
    have t1 : ¬ ((q : Int) ≤ 2) := by omega
    have t2 : (2 : Int) < (q : Int) := by omega
    go_enter Try.func13, Try.ntmps13
    go_wp2_with fail
    refine (S1.out _).mono ?_
    rintro e w1 ⟨rfl, rfl⟩
    go_wp2_with fail
    refine (S2.out _).mono ?_
    rintro e w1 ⟨rfl, rfl⟩
    go_wp2_with fail
    refine bodyPost_ret (v := .tuple #[.agg #[.int .i64 0, .int .i64 0], .int .i64 5]) (by simp [results, Try.results13, go_sem]) rfl ⟨rfl, ?_⟩
    exact below1 _ _
  have t2 : ¬ (2 : Int) < (q : Int) := by omega
  by_cases c2 : q = 2 ∧ r > 0
  · have e : F = ⟨0, 0, 5⟩ := HBig.out (by have := EM.out; rw [c2.1] at this; omega)
    subst e
    obtain ⟨c2, c3⟩ := c2
    have t3 : ((q : Int) == 2) = true := by rw [beq_iff_eq]; omega
    have t4 : (0 : Int) < (r : Int) := by omega
    go_enter Try.func13, Try.ntmps13
    go_wp2_with fail
    refine (S1.out _).mono ?_
    rintro e w1 ⟨rfl, rfl⟩
    go_wp2_with fail
    refine (S2.out _).mono ?_
    rintro e w1 ⟨rfl, rfl⟩
    go_wp2_with fail
    refine bodyPost_ret (v := .tuple #[.agg #[.int .i64 0, .int .i64 0], .int .i64 5]) (by simp [results, Try.results13, go_sem]) rfl ⟨rfl, ?_⟩
    exact below1 _ _
  have lQ : Hid (A ≤ 2 * B) := by
    show A ≤ 2 * B
    have := EM.out
    by_cases h : q = 2
    · rw [h] at this; omega
    · have := Nat.mul_le_mul_left B (show q ≤ 1 by omega); omega
  have lq : (q : Int) ≤ 2 := by omega
  have H0 : Hid (mQ A B 0 = q ∧ mR A B 0 = r) := by show _ ∧ _; unfold mQ mR; rw [Nat.pow_zero, Nat.mul_one]; exact ⟨HQ.out, HR.out⟩
  have hgo : ∀ (wx : World), (∀ (m u : Nat) (U : Int) (hm : mQ A B 30 = m) (hu : mR A B 30 = u), True) := fun _ _ _ _ _ _ => trivial
  clear hgo
  have WALK : ∀ (t : (q : Int) = 2 ∧ (r : Int) = 0 ∨ ¬ (q : Int) = 2), Calls Try.prog 13 #[.int .i64 n, .int .i64 d] w fun e w' => e = .returned (.tuple #[.agg #[.int .i64 F.l, .int .i64 F.h], .int .i64 F.e]) ∧ Below w.heap.size w w' := by
    intro t
    rcases t with ⟨t3, t4⟩ | t3
    · have t3' : ((q : Int) == 2) = true := by rw [beq_iff_eq]; exact t3
      have t4' : ¬ (0 : Int) < (r : Int) := by omega
      have t5 : decide (0 < r) = false := decide_eq_false (by omega)
      clear t3 t4
      go_enter Try.func13, Try.ntmps13
      go_wp2_with fail
      refine (S1.out _).mono ?_
      rintro e w1 ⟨rfl, rfl⟩
      go_wp2_with fail
      refine (S2.out _).mono ?_
      rintro e w1 ⟨rfl, rfl⟩
      go_wp2_with fail
      clear c1 c2 t2 t3' t4' t5
      go_loopg [8, 9, 10] 30 (fun k v8 v9 v10 wr => ∃ i : Nat, k = 30 - i ∧ v8 = .int .i64 ((mQ A B i : Nat) : Int) ∧ v9 = .int .u64 ((mR A B i : Nat) : Int) ∧ v10 = .int .i64 (i : Int) ∧ Hid (i ≤ 30) ∧ wr = w.alloc (.cells #[.int .i64 0, .int .i64 0] 23))
      case atStart => exact ⟨0, rfl, by rw [H0.out.1], by rw [H0.out.2], rfl, Nat.zero_le _, rfl⟩
      case round =>
        obtain ⟨i, hk, rfl, rfl, rfl, HI, rfl⟩ := hrel
        have HK := Lib.hid hk
        have ST := Lib.hid (mQ_step A B i pB)
        have mb : mQ A B i ≤ 2147483648 := by
          have h1 := mQ_bound A B i lQ.out pB
          have h2 : (2 : Nat) ^ i ≤ 2 ^ 30 := Nat.pow_le_pow_right (by omega) HI.out
          omega
        have sb : mR A B i < B := Nat.mod_lt _ pB
        obtain ⟨m, hm⟩ : ∃ m, mQ A B i = m := ⟨_, rfl⟩
        obtain ⟨s, hs⟩ : ∃ s, mR A B i = s := ⟨_, rfl⟩
        rw [hm] at ST mb
        rw [hs] at ST sb
        have HM := Lib.hid hm
        have HSs := Lib.hid hs
        rw [hm, hs]
        clear hm hs hk a0 a1 af0 af1 alt
        by_cases hi : i < 30
        · have hm2 : m ≤ 1073741824 * 2 := mb
          by_cases c : B ≤ 2 * s
          · have NX := Lib.hid (ST.out.1 c)
            have e1 : (s : Int) ≥ (B : Int) - (s : Int) := by omega
            have i1 : (i : Int) < 30 := by omega
            go_wp2_with fail
            go_roundg (30 - (i + 1))
            case measure => have := HK.out; omega
            case rel => exact ⟨i + 1, rfl, by rw [NX.out.1]; go_num, by rw [NX.out.2]; go_num, by go_num, (by show i + 1 ≤ 30; omega), rfl⟩
          · have NX := Lib.hid (ST.out.2 c)
            have e1 : ¬ (s : Int) ≥ (B : Int) - (s : Int) := by omega
            have i1 : (i : Int) < 30 := by omega
            go_wp2_with fail
            go_roundg (30 - (i + 1))
            case measure => have := HK.out; omega
            case rel => exact ⟨i + 1, rfl, by rw [NX.out.1]; go_num, by rw [NX.out.2]; go_num, by go_num, (by show i + 1 ≤ 30; omega), rfl⟩
        · have hi30 : i = 30 := by have := HI.out; omega
          subst hi30
          have i1 : ¬ (30 : Int) < 30 := by omega
          rw [HM.out] at HE
          by_cases hs0 : s > 0
          · have HU : Hid (mU A B = (m : Int) + 1) := by show _ = _; unfold mU; rw [HM.out, HSs.out, if_pos hs0]
            have s1 : (0 : Int) < (s : Int) := by omega
            by_cases cn : n < 0
            · by_cases cd : d < 0
              · have HFF := Lib.hid (HE.out.trans (if_neg (by omega)))
                rw [HU.out] at HFF
                have cd' : decide (d < 0) = true := decide_eq_true cd
                have cn' : decide (n < 0) = true := decide_eq_true cn
                clear cd cn
                go_wp2_with fail
                refine (rFit (m : Int) ((m : Int) + 1) _).mono ?_
                rintro e w1 ⟨rfl, hb⟩
                obtain ⟨r0, r1, rf0, rf1, rlt⟩ := A0.keep hb
                have HW := Lib.hid (bel1 hb)
                clear hb
                rw [show fit (m : Int) ((m : Int) + 1) = F from HFF.out.symm]
                unfold vR
                obtain ⟨s0, s1⟩ := set2 r0 r1 (.int .i64 F.l) (.int .i64 F.h)
                go_wp2_with fail
                refine bodyPost_ret (v := .tuple #[.agg #[.int .i64 F.l, .int .i64 F.h], .int .i64 F.e]) (by simp [results, Try.results13, go_sem, s0, s1]) rfl ⟨rfl, ?_⟩
                exact below_set2 HW.out (by omega) _ _
              · have HFF := Lib.hid (HE.out.trans (if_pos (by omega)))
                rw [HU.out] at HFF
                have cd' : decide (d < 0) = false := decide_eq_false cd
                have cn' : decide (n < 0) = true := decide_eq_true cn
                clear cd cn
                go_wp2_with fail
                refine (rFit (-((m : Int) + 1)) (-(m : Int)) _).mono ?_
                rintro e w1 ⟨rfl, hb⟩
                obtain ⟨r0, r1, rf0, rf1, rlt⟩ := A0.keep hb
                have HW := Lib.hid (bel1 hb)
                clear hb
                rw [show fit (-((m : Int) + 1)) (-(m : Int)) = F from HFF.out.symm]
                unfold vR
                obtain ⟨s0, s1⟩ := set2 r0 r1 (.int .i64 F.l) (.int .i64 F.h)
                go_wp2_with fail
                refine bodyPost_ret (v := .tuple #[.agg #[.int .i64 F.l, .int .i64 F.h], .int .i64 F.e]) (by simp [results, Try.results13, go_sem, s0, s1]) rfl ⟨rfl, ?_⟩
                exact below_set2 HW.out (by omega) _ _
            · by_cases cd : d < 0
              · have HFF := Lib.hid (HE.out.trans (if_pos (by omega)))
                rw [HU.out] at HFF
                have cd' : decide (d < 0) = true := decide_eq_true cd
                have cn' : decide (n < 0) = false := decide_eq_false cn
                clear cd cn
                go_wp2_with fail
                refine (rFit (-((m : Int) + 1)) (-(m : Int)) _).mono ?_
                rintro e w1 ⟨rfl, hb⟩
                obtain ⟨r0, r1, rf0, rf1, rlt⟩ := A0.keep hb
                have HW := Lib.hid (bel1 hb)
                clear hb
                rw [show fit (-((m : Int) + 1)) (-(m : Int)) = F from HFF.out.symm]
                unfold vR
                obtain ⟨s0, s1⟩ := set2 r0 r1 (.int .i64 F.l) (.int .i64 F.h)
                go_wp2_with fail
                refine bodyPost_ret (v := .tuple #[.agg #[.int .i64 F.l, .int .i64 F.h], .int .i64 F.e]) (by simp [results, Try.results13, go_sem, s0, s1]) rfl ⟨rfl, ?_⟩
                exact below_set2 HW.out (by omega) _ _
              · have HFF := Lib.hid (HE.out.trans (if_neg (by omega)))
                rw [HU.out] at HFF
                have cd' : decide (d < 0) = false := decide_eq_false cd
                have cn' : decide (n < 0) = false := decide_eq_false cn
                clear cd cn
                go_wp2_with fail
                refine (rFit (m : Int) ((m : Int) + 1) _).mono ?_
                rintro e w1 ⟨rfl, hb⟩
                obtain ⟨r0, r1, rf0, rf1, rlt⟩ := A0.keep hb
                have HW := Lib.hid (bel1 hb)
                clear hb
                rw [show fit (m : Int) ((m : Int) + 1) = F from HFF.out.symm]
                unfold vR
                obtain ⟨s0, s1⟩ := set2 r0 r1 (.int .i64 F.l) (.int .i64 F.h)
                go_wp2_with fail
                refine bodyPost_ret (v := .tuple #[.agg #[.int .i64 F.l, .int .i64 F.h], .int .i64 F.e]) (by simp [results, Try.results13, go_sem, s0, s1]) rfl ⟨rfl, ?_⟩
                exact below_set2 HW.out (by omega) _ _
          · have HU : Hid (mU A B = (m : Int)) := by show _ = _; unfold mU; rw [HM.out, HSs.out, if_neg hs0]
            have s1 : ¬ (0 : Int) < (s : Int) := by omega
            by_cases cn : n < 0
            · by_cases cd : d < 0
              · have HFF := Lib.hid (HE.out.trans (if_neg (by omega)))
                rw [HU.out] at HFF
                have cd' : decide (d < 0) = true := decide_eq_true cd
                have cn' : decide (n < 0) = true := decide_eq_true cn
                clear cd cn
                go_wp2_with fail
                refine (rFit (m : Int) (m : Int) _).mono ?_
                rintro e w1 ⟨rfl, hb⟩
                obtain ⟨r0, r1, rf0, rf1, rlt⟩ := A0.keep hb
                have HW := Lib.hid (bel1 hb)
                clear hb
                rw [show fit (m : Int) (m : Int) = F from HFF.out.symm]
                unfold vR
                obtain ⟨s0, s1⟩ := set2 r0 r1 (.int .i64 F.l) (.int .i64 F.h)
                go_wp2_with fail
                refine bodyPost_ret (v := .tuple #[.agg #[.int .i64 F.l, .int .i64 F.h], .int .i64 F.e]) (by simp [results, Try.results13, go_sem, s0, s1]) rfl ⟨rfl, ?_⟩
                exact below_set2 HW.out (by omega) _ _
              · have HFF := Lib.hid (HE.out.trans (if_pos (by omega)))
                rw [HU.out] at HFF
                have cd' : decide (d < 0) = false := decide_eq_false cd
                have cn' : decide (n < 0) = true := decide_eq_true cn
                clear cd cn
                go_wp2_with fail
                refine (rFit (-(m : Int)) (-(m : Int)) _).mono ?_
                rintro e w1 ⟨rfl, hb⟩
                obtain ⟨r0, r1, rf0, rf1, rlt⟩ := A0.keep hb
                have HW := Lib.hid (bel1 hb)
                clear hb
                rw [show fit (-(m : Int)) (-(m : Int)) = F from HFF.out.symm]
                unfold vR
                obtain ⟨s0, s1⟩ := set2 r0 r1 (.int .i64 F.l) (.int .i64 F.h)
                go_wp2_with fail
                refine bodyPost_ret (v := .tuple #[.agg #[.int .i64 F.l, .int .i64 F.h], .int .i64 F.e]) (by simp [results, Try.results13, go_sem, s0, s1]) rfl ⟨rfl, ?_⟩
                exact below_set2 HW.out (by omega) _ _
            · by_cases cd : d < 0
              · have HFF := Lib.hid (HE.out.trans (if_pos (by omega)))
                rw [HU.out] at HFF
                have cd' : decide (d < 0) = true := decide_eq_true cd
                have cn' : decide (n < 0) = false := decide_eq_false cn
                clear cd cn
                go_wp2_with fail
                refine (rFit (-(m : Int)) (-(m : Int)) _).mono ?_
                rintro e w1 ⟨rfl, hb⟩
                obtain ⟨r0, r1, rf0, rf1, rlt⟩ := A0.keep hb
                have HW := Lib.hid (bel1 hb)
                clear hb
                rw [show fit (-(m : Int)) (-(m : Int)) = F from HFF.out.symm]
                unfold vR
                obtain ⟨s0, s1⟩ := set2 r0 r1 (.int .i64 F.l) (.int .i64 F.h)
                go_wp2_with fail
                refine bodyPost_ret (v := .tuple #[.agg #[.int .i64 F.l, .int .i64 F.h], .int .i64 F.e]) (by simp [results, Try.results13, go_sem, s0, s1]) rfl ⟨rfl, ?_⟩
                exact below_set2 HW.out (by omega) _ _
              · have HFF := Lib.hid (HE.out.trans (if_neg (by omega)))
                rw [HU.out] at HFF
                have cd' : decide (d < 0) = false := decide_eq_false cd
                have cn' : decide (n < 0) = false := decide_eq_false cn
                clear cd cn
                go_wp2_with fail
                refine (rFit (m : Int) (m : Int) _).mono ?_
                rintro e w1 ⟨rfl, hb⟩
                obtain ⟨r0, r1, rf0, rf1, rlt⟩ := A0.keep hb
                have HW := Lib.hid (bel1 hb)
                clear hb
                rw [show fit (m : Int) (m : Int) = F from HFF.out.symm]
                unfold vR
                obtain ⟨s0, s1⟩ := set2 r0 r1 (.int .i64 F.l) (.int .i64 F.h)
                go_wp2_with fail
                refine bodyPost_ret (v := .tuple #[.agg #[.int .i64 F.l, .int .i64 F.h], .int .i64 F.e]) (by simp [results, Try.results13, go_sem, s0, s1]) rfl ⟨rfl, ?_⟩
                exact below_set2 HW.out (by omega) _ _
    · have t3' : ((q : Int) == 2) = false := by rw [beq_eq_false_iff_ne]; exact t3
      go_enter Try.func13, Try.ntmps13
      go_wp2_with fail
      refine (S1.out _).mono ?_
      rintro e w1 ⟨rfl, rfl⟩
      go_wp2_with fail
      refine (S2.out _).mono ?_
      rintro e w1 ⟨rfl, rfl⟩
      go_wp2_with fail
      clear c1 c2 t2 t3'
      go_loopg [8, 9, 10] 30 (fun k v8 v9 v10 wr => ∃ i : Nat, k = 30 - i ∧ v8 = .int .i64 ((mQ A B i : Nat) : Int) ∧ v9 = .int .u64 ((mR A B i : Nat) : Int) ∧ v10 = .int .i64 (i : Int) ∧ Hid (i ≤ 30) ∧ wr = w.alloc (.cells #[.int .i64 0, .int .i64 0] 23))
      case atStart => exact ⟨0, rfl, by rw [H0.out.1], by rw [H0.out.2], rfl, Nat.zero_le _, rfl⟩
      case round =>
        obtain ⟨i, hk, rfl, rfl, rfl, HI, rfl⟩ := hrel
        have HK := Lib.hid hk
        have ST := Lib.hid (mQ_step A B i pB)
        have mb : mQ A B i ≤ 2147483648 := by
          have h1 := mQ_bound A B i lQ.out pB
          have h2 : (2 : Nat) ^ i ≤ 2 ^ 30 := Nat.pow_le_pow_right (by omega) HI.out
          omega
        have sb : mR A B i < B := Nat.mod_lt _ pB
        obtain ⟨m, hm⟩ : ∃ m, mQ A B i = m := ⟨_, rfl⟩
        obtain ⟨s, hs⟩ : ∃ s, mR A B i = s := ⟨_, rfl⟩
        rw [hm] at ST mb
        rw [hs] at ST sb
        have HM := Lib.hid hm
        have HSs := Lib.hid hs
        rw [hm, hs]
        clear hm hs hk a0 a1 af0 af1 alt
        by_cases hi : i < 30
        · have hm2 : m ≤ 1073741824 * 2 := mb
          by_cases c : B ≤ 2 * s
          · have NX := Lib.hid (ST.out.1 c)
            have e1 : (s : Int) ≥ (B : Int) - (s : Int) := by omega
            have i1 : (i : Int) < 30 := by omega
            go_wp2_with fail
            go_roundg (30 - (i + 1))
            case measure => have := HK.out; omega
            case rel => exact ⟨i + 1, rfl, by rw [NX.out.1]; go_num, by rw [NX.out.2]; go_num, by go_num, (by show i + 1 ≤ 30; omega), rfl⟩
          · have NX := Lib.hid (ST.out.2 c)
            have e1 : ¬ (s : Int) ≥ (B : Int) - (s : Int) := by omega
            have i1 : (i : Int) < 30 := by omega
            go_wp2_with fail
            go_roundg (30 - (i + 1))
            case measure => have := HK.out; omega
            case rel => exact ⟨i + 1, rfl, by rw [NX.out.1]; go_num, by rw [NX.out.2]; go_num, by go_num, (by show i + 1 ≤ 30; omega), rfl⟩
        · have hi30 : i = 30 := by have := HI.out; omega
          subst hi30
          have i1 : ¬ (30 : Int) < 30 := by omega
          rw [HM.out] at HE
          by_cases hs0 : s > 0
          · have HU : Hid (mU A B = (m : Int) + 1) := by show _ = _; unfold mU; rw [HM.out, HSs.out, if_pos hs0]
            have s1 : (0 : Int) < (s : Int) := by omega
            by_cases cn : n < 0
            · by_cases cd : d < 0
              · have HFF := Lib.hid (HE.out.trans (if_neg (by omega)))
                rw [HU.out] at HFF
                have cd' : decide (d < 0) = true := decide_eq_true cd
                have cn' : decide (n < 0) = true := decide_eq_true cn
                clear cd cn
                go_wp2_with fail
                refine (rFit (m : Int) ((m : Int) + 1) _).mono ?_
                rintro e w1 ⟨rfl, hb⟩
                obtain ⟨r0, r1, rf0, rf1, rlt⟩ := A0.keep hb
                have HW := Lib.hid (bel1 hb)
                clear hb
                rw [show fit (m : Int) ((m : Int) + 1) = F from HFF.out.symm]
                unfold vR
                obtain ⟨s0, s1⟩ := set2 r0 r1 (.int .i64 F.l) (.int .i64 F.h)
                go_wp2_with fail
                refine bodyPost_ret (v := .tuple #[.agg #[.int .i64 F.l, .int .i64 F.h], .int .i64 F.e]) (by simp [results, Try.results13, go_sem, s0, s1]) rfl ⟨rfl, ?_⟩
                exact below_set2 HW.out (by omega) _ _
              · have HFF := Lib.hid (HE.out.trans (if_pos (by omega)))
                rw [HU.out] at HFF
                have cd' : decide (d < 0) = false := decide_eq_false cd
                have cn' : decide (n < 0) = true := decide_eq_true cn
                clear cd cn
                go_wp2_with fail
                refine (rFit (-((m : Int) + 1)) (-(m : Int)) _).mono ?_
                rintro e w1 ⟨rfl, hb⟩
                obtain ⟨r0, r1, rf0, rf1, rlt⟩ := A0.keep hb
                have HW := Lib.hid (bel1 hb)
                clear hb
                rw [show fit (-((m : Int) + 1)) (-(m : Int)) = F from HFF.out.symm]
                unfold vR
                obtain ⟨s0, s1⟩ := set2 r0 r1 (.int .i64 F.l) (.int .i64 F.h)
                go_wp2_with fail
                refine bodyPost_ret (v := .tuple #[.agg #[.int .i64 F.l, .int .i64 F.h], .int .i64 F.e]) (by simp [results, Try.results13, go_sem, s0, s1]) rfl ⟨rfl, ?_⟩
                exact below_set2 HW.out (by omega) _ _
            · by_cases cd : d < 0
              · have HFF := Lib.hid (HE.out.trans (if_pos (by omega)))
                rw [HU.out] at HFF
                have cd' : decide (d < 0) = true := decide_eq_true cd
                have cn' : decide (n < 0) = false := decide_eq_false cn
                clear cd cn
                go_wp2_with fail
                refine (rFit (-((m : Int) + 1)) (-(m : Int)) _).mono ?_
                rintro e w1 ⟨rfl, hb⟩
                obtain ⟨r0, r1, rf0, rf1, rlt⟩ := A0.keep hb
                have HW := Lib.hid (bel1 hb)
                clear hb
                rw [show fit (-((m : Int) + 1)) (-(m : Int)) = F from HFF.out.symm]
                unfold vR
                obtain ⟨s0, s1⟩ := set2 r0 r1 (.int .i64 F.l) (.int .i64 F.h)
                go_wp2_with fail
                refine bodyPost_ret (v := .tuple #[.agg #[.int .i64 F.l, .int .i64 F.h], .int .i64 F.e]) (by simp [results, Try.results13, go_sem, s0, s1]) rfl ⟨rfl, ?_⟩
                exact below_set2 HW.out (by omega) _ _
              · have HFF := Lib.hid (HE.out.trans (if_neg (by omega)))
                rw [HU.out] at HFF
                have cd' : decide (d < 0) = false := decide_eq_false cd
                have cn' : decide (n < 0) = false := decide_eq_false cn
                clear cd cn
                go_wp2_with fail
                refine (rFit (m : Int) ((m : Int) + 1) _).mono ?_
                rintro e w1 ⟨rfl, hb⟩
                obtain ⟨r0, r1, rf0, rf1, rlt⟩ := A0.keep hb
                have HW := Lib.hid (bel1 hb)
                clear hb
                rw [show fit (m : Int) ((m : Int) + 1) = F from HFF.out.symm]
                unfold vR
                obtain ⟨s0, s1⟩ := set2 r0 r1 (.int .i64 F.l) (.int .i64 F.h)
                go_wp2_with fail
                refine bodyPost_ret (v := .tuple #[.agg #[.int .i64 F.l, .int .i64 F.h], .int .i64 F.e]) (by simp [results, Try.results13, go_sem, s0, s1]) rfl ⟨rfl, ?_⟩
                exact below_set2 HW.out (by omega) _ _
          · have HU : Hid (mU A B = (m : Int)) := by show _ = _; unfold mU; rw [HM.out, HSs.out, if_neg hs0]
            have s1 : ¬ (0 : Int) < (s : Int) := by omega
            by_cases cn : n < 0
            · by_cases cd : d < 0
              · have HFF := Lib.hid (HE.out.trans (if_neg (by omega)))
                rw [HU.out] at HFF
                have cd' : decide (d < 0) = true := decide_eq_true cd
                have cn' : decide (n < 0) = true := decide_eq_true cn
                clear cd cn
                go_wp2_with fail
                refine (rFit (m : Int) (m : Int) _).mono ?_
                rintro e w1 ⟨rfl, hb⟩
                obtain ⟨r0, r1, rf0, rf1, rlt⟩ := A0.keep hb
                have HW := Lib.hid (bel1 hb)
                clear hb
                rw [show fit (m : Int) (m : Int) = F from HFF.out.symm]
                unfold vR
                obtain ⟨s0, s1⟩ := set2 r0 r1 (.int .i64 F.l) (.int .i64 F.h)
                go_wp2_with fail
                refine bodyPost_ret (v := .tuple #[.agg #[.int .i64 F.l, .int .i64 F.h], .int .i64 F.e]) (by simp [results, Try.results13, go_sem, s0, s1]) rfl ⟨rfl, ?_⟩
                exact below_set2 HW.out (by omega) _ _
              · have HFF := Lib.hid (HE.out.trans (if_pos (by omega)))
                rw [HU.out] at HFF
                have cd' : decide (d < 0) = false := decide_eq_false cd
                have cn' : decide (n < 0) = true := decide_eq_true cn
                clear cd cn
                go_wp2_with fail
                refine (rFit (-(m : Int)) (-(m : Int)) _).mono ?_
                rintro e w1 ⟨rfl, hb⟩
                obtain ⟨r0, r1, rf0, rf1, rlt⟩ := A0.keep hb
                have HW := Lib.hid (bel1 hb)
                clear hb
                rw [show fit (-(m : Int)) (-(m : Int)) = F from HFF.out.symm]
                unfold vR
                obtain ⟨s0, s1⟩ := set2 r0 r1 (.int .i64 F.l) (.int .i64 F.h)
                go_wp2_with fail
                refine bodyPost_ret (v := .tuple #[.agg #[.int .i64 F.l, .int .i64 F.h], .int .i64 F.e]) (by simp [results, Try.results13, go_sem, s0, s1]) rfl ⟨rfl, ?_⟩
                exact below_set2 HW.out (by omega) _ _
            · by_cases cd : d < 0
              · have HFF := Lib.hid (HE.out.trans (if_pos (by omega)))
                rw [HU.out] at HFF
                have cd' : decide (d < 0) = true := decide_eq_true cd
                have cn' : decide (n < 0) = false := decide_eq_false cn
                clear cd cn
                go_wp2_with fail
                refine (rFit (-(m : Int)) (-(m : Int)) _).mono ?_
                rintro e w1 ⟨rfl, hb⟩
                obtain ⟨r0, r1, rf0, rf1, rlt⟩ := A0.keep hb
                have HW := Lib.hid (bel1 hb)
                clear hb
                rw [show fit (-(m : Int)) (-(m : Int)) = F from HFF.out.symm]
                unfold vR
                obtain ⟨s0, s1⟩ := set2 r0 r1 (.int .i64 F.l) (.int .i64 F.h)
                go_wp2_with fail
                refine bodyPost_ret (v := .tuple #[.agg #[.int .i64 F.l, .int .i64 F.h], .int .i64 F.e]) (by simp [results, Try.results13, go_sem, s0, s1]) rfl ⟨rfl, ?_⟩
                exact below_set2 HW.out (by omega) _ _
              · have HFF := Lib.hid (HE.out.trans (if_neg (by omega)))
                rw [HU.out] at HFF
                have cd' : decide (d < 0) = false := decide_eq_false cd
                have cn' : decide (n < 0) = false := decide_eq_false cn
                clear cd cn
                go_wp2_with fail
                refine (rFit (m : Int) (m : Int) _).mono ?_
                rintro e w1 ⟨rfl, hb⟩
                obtain ⟨r0, r1, rf0, rf1, rlt⟩ := A0.keep hb
                have HW := Lib.hid (bel1 hb)
                clear hb
                rw [show fit (m : Int) (m : Int) = F from HFF.out.symm]
                unfold vR
                obtain ⟨s0, s1⟩ := set2 r0 r1 (.int .i64 F.l) (.int .i64 F.h)
                go_wp2_with fail
                refine bodyPost_ret (v := .tuple #[.agg #[.int .i64 F.l, .int .i64 F.h], .int .i64 F.e]) (by simp [results, Try.results13, go_sem, s0, s1]) rfl ⟨rfl, ?_⟩
                exact below_set2 HW.out (by omega) _ _
  exact WALK (by omega)
end Go.Proofs.Ytdkigfcglfgpoaa
