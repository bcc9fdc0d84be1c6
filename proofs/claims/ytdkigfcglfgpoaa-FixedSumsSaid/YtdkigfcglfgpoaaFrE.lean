/- fixed: the program's quotients in plain words, and what they are for the document. -/
import Derived.Test.YtdkigfcglfgpoaaFrD
namespace Go.Proofs.Ytdkigfcglfgpoaa
open Go.RowKit
set_option linter.unusedVariables false

theorem qdn_pos (N c : Int) (h : 0 < c) : wd.qdn N c = N / c := if_pos h
theorem qdn_neg (N c : Int) (h : c < 0) : wd.qdn N c = (-N) / (-c) := if_neg (by omega)
theorem qup_pos (N c : Int) (h : 0 < c) : wd.qup N c = cdiv N c := by unfold wd.qup cdiv; rw [qdn_pos _ _ h]
theorem qup_neg (N c : Int) (h : c < 0) : wd.qup N c = cdiv (-N) (-c) := by unfold wd.qup cdiv; rw [qdn_neg _ _ h]
theorem qdn_le_qup (N c : Int) (h : c ≠ 0) : wd.qdn N c ≤ wd.qup N c := by
  by_cases k : 0 < c
  · rw [qdn_pos _ _ k, qup_pos _ _ k]; exact fl_le_ce k
  · rw [qdn_neg _ _ (by omega), qup_neg _ _ (by omega)]; exact fl_le_ce (by omega)
/-- quotients are not greater than the number -/
theorem fl_bd {N y B : Int} (hy : 0 < y) (h1 : -B ≤ N) (h2 : N ≤ B) : -B ≤ N / y ∧ cdiv N y ≤ B := by
  have hB : 0 ≤ B := by omega
  constructor
  · rw [le_fl hy]
    have := mul_ge_l (a := 1) (b := y) (c := -B) (by omega) (by omega); omega
  · rw [ce_le hy]
    have := mul_le_l (a := 1) (b := y) (c := B) (by omega) (by omega); omega
theorem q_bd {N c B : Int} (hc : c ≠ 0) (h1 : -B ≤ N) (h2 : N ≤ B) : -B ≤ wd.qdn N c ∧ wd.qup N c ≤ B := by
  by_cases k : 0 < c
  · rw [qdn_pos _ _ k, qup_pos _ _ k]; exact fl_bd k h1 h2
  · rw [qdn_neg _ _ (by omega), qup_neg _ _ (by omega)]; exact fl_bd (by omega) (by omega) (by omega)
theorem dvO_of {N c B : Int} (hc : c ≠ 0) (h1 : -B ≤ N) (h2 : N ≤ B) (hB : B ≤ 9223372036854775807) : dvO N c := by
  have := q_bd hc h1 h2
  have := qdn_le_qup N c hc
  unfold dvO; omega
theorem dvE_of {N c : Int} (h : dvO N c) : dvE N c = 0 := by unfold dvE; rw [if_pos h]
theorem dvE_not {N c : Int} (h : ¬ dvO N c) : dvE N c = 5 := by unfold dvE; rw [if_neg h]
theorem dvE_zero {N c : Int} (h : dvE N c = 0) : dvO N c := by
  by_cases k : dvO N c
  · exact k
  · rw [dvE_not k] at h; omega
theorem dvL_of {N c : Int} (h : dvO N c) : dvL N c = wd.qdn N c := by unfold dvL; rw [if_pos h]
theorem dvH_of {N c : Int} (h : dvO N c) : dvH N c = wd.qup N c := by unfold dvH; rw [if_pos h]

def pk4 (a b c d : Int) : Nat → Int
  | 0 => a
  | 1 => b
  | 2 => c
  | _ => d
def lows (x : Nat → Int) : Nat → Int
  | 0 => 9223372036854775807
  | k + 1 => min (lows x k) (x k)
def highs (y : Nat → Int) : Nat → Int
  | 0 => -9223372036854775808
  | k + 1 => max (highs y k) (y k)
/-- all four quotients are ints -/
def quO (a b c d n : Int) : Prop := dvO (a * n) c ∧ dvO (a * n) d ∧ dvO (b * n) c ∧ dvO (b * n) d
open Classical in
noncomputable def quR (a b c d n : Int) : Fx := if quO a b c d n then
    ⟨min4 (wd.qdn (a * n) c) (wd.qdn (a * n) d) (wd.qdn (b * n) c) (wd.qdn (b * n) d), max4 (wd.qup (a * n) c) (wd.qup (a * n) d) (wd.qup (b * n) c) (wd.qup (b * n) d), 0⟩
  else ⟨0, 0, 5⟩
theorem quR_is (a b c d n : Int) : QuR (pk4 (dvL (a * n) c) (dvL (a * n) d) (dvL (b * n) c) (dvL (b * n) d)) (pk4 (dvH (a * n) c) (dvH (a * n) d) (dvH (b * n) c) (dvH (b * n) d)) (pk4 (dvE (a * n) c) (dvE (a * n) d) (dvE (b * n) c) (dvE (b * n) d))
    (lows (pk4 (dvL (a * n) c) (dvL (a * n) d) (dvL (b * n) c) (dvL (b * n) d))) (highs (pk4 (dvH (a * n) c) (dvH (a * n) d) (dvH (b * n) c) (dvH (b * n) d))) (quR a b c d n) := by
  refine ⟨rfl, rfl, fun _ => rfl, fun _ => rfl, ?_, ?_⟩
  · intro k hk hz he
    have hn : ¬ quO a b c d n := by
      intro ⟨q0, q1, q2, q3⟩
      apply he
      rcases (show k = 0 ∨ k = 1 ∨ k = 2 ∨ k = 3 by omega) with rfl | rfl | rfl | rfl
      · exact dvE_of q0
      · exact dvE_of q1
      · exact dvE_of q2
      · exact dvE_of q3
    have h5 : pk4 (dvE (a * n) c) (dvE (a * n) d) (dvE (b * n) c) (dvE (b * n) d) k = 5 := by
      rcases (show k = 0 ∨ k = 1 ∨ k = 2 ∨ k = 3 by omega) with rfl | rfl | rfl | rfl
      · exact dvE_not fun q => he (dvE_of q)
      · exact dvE_not fun q => he (dvE_of q)
      · exact dvE_not fun q => he (dvE_of q)
      · exact dvE_not fun q => he (dvE_of q)
    rw [h5]
    unfold quR
    rw [if_neg hn]
  · intro hz
    have q0 := dvE_zero (hz 0 (by omega))
    have q1 := dvE_zero (hz 1 (by omega))
    have q2 := dvE_zero (hz 2 (by omega))
    have q3 := dvE_zero (hz 3 (by omega))
    unfold quR
    rw [if_pos ⟨q0, q1, q2, q3⟩]
    show _ = (⟨min (min (min (min 9223372036854775807 (dvL (a * n) c)) (dvL (a * n) d)) (dvL (b * n) c)) (dvL (b * n) d), max (max (max (max (-9223372036854775808) (dvH (a * n) c)) (dvH (a * n) d)) (dvH (b * n) c)) (dvH (b * n) d), 0⟩ : Fx)
    rw [dvL_of q0, dvL_of q1, dvL_of q2, dvL_of q3, dvH_of q0, dvH_of q1, dvH_of q2, dvH_of q3]
    unfold dvO at q0 q1 q2 q3
    congr 1
    · unfold min4; omega
    · unfold max4; omega
/-- the ends of the least range, or ErrBig -/
theorem pQuo (a b c d n : Int) (w : World) (h : fok a b = true) (hc : -2147483648 ≤ c ∧ c ≤ 2147483648 ∧ c ≠ 0) (hd : -2147483648 ≤ d ∧ d ≤ 2147483648 ∧ d ≠ 0) (hn : -1099511627776 ≤ n ∧ n ≤ 1099511627776) :
    Calls Try.prog 53 #[.agg #[.int .i64 a, .int .i64 b], .agg #[.int .i64 c, .int .i64 d], .int .i64 n] w fun ee w' => ee = .returned (vS (quR a b c d n)) ∧ Below w.heap.size w w' := by
  have p := (fok_iff _ _).1 h
  exact pQuG a b c d n _ _ _ _ _ _ w (quR_is a b c d n) (fun wx => pDvd a n c wx (by omega) (by omega) hn.1 hn.2 (by omega) (by omega) hc.2.2)
    (fun wx => pDvd a n d wx (by omega) (by omega) hn.1 hn.2 (by omega) (by omega) hd.2.2)
    (fun wx => pDvd b n c wx (by omega) (by omega) hn.1 hn.2 (by omega) (by omega) hc.2.2)
    (fun wx => pDvd b n d wx (by omega) (by omega) hn.1 hn.2 (by omega) (by omega) hd.2.2)
/-- the corners, with a divisor that is turned positive -/
theorem corners_lo (a b c d n : Int) (h : c ≤ d) (hz : ¬ (c ≤ 0 ∧ 0 ≤ d)) : min4 (wd.qdn (a * n) c) (wd.qdn (a * n) d) (wd.qdn (b * n) c) (wd.qdn (b * n) d) = loQ (tA a b c) (tB a b c) (tC c d) (tD c d) n := by
  by_cases k : c < 0
  · rw [qdn_neg (a * n) c k, qdn_neg (a * n) d (by omega), qdn_neg (b * n) c k, qdn_neg (b * n) d (by omega)]
    unfold loQ tA tB tC tD
    rw [if_pos k, if_pos k, if_pos k, if_pos k, Int.neg_mul, Int.neg_mul]
    unfold min4; omega
  · rw [qdn_pos (a * n) c (by omega), qdn_pos (a * n) d (by omega), qdn_pos (b * n) c (by omega), qdn_pos (b * n) d (by omega)]
    unfold loQ tA tB tC tD
    rw [if_neg k, if_neg k, if_neg k, if_neg k]
theorem corners_hi (a b c d n : Int) (h : c ≤ d) (hz : ¬ (c ≤ 0 ∧ 0 ≤ d)) : max4 (wd.qup (a * n) c) (wd.qup (a * n) d) (wd.qup (b * n) c) (wd.qup (b * n) d) = hiQ (tA a b c) (tB a b c) (tC c d) (tD c d) n := by
  by_cases k : c < 0
  · rw [qup_neg (a * n) c k, qup_neg (a * n) d (by omega), qup_neg (b * n) c k, qup_neg (b * n) d (by omega)]
    unfold hiQ tA tB tC tD
    rw [if_pos k, if_pos k, if_pos k, if_pos k, Int.neg_mul, Int.neg_mul]
    unfold max4; omega
  · rw [qup_pos (a * n) c (by omega), qup_pos (a * n) d (by omega), qup_pos (b * n) c (by omega), qup_pos (b * n) d (by omega)]
    unfold hiQ tA tB tC tD
    rw [if_neg k, if_neg k, if_neg k, if_neg k]
theorem corners_le (a b c d n : Int) (hc : c ≠ 0) : min4 (wd.qdn (a * n) c) (wd.qdn (a * n) d) (wd.qdn (b * n) c) (wd.qdn (b * n) d) ≤ max4 (wd.qup (a * n) c) (wd.qup (a * n) d) (wd.qup (b * n) c) (wd.qup (b * n) d) := by
  have := qdn_le_qup (a * n) c hc
  unfold min4 max4; omega
/-- Div: the quotients are ints -/
theorem quR_div (a b c d : Int) (h : fok a b = true) (k : fok c d = true) (hz : ¬ (c ≤ 0 ∧ 0 ≤ d)) :
    quR a b c d 1073741824 = ⟨loQ (tA a b c) (tB a b c) (tC c d) (tD c d) 1073741824, hiQ (tA a b c) (tB a b c) (tC c d) (tD c d) 1073741824, 0⟩ ∧
    loQ (tA a b c) (tB a b c) (tC c d) (tD c d) 1073741824 ≤ hiQ (tA a b c) (tB a b c) (tC c d) (tD c d) 1073741824 := by
  have p := (fok_iff _ _).1 h
  have q := (fok_iff _ _).1 k
  have o : ∀ x y : Int, -2147483648 ≤ x → x ≤ 2147483648 → y ≠ 0 → dvO (x * 1073741824) y := fun x y h1 h2 h3 => dvO_of (B := 2305843009213693952) h3 (by omega) (by omega) (by omega)
  rw [← corners_lo a b c d _ q.2.2 hz, ← corners_hi a b c d _ q.2.2 hz]
  refine ⟨?_, corners_le a b c d _ (by omega)⟩
  unfold quR
  rw [if_pos ⟨o a c (by omega) (by omega) (by omega), o a d (by omega) (by omega) (by omega), o b c (by omega) (by omega) (by omega), o b d (by omega) (by omega) (by omega)⟩]
/-- Scale: a quotient by 1 -/
theorem quR_scale (a b n : Int) (h : fok a b = true) (hn : reach n = true) : quR a b 1073741824 1073741824 n = scaleR a b n := by
  have p := (fok_iff _ _).1 h
  have q := (reach_iff _).1 hn
  have o : ∀ x : Int, -2147483648 ≤ x → x ≤ 2147483648 → dvO (x * n) 1073741824 := fun x h1 h2 => by
    have m := mul_abs (a := x) (b := n) (A := 2147483648) (B := 1099511627776) (by omega) (by omega) (by omega) (by omega)
    generalize x * n = N at *
    have e1 := qdn_pos N 1073741824 (by omega)
    have e2 := qup_pos N 1073741824 (by omega)
    unfold dvO
    rw [e1, e2]
    unfold cdiv
    omega
  unfold quR scaleR
  rw [if_pos ⟨o a (by omega) (by omega), o a (by omega) (by omega), o b (by omega) (by omega), o b (by omega) (by omega)⟩, if_pos hn, qdn_pos _ _ (by omega), qdn_pos _ _ (by omega), qup_pos _ _ (by omega), qup_pos _ _ (by omega)]
  congr 1
  · unfold min4; omega
  · unfold max4; omega
open Classical in
/-- Quotient: beyond ints there is no arc -/
theorem quR_quot (a b c d n : Int) (hc : fok c d = true) (hz : ¬ (c ≤ 0 ∧ 0 ≤ d)) (hn : reach n = true) :
    quotR a b c d n = if quO a b c d n then (if reach (quR a b c d n).l = true ∧ reach (quR a b c d n).h = true then ⟨(quR a b c d n).l, (quR a b c d n).h, 0⟩ else ⟨0, 0, 5⟩) else ⟨0, 0, 5⟩ := by
  have q := (fok_iff _ _).1 hc
  unfold quotR
  rw [if_pos hn, if_neg hz, ← corners_lo a b c d _ q.2.2 hz, ← corners_hi a b c d _ q.2.2 hz]
  by_cases k : quO a b c d n
  · unfold quR
    rw [if_pos k, if_pos k]
  · rw [if_neg k, if_neg]
    intro ⟨r1, r2⟩
    have r1 := (reach_iff _).1 r1
    have r2 := (reach_iff _).1 r2
    apply k
    have l0 := qdn_le_qup (a * n) c (by omega)
    have l1 := qdn_le_qup (a * n) d (by omega)
    have l2 := qdn_le_qup (b * n) c (by omega)
    have l3 := qdn_le_qup (b * n) d (by omega)
    obtain ⟨m0, m1, m2, m3⟩ := min4_le (wd.qdn (a * n) c) (wd.qdn (a * n) d) (wd.qdn (b * n) c) (wd.qdn (b * n) d)
    obtain ⟨n0, n1, n2, n3⟩ := le_max4 (wd.qup (a * n) c) (wd.qup (a * n) d) (wd.qup (b * n) c) (wd.qup (b * n) d)
    unfold quO dvO
    omega
theorem quR_no {a b c d n : Int} (h : ¬ quO a b c d n) : quR a b c d n = ⟨0, 0, 5⟩ := if_neg h
theorem quR_yes {a b c d n : Int} (h : quO a b c d n) : (quR a b c d n).e = 0 := by unfold quR; rw [if_pos h]
/-- Make: what is no int is no interval -/
theorem make_yes {n d : Int} (h : d ≠ 0) (k : dvO (n * 1073741824) d) : makeR n d = fit (dvL (n * 1073741824) d) (dvH (n * 1073741824) d) ∧ dvL (n * 1073741824) d ≤ dvH (n * 1073741824) d := by
  have hl := qdn_le_qup (n * 1073741824) d h
  rw [dvL_of k, dvH_of k]
  refine ⟨?_, hl⟩
  unfold makeR
  rw [if_neg h]
  by_cases c : d < 0
  · rw [if_pos c, qdn_neg _ _ c, qup_neg _ _ c, Int.neg_mul]
  · rw [if_neg c, qdn_pos _ _ (by omega), qup_pos _ _ (by omega)]
theorem make_no {n d : Int} (h : d ≠ 0) (k : ¬ dvO (n * 1073741824) d) : makeR n d = ⟨0, 0, 5⟩ := by
  have hl := qdn_le_qup (n * 1073741824) d h
  have hf : makeR n d = fit (wd.qdn (n * 1073741824) d) (wd.qup (n * 1073741824) d) := by
    unfold makeR
    rw [if_neg h]
    by_cases c : d < 0
    · rw [if_pos c, qdn_neg _ _ c, qup_neg _ _ c, Int.neg_mul]
    · rw [if_neg c, qdn_pos _ _ (by omega), qup_pos _ _ (by omega)]
  rw [hf, fit_no]
  intro ⟨f1, f2⟩
  apply k
  unfold dvO
  omega
end Go.Proofs.Ytdkigfcglfgpoaa
