/- Contract of wide.Product. -/
import Derived.Test.YtdkigfcglfgpoaaWdB
import Derived.Test.YtdkigfcglfgpoaaShelf
namespace Go.Proofs.Ytdkigfcglfgpoaa.wd
open Go.RowKit
set_option linter.unusedVariables false

theorem or_parts (P : Nat) (h : P / 18446744073709551616 ≤ 72057594037927936) :
    bits .or .u64 ((P : Int) / 18446744073709551616 * 16) ((P : Int) % 18446744073709551616 / 1152921504606846976) = (P : Int) / 1152921504606846976 := by
  have e1 : (P : Int) / 18446744073709551616 * 16 = ((P / 18446744073709551616 * 16 : Nat) : Int) := by omega
  have e2 : (P : Int) % 18446744073709551616 / 1152921504606846976 = ((P % 18446744073709551616 / 1152921504606846976 : Nat) : Int) := by omega
  rw [e1, e2, bits_or_u64_nat _ _ (by omega) (by omega)]
  have e3 : P / 18446744073709551616 * 16 = (P / 18446744073709551616) <<< 4 := by rw [Nat.shiftLeft_eq]
  rw [e3, ← Nat.shiftLeft_add_eq_or_of_lt (by omega), Nat.shiftLeft_eq]
  omega

theorem prod_sign (a b : Int) : a * b = if (a < 0) ≠ (b < 0) then -((a.natAbs * b.natAbs : Nat) : Int) else ((a.natAbs * b.natAbs : Nat) : Int) := by
  rw [Int.natCast_mul]
  by_cases h1 : a < 0 <;> by_cases h2 : b < 0
  · rw [if_neg (by simp [h1, h2]), Int.ofNat_natAbs_of_nonpos (by omega), Int.ofNat_natAbs_of_nonpos (by omega), Int.neg_mul_neg]
  · rw [if_pos (by simp [h1, h2]), Int.ofNat_natAbs_of_nonpos (by omega), Int.natAbs_of_nonneg (by omega), Int.neg_mul, Int.neg_neg]
  · rw [if_pos (by simp [h1, h2]), Int.natAbs_of_nonneg (by omega), Int.ofNat_natAbs_of_nonpos (by omega), Int.mul_neg, Int.neg_neg]
  · rw [if_neg (by simp [h1, h2]), Int.natAbs_of_nonneg (by omega), Int.natAbs_of_nonneg (by omega)]

theorem fit_big (P : Nat) (n : Int) (hn : n = -(P : Int) ∨ n = (P : Int)) (h : ¬ P / 18446744073709551616 ≤ 72057594037927936) : wfit n = false := by
  rw [wfit_not]; unfold wh; omega

/-- what Product needs -/
def productMark : Unit := ()
set_option maxHeartbeats 1000000 in
theorem product_big (a b : Int) (w : World) (a1 : -9223372036854775808 ≤ a) (a2 : a ≤ 9223372036854775807) (b1 : -9223372036854775808 ≤ b) (b2 : b ≤ 9223372036854775807)
    (hb : ¬ a.natAbs * b.natAbs / 18446744073709551616 ≤ 72057594037927936) :
    Calls Try.prog 64 #[.int .i64 a, .int .i64 b] w fun e w' => e = .returned (.tuple #[.agg #[.int .i64 (fitH (a * b)), .int .i64 (fitL (a * b))], .int .i64 (fitE (a * b))]) ∧ Below w.heap.size w w' := by
  have CA := Lib.hid (fun (wx : World) => absolute_any a wx a1 a2)
  have CB := Lib.hid (fun (wx : World) => absolute_any b wx b1 b2)
  have CM := Lib.hid (fun (wx : World) => Try.bits_Mul64 a.natAbs b.natAbs (by omega) (by omega) wx)
  have hs := prod_sign a b
  obtain ⟨p, hp⟩ : ∃ p, p = a.natAbs := ⟨_, rfl⟩
  obtain ⟨q, hq⟩ : ∃ q, q = b.natAbs := ⟨_, rfl⟩
  rw [← hp] at CA CM hs
  rw [← hq] at CB CM hs
  rw [← hp, ← hq] at hb
  obtain ⟨P, hP⟩ : ∃ P, P = p * q := ⟨_, rfl⟩
  rw [← hP] at CM hs hb
  obtain ⟨n, hn⟩ : ∃ n, n = a * b := ⟨_, rfl⟩
  rw [← hn] at hs ⊢
  clear hp hq hP hn
  have HS := Lib.hid hs
  clear hs
  have hw : wfit n = false := by
    refine fit_big P n ?_ hb
    have := HS.out
    split at this
    · exact .inl this
    · exact .inr this
  have m0 : 72057594037927936 < (P : Int) / 18446744073709551616 := by omega
  have K1 : fitH n = 0 := by unfold fitH; rw [hw]; rfl
  have K2 : fitL n = 0 := by unfold fitL; rw [hw]; rfl
  have K3 : fitE n = 5 := by unfold fitE; rw [hw]; rfl
  rw [K1, K2, K3]
  clear hw K1 K2 K3 HS hb
  go_enter Try.func64, Try.ntmps64
  go_wp2_with fail
  refine (CA.out _).mono ?_
  rintro e w' ⟨rfl, rfl⟩
  go_wp2_with fail
  refine (CB.out _).mono ?_
  rintro e w' ⟨rfl, rfl⟩
  go_wp2_with fail
  refine (CM.out _).mono ?_
  rintro e w' ⟨rfl, rfl⟩
  go_wp2_with fail
  refine bodyPost_ret (v := .tuple #[.agg #[.int .i64 0, .int .i64 0], .int .i64 5]) (by simp [results, Try.results64, go_sem]) rfl ⟨rfl, ?_⟩
  exact below1 w _

set_option maxHeartbeats 1000000 in
theorem product_nn (a b : Int) (w : World) (a1 : -9223372036854775808 ≤ a) (a2 : a ≤ 9223372036854775807) (b1 : -9223372036854775808 ≤ b) (b2 : b ≤ 9223372036854775807)
    (hb : a.natAbs * b.natAbs / 18446744073709551616 ≤ 72057594037927936) (s1 : a < 0) (s2 : b < 0) :
    Calls Try.prog 64 #[.int .i64 a, .int .i64 b] w fun e w' => e = .returned (.tuple #[.agg #[.int .i64 (fitH (a * b)), .int .i64 (fitL (a * b))], .int .i64 (fitE (a * b))]) ∧ Below w.heap.size w w' := by
  have CA := Lib.hid (fun (wx : World) => absolute_any a wx a1 a2)
  have CB := Lib.hid (fun (wx : World) => absolute_any b wx b1 b2)
  have CM := Lib.hid (fun (wx : World) => Try.bits_Mul64 a.natAbs b.natAbs (by omega) (by omega) wx)
  have hs := prod_sign a b
  obtain ⟨p, hp⟩ : ∃ p, p = a.natAbs := ⟨_, rfl⟩
  obtain ⟨q, hq⟩ : ∃ q, q = b.natAbs := ⟨_, rfl⟩
  rw [← hp] at CA CM hs
  rw [← hq] at CB CM hs
  rw [← hp, ← hq] at hb
  obtain ⟨P, hP⟩ : ∃ P, P = p * q := ⟨_, rfl⟩
  rw [← hP] at CM hs hb
  obtain ⟨n, hn⟩ : ∃ n, n = a * b := ⟨_, rfl⟩
  rw [← hn] at hs ⊢
  clear hp hq hP hn
  have HS := Lib.hid hs
  clear hs
  have hor := or_parts P hb
  obtain ⟨x, hx⟩ : ∃ x, x = (P : Int) / 1152921504606846976 := ⟨_, rfl⟩
  rw [← hx] at hor
  have m0 : (P : Int) / 18446744073709551616 ≤ 72057594037927936 := by omega
  have m1 : 0 ≤ x := by omega
  have m2 : x ≤ 1152921504606846992 := by omega
  have HX := Lib.hid hx
  clear hx
  have HS2 : Hid (n = (P : Int)) := by
    have := HS.out
    first
    | (rw [if_neg (by simp only [ne_eq, Decidable.not_not]; exact propext ⟨fun _ => by omega, fun _ => by omega⟩)] at this; exact this)
    | (rw [if_pos (by intro e; have e' : a < 0 ↔ b < 0 := by rw [e]
                      omega)] at this; exact this)
  have CF : Hid (∀ wx, Calls Try.prog 73 #[.int .i64 (x), .int .i64 (((P : Int) % 1152921504606846976))] wx fun e w' => e = .returned (.tuple #[.agg #[.int .i64 (fitH n), .int .i64 (fitL n)], .int .i64 (fitE n)]) ∧ Below wx.heap.size wx w') := by
    intro wx
    have := fitted_any (x) (((P : Int) % 1152921504606846976)) wx (by omega) (by omega) (by omega) (by omega)
    rw [show wv (x) (((P : Int) % 1152921504606846976)) = n by rw [HS2.out, HX.out]; unfold wv; omega] at this
    exact this
  obtain ⟨u, hu⟩ : ∃ u, u = fitH n := ⟨_, rfl⟩
  obtain ⟨v, hv⟩ : ∃ v, v = fitL n := ⟨_, rfl⟩
  obtain ⟨z, hz⟩ : ∃ z, z = fitE n := ⟨_, rfl⟩
  rw [← hu, ← hv, ← hz] at CF ⊢
  have t1 : decide (a < 0) = true := by simp; omega
  have t2 : decide (b < 0) = true := by simp; omega
  clear hu hv hz HS HS2 HX hb
  go_enter Try.func64, Try.ntmps64
  go_wp2_with fail
  refine (CA.out _).mono ?_
  rintro e w' ⟨rfl, rfl⟩
  go_wp2_with fail
  refine (CB.out _).mono ?_
  rintro e w' ⟨rfl, rfl⟩
  go_wp2_with fail
  refine (CM.out _).mono ?_
  rintro e w' ⟨rfl, rfl⟩
  go_wp2_with fail
  refine (CF.out _).mono ?_
  rintro e w1 ⟨rfl, hb1⟩
  obtain ⟨c0, c1, f0, f1, hz⟩ := (At2.new w (.int .i64 0) (.int .i64 0) 67).keep hb1
  have HB := Lib.hid (bstep (below1 w _) hb1)
  clear hb1
  obtain ⟨t0, t1⟩ := set2 c0 c1 (.int .i64 u) (.int .i64 v)
  go_wp2_with fail
  refine bodyPost_ret (v := .tuple #[.agg #[.int .i64 u, .int .i64 v], .int .i64 z]) (by simp [results, Try.results64, go_sem, t0, t1]) rfl ⟨rfl, ?_⟩
  exact below_set2 HB.out (by omega) _ _

set_option maxHeartbeats 1000000 in
theorem product_np (a b : Int) (w : World) (a1 : -9223372036854775808 ≤ a) (a2 : a ≤ 9223372036854775807) (b1 : -9223372036854775808 ≤ b) (b2 : b ≤ 9223372036854775807)
    (hb : a.natAbs * b.natAbs / 18446744073709551616 ≤ 72057594037927936) (s1 : a < 0) (s2 : 0 ≤ b) :
    Calls Try.prog 64 #[.int .i64 a, .int .i64 b] w fun e w' => e = .returned (.tuple #[.agg #[.int .i64 (fitH (a * b)), .int .i64 (fitL (a * b))], .int .i64 (fitE (a * b))]) ∧ Below w.heap.size w w' := by
  have CA := Lib.hid (fun (wx : World) => absolute_any a wx a1 a2)
  have CB := Lib.hid (fun (wx : World) => absolute_any b wx b1 b2)
  have CM := Lib.hid (fun (wx : World) => Try.bits_Mul64 a.natAbs b.natAbs (by omega) (by omega) wx)
  have hs := prod_sign a b
  obtain ⟨p, hp⟩ : ∃ p, p = a.natAbs := ⟨_, rfl⟩
  obtain ⟨q, hq⟩ : ∃ q, q = b.natAbs := ⟨_, rfl⟩
  rw [← hp] at CA CM hs
  rw [← hq] at CB CM hs
  rw [← hp, ← hq] at hb
  obtain ⟨P, hP⟩ : ∃ P, P = p * q := ⟨_, rfl⟩
  rw [← hP] at CM hs hb
  obtain ⟨n, hn⟩ : ∃ n, n = a * b := ⟨_, rfl⟩
  rw [← hn] at hs ⊢
  clear hp hq hP hn
  have HS := Lib.hid hs
  clear hs
  have hor := or_parts P hb
  obtain ⟨x, hx⟩ : ∃ x, x = (P : Int) / 1152921504606846976 := ⟨_, rfl⟩
  rw [← hx] at hor
  have m0 : (P : Int) / 18446744073709551616 ≤ 72057594037927936 := by omega
  have m1 : 0 ≤ x := by omega
  have m2 : x ≤ 1152921504606846992 := by omega
  have HX := Lib.hid hx
  clear hx
  have HS2 : Hid (n = -(P : Int)) := by
    have := HS.out
    first
    | (rw [if_neg (by simp only [ne_eq, Decidable.not_not]; exact propext ⟨fun _ => by omega, fun _ => by omega⟩)] at this; exact this)
    | (rw [if_pos (by intro e; have e' : a < 0 ↔ b < 0 := by rw [e]
                      omega)] at this; exact this)
  have CF : Hid (∀ wx, Calls Try.prog 73 #[.int .i64 (-x), .int .i64 (-((P : Int) % 1152921504606846976))] wx fun e w' => e = .returned (.tuple #[.agg #[.int .i64 (fitH n), .int .i64 (fitL n)], .int .i64 (fitE n)]) ∧ Below wx.heap.size wx w') := by
    intro wx
    have := fitted_any (-x) (-((P : Int) % 1152921504606846976)) wx (by omega) (by omega) (by omega) (by omega)
    rw [show wv (-x) (-((P : Int) % 1152921504606846976)) = n by rw [HS2.out, HX.out]; unfold wv; omega] at this
    exact this
  obtain ⟨u, hu⟩ : ∃ u, u = fitH n := ⟨_, rfl⟩
  obtain ⟨v, hv⟩ : ∃ v, v = fitL n := ⟨_, rfl⟩
  obtain ⟨z, hz⟩ : ∃ z, z = fitE n := ⟨_, rfl⟩
  rw [← hu, ← hv, ← hz] at CF ⊢
  have t1 : decide (a < 0) = true := by simp; omega
  have t2 : decide (b < 0) = false := by simp; omega
  clear hu hv hz HS HS2 HX hb
  go_enter Try.func64, Try.ntmps64
  go_wp2_with fail
  refine (CA.out _).mono ?_
  rintro e w' ⟨rfl, rfl⟩
  go_wp2_with fail
  refine (CB.out _).mono ?_
  rintro e w' ⟨rfl, rfl⟩
  go_wp2_with fail
  refine (CM.out _).mono ?_
  rintro e w' ⟨rfl, rfl⟩
  go_wp2_with fail
  refine (CF.out _).mono ?_
  rintro e w1 ⟨rfl, hb1⟩
  obtain ⟨c0, c1, f0, f1, hz⟩ := (At2.new w (.int .i64 0) (.int .i64 0) 67).keep hb1
  have HB := Lib.hid (bstep (below1 w _) hb1)
  clear hb1
  obtain ⟨t0, t1⟩ := set2 c0 c1 (.int .i64 u) (.int .i64 v)
  go_wp2_with fail
  refine bodyPost_ret (v := .tuple #[.agg #[.int .i64 u, .int .i64 v], .int .i64 z]) (by simp [results, Try.results64, go_sem, t0, t1]) rfl ⟨rfl, ?_⟩
  exact below_set2 HB.out (by omega) _ _

set_option maxHeartbeats 1000000 in
theorem product_pn (a b : Int) (w : World) (a1 : -9223372036854775808 ≤ a) (a2 : a ≤ 9223372036854775807) (b1 : -9223372036854775808 ≤ b) (b2 : b ≤ 9223372036854775807)
    (hb : a.natAbs * b.natAbs / 18446744073709551616 ≤ 72057594037927936) (s1 : 0 ≤ a) (s2 : b < 0) :
    Calls Try.prog 64 #[.int .i64 a, .int .i64 b] w fun e w' => e = .returned (.tuple #[.agg #[.int .i64 (fitH (a * b)), .int .i64 (fitL (a * b))], .int .i64 (fitE (a * b))]) ∧ Below w.heap.size w w' := by
  have CA := Lib.hid (fun (wx : World) => absolute_any a wx a1 a2)
  have CB := Lib.hid (fun (wx : World) => absolute_any b wx b1 b2)
  have CM := Lib.hid (fun (wx : World) => Try.bits_Mul64 a.natAbs b.natAbs (by omega) (by omega) wx)
  have hs := prod_sign a b
  obtain ⟨p, hp⟩ : ∃ p, p = a.natAbs := ⟨_, rfl⟩
  obtain ⟨q, hq⟩ : ∃ q, q = b.natAbs := ⟨_, rfl⟩
  rw [← hp] at CA CM hs
  rw [← hq] at CB CM hs
  rw [← hp, ← hq] at hb
  obtain ⟨P, hP⟩ : ∃ P, P = p * q := ⟨_, rfl⟩
  rw [← hP] at CM hs hb
  obtain ⟨n, hn⟩ : ∃ n, n = a * b := ⟨_, rfl⟩
  rw [← hn] at hs ⊢
  clear hp hq hP hn
  have HS := Lib.hid hs
  clear hs
  have hor := or_parts P hb
  obtain ⟨x, hx⟩ : ∃ x, x = (P : Int) / 1152921504606846976 := ⟨_, rfl⟩
  rw [← hx] at hor
  have m0 : (P : Int) / 18446744073709551616 ≤ 72057594037927936 := by omega
  have m1 : 0 ≤ x := by omega
  have m2 : x ≤ 1152921504606846992 := by omega
  have HX := Lib.hid hx
  clear hx
  have HS2 : Hid (n = -(P : Int)) := by
    have := HS.out
    first
    | (rw [if_neg (by simp only [ne_eq, Decidable.not_not]; exact propext ⟨fun _ => by omega, fun _ => by omega⟩)] at this; exact this)
    | (rw [if_pos (by intro e; have e' : a < 0 ↔ b < 0 := by rw [e]
                      omega)] at this; exact this)
  have CF : Hid (∀ wx, Calls Try.prog 73 #[.int .i64 (-x), .int .i64 (-((P : Int) % 1152921504606846976))] wx fun e w' => e = .returned (.tuple #[.agg #[.int .i64 (fitH n), .int .i64 (fitL n)], .int .i64 (fitE n)]) ∧ Below wx.heap.size wx w') := by
    intro wx
    have := fitted_any (-x) (-((P : Int) % 1152921504606846976)) wx (by omega) (by omega) (by omega) (by omega)
    rw [show wv (-x) (-((P : Int) % 1152921504606846976)) = n by rw [HS2.out, HX.out]; unfold wv; omega] at this
    exact this
  obtain ⟨u, hu⟩ : ∃ u, u = fitH n := ⟨_, rfl⟩
  obtain ⟨v, hv⟩ : ∃ v, v = fitL n := ⟨_, rfl⟩
  obtain ⟨z, hz⟩ : ∃ z, z = fitE n := ⟨_, rfl⟩
  rw [← hu, ← hv, ← hz] at CF ⊢
  have t1 : decide (a < 0) = false := by simp; omega
  have t2 : decide (b < 0) = true := by simp; omega
  clear hu hv hz HS HS2 HX hb
  go_enter Try.func64, Try.ntmps64
  go_wp2_with fail
  refine (CA.out _).mono ?_
  rintro e w' ⟨rfl, rfl⟩
  go_wp2_with fail
  refine (CB.out _).mono ?_
  rintro e w' ⟨rfl, rfl⟩
  go_wp2_with fail
  refine (CM.out _).mono ?_
  rintro e w' ⟨rfl, rfl⟩
  go_wp2_with fail
  refine (CF.out _).mono ?_
  rintro e w1 ⟨rfl, hb1⟩
  obtain ⟨c0, c1, f0, f1, hz⟩ := (At2.new w (.int .i64 0) (.int .i64 0) 67).keep hb1
  have HB := Lib.hid (bstep (below1 w _) hb1)
  clear hb1
  obtain ⟨t0, t1⟩ := set2 c0 c1 (.int .i64 u) (.int .i64 v)
  go_wp2_with fail
  refine bodyPost_ret (v := .tuple #[.agg #[.int .i64 u, .int .i64 v], .int .i64 z]) (by simp [results, Try.results64, go_sem, t0, t1]) rfl ⟨rfl, ?_⟩
  exact below_set2 HB.out (by omega) _ _

set_option maxHeartbeats 1000000 in
theorem product_pp (a b : Int) (w : World) (a1 : -9223372036854775808 ≤ a) (a2 : a ≤ 9223372036854775807) (b1 : -9223372036854775808 ≤ b) (b2 : b ≤ 9223372036854775807)
    (hb : a.natAbs * b.natAbs / 18446744073709551616 ≤ 72057594037927936) (s1 : 0 ≤ a) (s2 : 0 ≤ b) :
    Calls Try.prog 64 #[.int .i64 a, .int .i64 b] w fun e w' => e = .returned (.tuple #[.agg #[.int .i64 (fitH (a * b)), .int .i64 (fitL (a * b))], .int .i64 (fitE (a * b))]) ∧ Below w.heap.size w w' := by
  have CA := Lib.hid (fun (wx : World) => absolute_any a wx a1 a2)
  have CB := Lib.hid (fun (wx : World) => absolute_any b wx b1 b2)
  have CM := Lib.hid (fun (wx : World) => Try.bits_Mul64 a.natAbs b.natAbs (by omega) (by omega) wx)
  have hs := prod_sign a b
  obtain ⟨p, hp⟩ : ∃ p, p = a.natAbs := ⟨_, rfl⟩
  obtain ⟨q, hq⟩ : ∃ q, q = b.natAbs := ⟨_, rfl⟩
  rw [← hp] at CA CM hs
  rw [← hq] at CB CM hs
  rw [← hp, ← hq] at hb
  obtain ⟨P, hP⟩ : ∃ P, P = p * q := ⟨_, rfl⟩
  rw [← hP] at CM hs hb
  obtain ⟨n, hn⟩ : ∃ n, n = a * b := ⟨_, rfl⟩
  rw [← hn] at hs ⊢
  clear hp hq hP hn
  have HS := Lib.hid hs
  clear hs
  have hor := or_parts P hb
  obtain ⟨x, hx⟩ : ∃ x, x = (P : Int) / 1152921504606846976 := ⟨_, rfl⟩
  rw [← hx] at hor
  have m0 : (P : Int) / 18446744073709551616 ≤ 72057594037927936 := by omega
  have m1 : 0 ≤ x := by omega
  have m2 : x ≤ 1152921504606846992 := by omega
  have HX := Lib.hid hx
  clear hx
  have HS2 : Hid (n = (P : Int)) := by
    have := HS.out
    first
    | (rw [if_neg (by simp only [ne_eq, Decidable.not_not]; exact propext ⟨fun _ => by omega, fun _ => by omega⟩)] at this; exact this)
    | (rw [if_pos (by intro e; have e' : a < 0 ↔ b < 0 := by rw [e]
                      omega)] at this; exact this)
  have CF : Hid (∀ wx, Calls Try.prog 73 #[.int .i64 (x), .int .i64 (((P : Int) % 1152921504606846976))] wx fun e w' => e = .returned (.tuple #[.agg #[.int .i64 (fitH n), .int .i64 (fitL n)], .int .i64 (fitE n)]) ∧ Below wx.heap.size wx w') := by
    intro wx
    have := fitted_any (x) (((P : Int) % 1152921504606846976)) wx (by omega) (by omega) (by omega) (by omega)
    rw [show wv (x) (((P : Int) % 1152921504606846976)) = n by rw [HS2.out, HX.out]; unfold wv; omega] at this
    exact this
  obtain ⟨u, hu⟩ : ∃ u, u = fitH n := ⟨_, rfl⟩
  obtain ⟨v, hv⟩ : ∃ v, v = fitL n := ⟨_, rfl⟩
  obtain ⟨z, hz⟩ : ∃ z, z = fitE n := ⟨_, rfl⟩
  rw [← hu, ← hv, ← hz] at CF ⊢
  have t1 : decide (a < 0) = false := by simp; omega
  have t2 : decide (b < 0) = false := by simp; omega
  clear hu hv hz HS HS2 HX hb
  go_enter Try.func64, Try.ntmps64
  go_wp2_with fail
  refine (CA.out _).mono ?_
  rintro e w' ⟨rfl, rfl⟩
  go_wp2_with fail
  refine (CB.out _).mono ?_
  rintro e w' ⟨rfl, rfl⟩
  go_wp2_with fail
  refine (CM.out _).mono ?_
  rintro e w' ⟨rfl, rfl⟩
  go_wp2_with fail
  refine (CF.out _).mono ?_
  rintro e w1 ⟨rfl, hb1⟩
  obtain ⟨c0, c1, f0, f1, hz⟩ := (At2.new w (.int .i64 0) (.int .i64 0) 67).keep hb1
  have HB := Lib.hid (bstep (below1 w _) hb1)
  clear hb1
  obtain ⟨t0, t1⟩ := set2 c0 c1 (.int .i64 u) (.int .i64 v)
  go_wp2_with fail
  refine bodyPost_ret (v := .tuple #[.agg #[.int .i64 u, .int .i64 v], .int .i64 z]) (by simp [results, Try.results64, go_sem, t0, t1]) rfl ⟨rfl, ?_⟩
  exact below_set2 HB.out (by omega) _ _

theorem product_any (a b : Int) (w : World) (a1 : -9223372036854775808 ≤ a) (a2 : a ≤ 9223372036854775807) (b1 : -9223372036854775808 ≤ b) (b2 : b ≤ 9223372036854775807) :
    Calls Try.prog 64 #[.int .i64 a, .int .i64 b] w fun e w' => e = .returned (.tuple #[.agg #[.int .i64 (fitH (a * b)), .int .i64 (fitL (a * b))], .int .i64 (fitE (a * b))]) ∧ Below w.heap.size w w' := by
  by_cases hb : a.natAbs * b.natAbs / 18446744073709551616 ≤ 72057594037927936
  · by_cases s1 : a < 0 <;> by_cases s2 : b < 0
    · exact product_nn a b w a1 a2 b1 b2 hb s1 s2
    · exact product_np a b w a1 a2 b1 b2 hb s1 (by omega)
    · exact product_pn a b w a1 a2 b1 b2 hb (by omega) s2
    · exact product_pp a b w a1 a2 b1 b2 hb (by omega) (by omega)
  · exact product_big a b w a1 a2 b1 b2 hb
end Go.Proofs.Ytdkigfcglfgpoaa.wd
