/- WideFloors: the cases together. -/
import Derived.Test.YtpneahdbiikonaaFlo
namespace Go.Proofs.Ytpneahdbiikonaa
open Go.RowKit
set_option linter.unusedVariables false

theorem ceil_floor (v b : Int) (hb : 1 ≤ b) : (v = v / b * b ∧ -((-v) / b) = v / b) ∨ (v / b * b < v ∧ -((-v) / b) = v / b + 1) := by
  have h := Int.mul_ediv_add_emod v b
  have h0 := Int.emod_nonneg v (show b ≠ 0 by omega)
  have h1 := Int.emod_lt_of_pos v (show 0 < b by omega)
  rw [Int.mul_comm] at h
  by_cases hz : v % b = 0
  · left
    refine ⟨by omega, ?_⟩
    have : (-v) / b = -(v / b) := by
      rw [Int.ediv_eq_iff_of_pos (by omega), Int.neg_mul]
      omega
    omega
  · right
    refine ⟨by omega, ?_⟩
    have : (-v) / b = -(v / b) - 1 := by
      rw [Int.ediv_eq_iff_of_pos (by omega), Int.sub_mul, Int.neg_mul]
      omega
    omega

theorem sgn_le {a : Int} (h : a ≤ 0) : sgn a ≤ 0 := by unfold sgn; split; omega; rw [if_neg (by omega)]; omega
theorem sgn_lt {a : Int} (h : a < 0) : sgn a = -1 := by unfold sgn; rw [if_pos h]

set_option maxHeartbeats 1000000 in
theorem flo_any (h l b : Int) (w : World) (l1 : -9223372036854775808 ≤ b) (l2 : b ≤ 9223372036854775807) :
    Calls Try.prog 10 #[.agg #[.int .i64 h, .int .i64 l], .int .i64 b] w fun e w' => e = .returned (.bool true) ∧ Below w.heap.size w w' := by
  cases hk : wok h l
  · exact flo_bad h l b w hk
  by_cases b1 : b < 1
  · exact flo_lo h l b w hk b1
  by_cases b2 : 1125899906842624 < b
  · exact flo_hi h l b w hk b2 (by omega)
  have hb : b ≠ 0 := by omega
  have q1 : qt (wv h l) b true = wv h l / b := by unfold qt qdn; rw [if_pos rfl, if_pos (by omega)]
  have q2 : qt (wv h l) b false = -((-wv h l) / b) := by unfold qt qup qdn; rw [if_neg (by simp), if_pos (by omega)]
  have Q : FlQ h l b (qV (wv h l / b)) (qE (wv h l / b)) (qV (-((-wv h l) / b))) (qE (-((-wv h l) / b))) := by
    refine ⟨fun wx => valid_is h l true hk wx, fun wx => ?_, fun wx => ?_⟩
    · have := floor_any h l b wx l1 l2
      rw [show rqV h l b true = qV (wv h l / b) by unfold rqV; rw [if_pos ⟨hk, hb⟩, q1], show rqE h l b true = qE (wv h l / b) by unfold rqE; rw [if_pos hk, if_neg hb, q1]] at this
      exact this
    · have := ceil_any h l b wx l1 l2
      rw [show rqV h l b false = qV (-((-wv h l) / b)) by unfold rqV; rw [if_pos ⟨hk, hb⟩, q2], show rqE h l b false = qE (-((-wv h l) / b)) by unfold rqE; rw [if_pos hk, if_neg hb, q2]] at this
      exact this
  have hcf := ceil_floor (wv h l) b (by omega)
  have hdm := Int.mul_ediv_add_emod (wv h l) b
  have hd0 := Int.emod_nonneg (wv h l) hb
  have hd1 := Int.emod_lt_of_pos (wv h l) (show 0 < b by omega)
  have hvl : -1329227995784915872903807060280344576 ≤ wv h l := by rw [wok_iff] at hk; unfold wv; omega
  have hvg : wv h l < 1329227995784915872903807060280344576 := by rw [wok_iff] at hk; unfold wv; omega
  obtain ⟨v, hv⟩ : ∃ v, v = wv h l := ⟨_, rfl⟩
  rw [← hv] at Q hcf hdm hd0 hd1 hvl hvg
  obtain ⟨n, hn⟩ : ∃ n, n = v / b := ⟨_, rfl⟩
  obtain ⟨m, hm⟩ : ∃ m, m = -((-v) / b) := ⟨_, rfl⟩
  rw [← hn] at Q hcf hdm
  rw [← hm] at Q hcf
  have v1 : ∀ x, isI x = true → qV x = x ∧ qE x = 0 := fun x hx => ⟨by unfold qV; rw [if_pos hx], by unfold qE; rw [if_pos hx]⟩
  have v0 : ∀ x, isI x = false → qV x = 0 ∧ qE x = 5 := fun x hx => ⟨by unfold qV; rw [hx]; rfl, by unfold qE; rw [hx]; rfl⟩
  cases hni : isI n
  · rw [(v0 n hni).1, (v0 n hni).2] at Q
    cases hmi : isI m
    · rw [(v0 m hmi).1, (v0 m hmi).2] at Q
      exact flo_ff h l b w (by omega) (by omega) Q
    · rw [(v1 m hmi).1, (v1 m hmi).2] at Q
      exact flo_ft h l b m w (by omega) (by omega) Q
  rw [(v1 n hni).1, (v1 n hni).2] at Q
  cases hmi : isI m
  · rw [(v0 m hmi).1, (v0 m hmi).2] at Q
    exact flo_tf h l b n w (by omega) (by omega) Q
  rw [(v1 m hmi).1, (v1 m hmi).2] at Q
  have hni' := (isI_iff n).1 hni
  have hmi' := (isI_iff m).1 hmi
  have hbn : b * (-9223372036854775808) ≤ b * n := Int.mul_le_mul_of_nonneg_left hni'.1 (by omega)
  have hfo : wfit (-v) = true := by rw [wfit_iff]; unfold wh; omega
  have hok : wok (wh (-v)) (wl (-v)) = true := by rw [wok_parts]; exact hfo
  have CS : ∀ wx, Calls Try.prog 22 #[.agg #[.int .i64 0, .int .i64 0], .agg #[.int .i64 h, .int .i64 l]] wx fun x w' => x = .returned (.tuple #[.agg #[.int .i64 (wh (-v)), .int .i64 (wl (-v))], .int .i64 0]) ∧ Below wx.heap.size wx w' := by
    intro wx
    have := sub_ok 0 0 h l wx (by decide) hk
    rw [← hv, show wv 0 0 - v = -v by unfold wv; omega, show fitH (-v) = wh (-v) by unfold fitH; rw [if_pos hfo], show fitL (-v) = wl (-v) by unfold fitL; rw [if_pos hfo], show fitE (-v) = 0 by unfold fitE; rw [if_pos hfo]] at this
    exact this
  have CF : ∀ wx, Calls Try.prog 29 #[.agg #[.int .i64 (wh (-v)), .int .i64 (wl (-v))], .int .i64 b] wx fun x w' => x = .returned (.tuple #[.int .i64 (qV (-m)), .int .i64 (qE (-m))]) ∧ Below wx.heap.size wx w' := by
    intro wx
    have := floor_any (wh (-v)) (wl (-v)) b wx l1 l2
    have q3 : qt (wv (wh (-v)) (wl (-v))) b true = -m := by rw [wv_parts]; unfold qt qdn; rw [if_pos rfl, if_pos (by omega), hm]; omega
    rw [show rqV (wh (-v)) (wl (-v)) b true = qV (-m) by unfold rqV; rw [if_pos ⟨hok, hb⟩, q3], show rqE (wh (-v)) (wl (-v)) b true = qE (-m) by unfold rqE; rw [if_pos hok, if_neg hb, q3]] at this
    exact this
  by_cases f1 : n ≤ -4611686018427387904
  · exact flo_far h l b n m _ _ _ _ w (by omega) (by omega) Q ⟨CS, CF⟩ f1
  have hki : isI (-m) = true := by rw [isI_iff]; omega
  rw [(v1 _ hki).1, (v1 _ hki).2] at CF
  have hkm : (- -m != m) = false := by simp
  by_cases f2 : n < -1152921504606846976
  · exact flo_lo2 h l b n m _ _ _ w (by omega) (by omega) Q ⟨CS, CF⟩ (by omega) f2 (by omega) (by omega) hkm
  by_cases f3 : 1152921504606846976 < n
  · exact flo_hi2 h l b n m _ _ _ w (by omega) (by omega) Q ⟨CS, CF⟩ (by omega) f3 (by omega) (by omega) hkm
  have hnat : (n * b).natAbs ≤ 1152921504606846976 * 1125899906842624 := by
    rw [Int.natAbs_mul]; exact Nat.mul_le_mul (by omega) (by omega)
  have hnat2 : ((n + 1) * b).natAbs ≤ 1152921504606846977 * 1125899906842624 := by
    rw [Int.natAbs_mul]; exact Nat.mul_le_mul (by omega) (by omega)
  have g1 := fit_small (n * b) (by omega)
  have g2 := fit_small ((n + 1) * b) (by omega)
  have k1 : wok (wh (n * b)) (wl (n * b)) = true := by rw [wok_parts]; exact g1
  have k2 : wok (wh ((n + 1) * b)) (wl ((n + 1) * b)) = true := by rw [wok_parts]; exact g2
  have eb : (n + 1) * b = n * b + b := by rw [Int.add_mul, Int.one_mul]
  have eb2 : b * n = n * b := Int.mul_comm b n
  have cd : sgn (v - (n + 1) * b) = -1 := sgn_lt (by omega)
  have M : FlM h l b n (wh (n * b)) (wl (n * b)) (wh ((n + 1) * b)) (wl ((n + 1) * b)) (sgn (n * b - v)) (-1) := by
    refine ⟨fun wx => product_fit n b wx (by omega) (by omega) l1 l2 g1, fun wx => product_fit (n + 1) b wx (by omega) (by omega) l1 l2 g2, fun wx => ?_, fun wx => ?_⟩
    · have := cmp_ok (wh (n * b)) (wl (n * b)) h l wx k1 hk
      rw [wcmp_sgn _ _ _ _ k1 hk, wv_parts, ← hv] at this
      exact this
    · have := cmp_ok h l (wh ((n + 1) * b)) (wl ((n + 1) * b)) wx hk k2
      rw [wcmp_sgn _ _ _ _ hk k2, wv_parts, ← hv, cd] at this
      exact this
  rcases hcf with ⟨z1, z2⟩ | ⟨z1, z2⟩
  · rw [show sgn (n * b - v) = 0 by unfold sgn; rw [if_neg (by omega), if_neg (by omega)]] at M
    rw [z2] at Q CF hkm
    exact flo_eq h l b n _ _ _ _ _ _ _ _ w (by omega) (by omega) Q ⟨CS, CF⟩ (by omega) (by omega) (by omega) (by omega) hkm M (by omega)
  · rw [sgn_lt (show n * b - v < 0 by omega)] at M
    rw [z2] at Q CF hkm
    exact flo_ne h l b n _ _ _ _ _ _ _ _ w (by omega) (by omega) Q ⟨CS, CF⟩ (by omega) (by omega) (by omega) (by omega) hkm (by rw [beq_eq_false_iff_ne]; omega) M (by omega)
end Go.Proofs.Ytpneahdbiikonaa
