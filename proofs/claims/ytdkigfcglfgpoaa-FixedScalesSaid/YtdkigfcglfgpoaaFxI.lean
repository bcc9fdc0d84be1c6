/- Fixed: contracts of the reference's corners, Scale, Quotient. -/
import Derived.Test.YtdkigfcglfgpoaaFxH
namespace Go.Proofs.Ytdkigfcglfgpoaa
open Go.RowKit
set_option linter.unusedVariables false

theorem Small.up {x n c y : Int} (h : Small x n c) (k : c ≤ y) : Small x n y := by unfold Small at *; omega
theorem Small.neg {x n y : Int} (h : Small x n y) : Small x (-n) y := by
  unfold Small at *
  rw [Int.neg_tdiv, Int.mul_neg]; omega
theorem times_bound (x n y : Int) (h1 : -2147483648 ≤ x) (h2 : x ≤ 2147483648) (hn : reach n = true) (hy : 0 < y) (hs : Small x n y) : -18014398509481984 ≤ x * n / y ∧ x * n / y ≤ 18014398509481984 := by
  obtain ⟨e0, l1, l2, g1, g2, e1⟩ := split20 n hn
  unfold Small at hs
  obtain ⟨lo, hlo⟩ : ∃ lo, n.tmod 1048576 = lo := ⟨_, rfl⟩
  obtain ⟨hi, hhi⟩ : ∃ hi, n.tdiv 1048576 = hi := ⟨_, rfl⟩
  rw [hlo] at e0 e1 l1 l2
  rw [hhi] at e0 e1 g1 g2 hs
  obtain ⟨p, hp⟩ : ∃ p, x * hi = p := ⟨_, rfl⟩
  rw [hp] at hs
  have qb : -8388608 ≤ p / y ∧ p / y ≤ 8388608 := by
    constructor
    · rw [le_fl hy]; omega
    · have : p / y < 8388608 + 1 := by rw [fl_lt hy]; omega
      omega
  obtain ⟨q, hq⟩ : ∃ q, p / y = q := ⟨_, rfl⟩
  obtain ⟨r, hr⟩ : ∃ r, p - q * y = r := ⟨_, rfl⟩
  obtain ⟨T1, r1, r2⟩ := times_eq x n y hi lo p q r hy e0 hp.symm hq.symm hr.symm
  have vb := mul_abs (a := x) (b := lo) (A := 2147483648) (B := 1048576) (by omega) (by omega) (by omega) (by omega)
  rw [T1]
  have r3 := le_fl (L := -2147483648 * 1048576) (x := r * 1048576 + x * lo) hy
  have pb := mul_abs (a := x) (b := hi) (A := 2147483648) (B := 1048576) (by omega) (by omega) (by omega) (by omega)
  have k1 : -(2147483648 * 1048576) ≤ (r * 1048576 + x * lo) / y := by
    rw [le_fl hy]
    have := mul_ge_l (a := 1) (b := y) (c := -(2147483648 * 1048576)) (by omega) (by omega); omega
  have k2 : (r * 1048576 + x * lo) / y < 2147483648 * 1048576 + 1048576 + 1 := by
    rw [fl_lt hy, Int.add_mul, Int.add_mul]
    have := mul_le_l (a := 1) (b := y) (c := 2147483648 * 1048576) (by omega) (by omega)
    omega
  omega
theorem hiQ_neg (a b c d n : Int) : hiQ a b c d n = -(min4 (a * (-n) / c) (a * (-n) / d) (b * (-n) / c) (b * (-n) / d)) := by
  unfold hiQ cdiv min4 max4
  rw [Int.mul_neg, Int.mul_neg]
  omega
set_option maxHeartbeats 4000000 in
theorem rCorners (a b c d n : Int) (w : World) (h : fok a b = true) (hc : 0 < c) (hd : c ≤ d) (hd2 : d ≤ 2147483648) (hn : reach n = true) (s1 : Small a n c) (s2 : Small b n c) :
    Calls Try.prog 62 #[.agg #[.int .i64 a, .int .i64 b], .agg #[.int .i64 c, .int .i64 d], .int .i64 n] w fun e w' => e = .returned (.tuple #[.int .i64 (loQ a b c d n), .int .i64 (hiQ a b c d n)]) ∧ Below w.heap.size w w' := by
  obtain ⟨A, B⟩ := At2.two w (.int .i64 a) (.int .i64 b) (.int .i64 c) (.int .i64 d) 23 23
  have HB := Lib.hid (below2 w (.cells #[.int .i64 a, .int .i64 b] 23) (.cells #[.int .i64 c, .int .i64 d] 23))
  have p := (fok_iff _ _).1 h
  have nb := (reach_iff _).1 hn
  have hm := reach_neg hn
  rw [hiQ_neg]
  unfold loQ
  have T1 := Lib.hid (fun wx => rTimes a n c wx (by omega) (by omega) hn hc (by omega) s1)
  have T2 := Lib.hid (fun wx => rTimes a n d wx (by omega) (by omega) hn (by omega) (by omega) (s1.up hd))
  have T3 := Lib.hid (fun wx => rTimes b n c wx (by omega) (by omega) hn hc (by omega) s2)
  have T4 := Lib.hid (fun wx => rTimes b n d wx (by omega) (by omega) hn (by omega) (by omega) (s2.up hd))
  have U1 := Lib.hid (fun wx => rTimes a (-n) c wx (by omega) (by omega) hm hc (by omega) s1.neg)
  have U2 := Lib.hid (fun wx => rTimes a (-n) d wx (by omega) (by omega) hm (by omega) (by omega) (s1.up hd).neg)
  have U3 := Lib.hid (fun wx => rTimes b (-n) c wx (by omega) (by omega) hm hc (by omega) s2.neg)
  have U4 := Lib.hid (fun wx => rTimes b (-n) d wx (by omega) (by omega) hm (by omega) (by omega) (s2.up hd).neg)
  have b1 := times_bound a (-n) c (by omega) (by omega) hm hc s1.neg
  have b2 := times_bound a (-n) d (by omega) (by omega) hm (by omega) (s1.up hd).neg
  have b3 := times_bound b (-n) c (by omega) (by omega) hm hc s2.neg
  have b4 := times_bound b (-n) d (by omega) (by omega) hm (by omega) (s2.up hd).neg
  obtain ⟨m, hmn⟩ : ∃ m, -n = m := ⟨_, rfl⟩
  rw [hmn] at U1 U2 U3 U4 b1 b2 b3 b4 ⊢
  have wn : wrap64 (-n) = m := w64_is hmn (by omega) (by omega)
  clear hmn nb p hm h hc hd hd2 hn s1 s2
  generalize a * n / c = x1 at *
  generalize a * n / d = x2 at *
  generalize b * n / c = x3 at *
  generalize b * n / d = x4 at *
  generalize a * m / c = y1 at *
  generalize a * m / d = y2 at *
  generalize b * m / c = y3 at *
  generalize b * m / d = y4 at *
  have L1 := Lib.hid (fun wx => rLe x1 x2 wx)
  have L2 := Lib.hid (fun wx => rLe x3 x4 wx)
  have L3 := Lib.hid (fun wx => rLe (min x1 x2) (min x3 x4) wx)
  have M1 := Lib.hid (fun wx => rLe y1 y2 wx)
  have M2 := Lib.hid (fun wx => rLe y3 y4 wx)
  have M3 := Lib.hid (fun wx => rLe (min y1 y2) (min y3 y4) wx)
  unfold min4 at *
  have bz : -18014398509481984 ≤ min (min y1 y2) (min y3 y4) ∧ min (min y1 y2) (min y3 y4) ≤ 18014398509481984 := by omega
  clear b1 b2 b3 b4
  generalize min (min x1 x2) (min x3 x4) = f at *
  generalize min x1 x2 = f1 at *
  generalize min x3 x4 = f2 at *
  generalize min (min y1 y2) (min y3 y4) = g at *
  generalize min y1 y2 = g1 at *
  generalize min y3 y4 = g2 at *
  obtain ⟨bz1, bz2⟩ := bz
  obtain ⟨a0, a1, af0, af1, alt⟩ := id A
  obtain ⟨b0, b1, bf0, bf1, blt⟩ := id B
  go_enter Try.func62, Try.ntmps62
  go_wp2_with fail
  generalize (w.alloc (.cells #[.int .i64 a, .int .i64 b] 23)).alloc (.cells #[.int .i64 c, .int .i64 d] 23) = W at *
  go_quiet (first
    | (go_at_call 70; first | (with_reducible refine Calls.quiet_of_same (T1.out _)) | (with_reducible refine Calls.quiet_of_same (T2.out _)) | (with_reducible refine Calls.quiet_of_same (T3.out _)) | (with_reducible refine Calls.quiet_of_same (T4.out _)))
    | (go_at_call 50; first | (with_reducible refine Calls.quiet_of_same (L1.out _)) | (with_reducible refine Calls.quiet_of_same (L2.out _)) | (with_reducible refine Calls.quiet_of_same (L3.out _))))
  have A := A.keep (below_drewN W.heap.size W nq)
  have B := B.keep (below_drewN W.heap.size W nq)
  have HW := Lib.hid (HB.out.trans (below_drewN w.heap.size W nq))
  clear a0 a1 af0 af1 alt b0 b1 bf0 bf1 blt
  generalize W.drewN nq = V at *
  obtain ⟨a0, a1, af0, af1, alt⟩ := id A
  obtain ⟨b0, b1, bf0, bf1, blt⟩ := id B
  go_wp2_with fail
  go_quiet (first
    | (go_at_call 70; first | (with_reducible refine Calls.quiet_of_same (U1.out _)) | (with_reducible refine Calls.quiet_of_same (U2.out _)) | (with_reducible refine Calls.quiet_of_same (U3.out _)) | (with_reducible refine Calls.quiet_of_same (U4.out _)))
    | (go_at_call 50; first | (with_reducible refine Calls.quiet_of_same (M1.out _)) | (with_reducible refine Calls.quiet_of_same (M2.out _)) | (with_reducible refine Calls.quiet_of_same (M3.out _))))
  go_wp2_with fail
  go_ret2
  exact ⟨rfl, HW.out.trans (below_drewN _ _ _)⟩
end Go.Proofs.Ytdkigfcglfgpoaa
