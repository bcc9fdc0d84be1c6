/- fixed: contract of the program's quotients. -/
import Derived.Test.YtdkigfcglfgpoaaFrC
namespace Go.Proofs.Ytdkigfcglfgpoaa
open Go.RowKit
set_option linter.unusedVariables false

/-- the result of four quotients -/
structure QuR (x y e : Nat → Int) (lo hi : Nat → Int) (R : Fx) : Prop where
  l0 : lo 0 = 9223372036854775807
  h0 : hi 0 = -9223372036854775808
  ls : ∀ k, lo (k + 1) = min (lo k) (x k)
  hs : ∀ k, hi (k + 1) = max (hi k) (y k)
  bad : ∀ k, k < 4 → (∀ j, j < k → e j = 0) → e k ≠ 0 → R = ⟨0, 0, e k⟩
  good : (∀ j, j < 4 → e j = 0) → R = ⟨lo 4, hi 4, 0⟩

set_option maxHeartbeats 2000000 in
theorem pQuG (a b c d n : Int) (x y e lo hi : Nat → Int) (R : Fx) (w : World) (Q : QuR x y e lo hi R)
    (D0 : ∀ wx, Calls Try.prog 45 #[.int .i64 a, .int .i64 n, .int .i64 c] wx fun ee w' => ee = .returned (.tuple #[.int .i64 (x 0), .int .i64 (y 0), .int .i64 (e 0)]) ∧ Below wx.heap.size wx w')
    (D1 : ∀ wx, Calls Try.prog 45 #[.int .i64 a, .int .i64 n, .int .i64 d] wx fun ee w' => ee = .returned (.tuple #[.int .i64 (x 1), .int .i64 (y 1), .int .i64 (e 1)]) ∧ Below wx.heap.size wx w')
    (D2 : ∀ wx, Calls Try.prog 45 #[.int .i64 b, .int .i64 n, .int .i64 c] wx fun ee w' => ee = .returned (.tuple #[.int .i64 (x 2), .int .i64 (y 2), .int .i64 (e 2)]) ∧ Below wx.heap.size wx w')
    (D3 : ∀ wx, Calls Try.prog 45 #[.int .i64 b, .int .i64 n, .int .i64 d] wx fun ee w' => ee = .returned (.tuple #[.int .i64 (x 3), .int .i64 (y 3), .int .i64 (e 3)]) ∧ Below wx.heap.size wx w') :
    Calls Try.prog 53 #[.agg #[.int .i64 a, .int .i64 b], .agg #[.int .i64 c, .int .i64 d], .int .i64 n] w fun ee w' => ee = .returned (vS R) ∧ Below w.heap.size w w' := by
  obtain ⟨A, B⟩ := At2.two w (.int .i64 a) (.int .i64 b) (.int .i64 c) (.int .i64 d) 23 23
  obtain ⟨a0, a1, af0, af1, alt⟩ := A
  obtain ⟨b0, b1, bf0, bf1, blt⟩ := B
  have HB := Lib.hid (below2 w (.cells #[.int .i64 a, .int .i64 b] 23) (.cells #[.int .i64 c, .int .i64 d] 23))
  have D0 := Lib.hid D0
  have E0 := Lib.hid (fun (h : ∀ j, j < 0 → e j = 0) (h' : e 0 ≠ 0) => Q.bad 0 (by omega) h h')
  have L0 := Lib.hid (Q.ls 0)
  have H0 := Lib.hid (Q.hs 0)
  have D1 := Lib.hid D1
  have E1 := Lib.hid (fun (h : ∀ j, j < 1 → e j = 0) (h' : e 1 ≠ 0) => Q.bad 1 (by omega) h h')
  have L1 := Lib.hid (Q.ls 1)
  have H1 := Lib.hid (Q.hs 1)
  have D2 := Lib.hid D2
  have E2 := Lib.hid (fun (h : ∀ j, j < 2 → e j = 0) (h' : e 2 ≠ 0) => Q.bad 2 (by omega) h h')
  have L2 := Lib.hid (Q.ls 2)
  have H2 := Lib.hid (Q.hs 2)
  have D3 := Lib.hid D3
  have E3 := Lib.hid (fun (h : ∀ j, j < 3 → e j = 0) (h' : e 3 ≠ 0) => Q.bad 3 (by omega) h h')
  have L3 := Lib.hid (Q.ls 3)
  have H3 := Lib.hid (Q.hs 3)
  have EG := Lib.hid Q.good
  have l0 := Lib.hid Q.l0
  have h0 := Lib.hid Q.h0
  clear Q
  obtain ⟨x0, hx0⟩ : ∃ v, x 0 = v := ⟨_, rfl⟩
  obtain ⟨y0, hy0⟩ : ∃ v, y 0 = v := ⟨_, rfl⟩
  obtain ⟨e0, he0⟩ : ∃ v, e 0 = v := ⟨_, rfl⟩
  rw [hx0, hy0, he0] at D0
  rw [hx0] at L0
  rw [hy0] at H0
  have K0 := Lib.hid he0
  clear hx0 hy0 he0
  obtain ⟨x1, hx1⟩ : ∃ v, x 1 = v := ⟨_, rfl⟩
  obtain ⟨y1, hy1⟩ : ∃ v, y 1 = v := ⟨_, rfl⟩
  obtain ⟨e1, he1⟩ : ∃ v, e 1 = v := ⟨_, rfl⟩
  rw [hx1, hy1, he1] at D1
  rw [hx1] at L1
  rw [hy1] at H1
  have K1 := Lib.hid he1
  clear hx1 hy1 he1
  obtain ⟨x2, hx2⟩ : ∃ v, x 2 = v := ⟨_, rfl⟩
  obtain ⟨y2, hy2⟩ : ∃ v, y 2 = v := ⟨_, rfl⟩
  obtain ⟨e2, he2⟩ : ∃ v, e 2 = v := ⟨_, rfl⟩
  rw [hx2, hy2, he2] at D2
  rw [hx2] at L2
  rw [hy2] at H2
  have K2 := Lib.hid he2
  clear hx2 hy2 he2
  obtain ⟨x3, hx3⟩ : ∃ v, x 3 = v := ⟨_, rfl⟩
  obtain ⟨y3, hy3⟩ : ∃ v, y 3 = v := ⟨_, rfl⟩
  obtain ⟨e3, he3⟩ : ∃ v, e 3 = v := ⟨_, rfl⟩
  rw [hx3, hy3, he3] at D3
  rw [hx3] at L3
  rw [hy3] at H3
  have K3 := Lib.hid he3
  clear hx3 hy3 he3
  have i0 : ∀ wx : World, (Instr.index 75 (.agg #[.int .i64 a, .int .i64 c, .int .i64 a, .int .i64 d, .int .i64 b, .int .i64 c, .int .i64 b, .int .i64 d]) (.int .i64 0)).run Try.prog wx = .ok (.agg #[.int .i64 a, .int .i64 c]) wx := fun _ => by kernel_rfl
  have i1 : ∀ wx : World, (Instr.index 75 (.agg #[.int .i64 a, .int .i64 c, .int .i64 a, .int .i64 d, .int .i64 b, .int .i64 c, .int .i64 b, .int .i64 d]) (.int .i64 1)).run Try.prog wx = .ok (.agg #[.int .i64 a, .int .i64 d]) wx := fun _ => by kernel_rfl
  have i2 : ∀ wx : World, (Instr.index 75 (.agg #[.int .i64 a, .int .i64 c, .int .i64 a, .int .i64 d, .int .i64 b, .int .i64 c, .int .i64 b, .int .i64 d]) (.int .i64 2)).run Try.prog wx = .ok (.agg #[.int .i64 b, .int .i64 c]) wx := fun _ => by kernel_rfl
  have i3 : ∀ wx : World, (Instr.index 75 (.agg #[.int .i64 a, .int .i64 c, .int .i64 a, .int .i64 d, .int .i64 b, .int .i64 c, .int .i64 b, .int .i64 d]) (.int .i64 3)).run Try.prog wx = .ok (.agg #[.int .i64 b, .int .i64 d]) wx := fun _ => by kernel_rfl
  unfold vS
  go_enter Try.func53, Try.ntmps53
  go_wp2_with fail
  clear a0 a1 af0 af1 alt b0 b1 bf0 bf1 blt
  go_loopg [9, 10, 37] 4 (fun m v9 v10 v37 wr => ∃ j : Nat, m = 4 - j ∧ v37 = .int .i64 (j : Int) ∧ v9 = .int .i64 (lo j) ∧ v10 = .int .i64 (hi j) ∧ Hid (j ≤ 4) ∧ Hid (∀ i, i < j → e i = 0) ∧ Hid (Below w.heap.size w wr))
  case atStart => exact ⟨0, rfl, rfl, by rw [l0.out], by rw [h0.out], Nat.zero_le _, fun i hi => absurd hi (by omega), HB⟩
  case round =>
    obtain ⟨j, hm, rfl, rfl, rfl, HJ, HZ, HB⟩ := hrel
    have HM := Lib.hid hm
    clear hm
    by_cases hj : j < 4
    · rcases (show j = 0 ∨ j = 1 ∨ j = 2 ∨ j = 3 by omega) with rfl | rfl | rfl | rfl
      · clear hj
        obtain ⟨n0, n1, nf0, nf1, nlt⟩ := At2.new wr (.int .i64 a) (.int .i64 c) 74
        by_cases z : e0 = 0
        · subst z
          generalize hu : lo 0 = u at *
          have hu := Lib.hid hu
          generalize hv : hi 0 = v at *
          have hv := Lib.hid hv
          go_wp2_with fail
          refine (D0.out _).mono ?_
          rintro ee w1 ⟨rfl, hb⟩
          have HB := Lib.hid (HB.out.trans (alloc_below hb |>.mono HB.out.size))
          clear hb n0 n1 nf0 nf1 nlt
          go_wp2_with fail
          go_roundg 3
          case measure => have := HM.out; omega
          case rel => exact ⟨1, rfl, by go_num, by rw [L0.out], by rw [H0.out], by show _ ≤ _; omega, fun i hi => (by
            by_cases hik : i < 0
            · exact HZ.out i hik
            · obtain rfl : i = 0 := by omega
              exact K0.out), HB⟩
        · have t0 : (e0 != 0) = true := by simp [z]
          have ER := Lib.hid (E0.out HZ.out (by rw [K0.out]; exact z))
          clear z
          go_wp2_with fail
          refine (D0.out _).mono ?_
          rintro ee w1 ⟨rfl, hb⟩
          have HB := Lib.hid (HB.out.trans (alloc_below hb |>.mono HB.out.size))
          clear hb n0 n1 nf0 nf1 nlt
          go_wp2_with fail
          refine bodyPost_ret (v := .tuple #[.int .i64 0, .int .i64 0, .int .i64 e0]) (by simp [results, Try.results53, go_sem]) rfl ⟨by rw [ER.out, K0.out], HB.out⟩
      · clear hj
        obtain ⟨n0, n1, nf0, nf1, nlt⟩ := At2.new wr (.int .i64 a) (.int .i64 d) 74
        by_cases z : e1 = 0
        · subst z
          generalize hu : lo 1 = u at *
          have hu := Lib.hid hu
          generalize hv : hi 1 = v at *
          have hv := Lib.hid hv
          go_wp2_with fail
          refine (D1.out _).mono ?_
          rintro ee w1 ⟨rfl, hb⟩
          have HB := Lib.hid (HB.out.trans (alloc_below hb |>.mono HB.out.size))
          clear hb n0 n1 nf0 nf1 nlt
          go_wp2_with fail
          go_roundg 2
          case measure => have := HM.out; omega
          case rel => exact ⟨2, rfl, by go_num, by rw [L1.out], by rw [H1.out], by show _ ≤ _; omega, fun i hi => (by
            by_cases hik : i < 1
            · exact HZ.out i hik
            · obtain rfl : i = 1 := by omega
              exact K1.out), HB⟩
        · have t0 : (e1 != 0) = true := by simp [z]
          have ER := Lib.hid (E1.out HZ.out (by rw [K1.out]; exact z))
          clear z
          go_wp2_with fail
          refine (D1.out _).mono ?_
          rintro ee w1 ⟨rfl, hb⟩
          have HB := Lib.hid (HB.out.trans (alloc_below hb |>.mono HB.out.size))
          clear hb n0 n1 nf0 nf1 nlt
          go_wp2_with fail
          refine bodyPost_ret (v := .tuple #[.int .i64 0, .int .i64 0, .int .i64 e1]) (by simp [results, Try.results53, go_sem]) rfl ⟨by rw [ER.out, K1.out], HB.out⟩
      · clear hj
        obtain ⟨n0, n1, nf0, nf1, nlt⟩ := At2.new wr (.int .i64 b) (.int .i64 c) 74
        by_cases z : e2 = 0
        · subst z
          generalize hu : lo 2 = u at *
          have hu := Lib.hid hu
          generalize hv : hi 2 = v at *
          have hv := Lib.hid hv
          go_wp2_with fail
          refine (D2.out _).mono ?_
          rintro ee w1 ⟨rfl, hb⟩
          have HB := Lib.hid (HB.out.trans (alloc_below hb |>.mono HB.out.size))
          clear hb n0 n1 nf0 nf1 nlt
          go_wp2_with fail
          go_roundg 1
          case measure => have := HM.out; omega
          case rel => exact ⟨3, rfl, by go_num, by rw [L2.out], by rw [H2.out], by show _ ≤ _; omega, fun i hi => (by
            by_cases hik : i < 2
            · exact HZ.out i hik
            · obtain rfl : i = 2 := by omega
              exact K2.out), HB⟩
        · have t0 : (e2 != 0) = true := by simp [z]
          have ER := Lib.hid (E2.out HZ.out (by rw [K2.out]; exact z))
          clear z
          go_wp2_with fail
          refine (D2.out _).mono ?_
          rintro ee w1 ⟨rfl, hb⟩
          have HB := Lib.hid (HB.out.trans (alloc_below hb |>.mono HB.out.size))
          clear hb n0 n1 nf0 nf1 nlt
          go_wp2_with fail
          refine bodyPost_ret (v := .tuple #[.int .i64 0, .int .i64 0, .int .i64 e2]) (by simp [results, Try.results53, go_sem]) rfl ⟨by rw [ER.out, K2.out], HB.out⟩
      · clear hj
        obtain ⟨n0, n1, nf0, nf1, nlt⟩ := At2.new wr (.int .i64 b) (.int .i64 d) 74
        by_cases z : e3 = 0
        · subst z
          generalize hu : lo 3 = u at *
          have hu := Lib.hid hu
          generalize hv : hi 3 = v at *
          have hv := Lib.hid hv
          go_wp2_with fail
          refine (D3.out _).mono ?_
          rintro ee w1 ⟨rfl, hb⟩
          have HB := Lib.hid (HB.out.trans (alloc_below hb |>.mono HB.out.size))
          clear hb n0 n1 nf0 nf1 nlt
          go_wp2_with fail
          go_roundg 0
          case measure => have := HM.out; omega
          case rel => exact ⟨4, rfl, by go_num, by rw [L3.out], by rw [H3.out], by show _ ≤ _; omega, fun i hi => (by
            by_cases hik : i < 3
            · exact HZ.out i hik
            · obtain rfl : i = 3 := by omega
              exact K3.out), HB⟩
        · have t0 : (e3 != 0) = true := by simp [z]
          have ER := Lib.hid (E3.out HZ.out (by rw [K3.out]; exact z))
          clear z
          go_wp2_with fail
          refine (D3.out _).mono ?_
          rintro ee w1 ⟨rfl, hb⟩
          have HB := Lib.hid (HB.out.trans (alloc_below hb |>.mono HB.out.size))
          clear hb n0 n1 nf0 nf1 nlt
          go_wp2_with fail
          refine bodyPost_ret (v := .tuple #[.int .i64 0, .int .i64 0, .int .i64 e3]) (by simp [results, Try.results53, go_sem]) rfl ⟨by rw [ER.out, K3.out], HB.out⟩
    · obtain rfl : j = 4 := by have := HJ.out; omega
      clear hj
      have ER := Lib.hid (EG.out HZ.out)
      generalize lo 4 = u at *
      generalize hi 4 = v at *
      go_wp2_with fail
      refine bodyPost_ret (v := .tuple #[.int .i64 u, .int .i64 v, .int .i64 0]) (by simp [results, Try.results53, go_sem]) rfl ⟨by rw [ER.out], HB.out⟩
end Go.Proofs.Ytdkigfcglfgpoaa
