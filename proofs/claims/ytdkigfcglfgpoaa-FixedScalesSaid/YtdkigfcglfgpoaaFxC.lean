/- Fixed: contracts of the reference's Inside, Mul, Square. -/
import Derived.Test.YtdkigfcglfgpoaaFxB
namespace Go.Proofs.Ytdkigfcglfgpoaa
open Go.RowKit
set_option linter.unusedVariables false

theorem w64_is {x y : Int} (h : x = y) (h1 : -9223372036854775808 ≤ y) (h2 : y ≤ 9223372036854775807) : wrap64 x = y := by rw [h, IntWalk.wrap64_in _ ⟨h1, h2⟩]
theorem i64_is {x : Int} (h1 : -9223372036854775808 ≤ x) (h2 : x ≤ 9223372036854775807) : IntKind.i64.wrap x = x := by rw [IntKind.wrap_i64]; omega

set_option maxHeartbeats 1000000 in
theorem rInside (a b c d : Int) (w : World) :
    Calls Try.prog 18 #[.agg #[.int .i64 a, .int .i64 b], .agg #[.int .i64 c, .int .i64 d]] w fun e w' => e = .returned (.bool (insideR a b c d)) ∧ Below w.heap.size w w' := by
  obtain ⟨A, B⟩ := At2.two w (.int .i64 a) (.int .i64 b) (.int .i64 c) (.int .i64 d) 23 23
  have C1 := Lib.hid (fun wx => rValid a b wx)
  have C2 := Lib.hid (fun wx => rValid c d wx)
  obtain ⟨r, hr⟩ : ∃ r, r = insideR a b c d := ⟨_, rfl⟩
  rw [← hr]
  unfold insideR at hr
  generalize fok a b = va at *
  generalize fok c d = vc at *
  obtain ⟨a0, a1, af0, af1, alt⟩ := id A
  cases va
  · obtain rfl : r = false := by rw [hr]; rfl
    clear hr
    go_enter Try.func18, Try.ntmps18
    go_wp2_with fail
    refine (C1.out _).mono ?_
    rintro e w1 ⟨rfl, hb⟩
    have HB := Lib.hid (bel2 hb)
    clear hb
    go_wp2_with fail
    go_ret
    exact ⟨rfl, HB.out⟩
  · cases vc
    · obtain rfl : r = false := by rw [hr]; rfl
      clear hr
      go_enter Try.func18, Try.ntmps18
      go_wp2_with fail
      refine (C1.out _).mono ?_
      rintro e w1 ⟨rfl, hb⟩
      obtain ⟨b0, b1, bf0, bf1, blt⟩ := B.keep hb
      have HB := Lib.hid (bel2 hb)
      clear hb
      go_wp2_with fail
      refine (C2.out _).mono ?_
      rintro e w2 ⟨rfl, hb⟩
      have HB := Lib.hid (bstep HB.out hb)
      clear hb
      go_wp2_with fail
      go_ret
      exact ⟨rfl, HB.out⟩
    · by_cases k1 : c ≤ a
      · by_cases k2 : b ≤ d
        · obtain rfl : r = true := by rw [hr]; simp [k1, k2]
          clear hr
          go_enter Try.func18, Try.ntmps18
          go_wp2_with fail
          refine (C1.out _).mono ?_
          rintro e w1 ⟨rfl, hb⟩
          have A := A.keep hb
          have B := B.keep hb
          obtain ⟨b0, b1, bf0, bf1, blt⟩ := id B
          have HB := Lib.hid (bel2 hb)
          clear hb a0 a1 af0 af1 alt
          go_wp2_with fail
          refine (C2.out _).mono ?_
          rintro e w2 ⟨rfl, hb⟩
          obtain ⟨a0, a1, af0, af1, alt⟩ := A.keep hb
          clear b0 b1 bf0 bf1 blt
          obtain ⟨b0, b1, bf0, bf1, blt⟩ := B.keep hb
          have HB := Lib.hid (bstep HB.out hb)
          clear hb
          go_wp2_with fail
          go_ret
          exact ⟨rfl, HB.out⟩
        · obtain rfl : r = false := by rw [hr]; simp [k1, k2]
          have t2 : decide (b ≤ d) = false := decide_eq_false k2
          clear hr
          go_enter Try.func18, Try.ntmps18
          go_wp2_with fail
          refine (C1.out _).mono ?_
          rintro e w1 ⟨rfl, hb⟩
          have A := A.keep hb
          have B := B.keep hb
          obtain ⟨b0, b1, bf0, bf1, blt⟩ := id B
          have HB := Lib.hid (bel2 hb)
          clear hb a0 a1 af0 af1 alt
          go_wp2_with fail
          refine (C2.out _).mono ?_
          rintro e w2 ⟨rfl, hb⟩
          obtain ⟨a0, a1, af0, af1, alt⟩ := A.keep hb
          clear b0 b1 bf0 bf1 blt
          obtain ⟨b0, b1, bf0, bf1, blt⟩ := B.keep hb
          have HB := Lib.hid (bstep HB.out hb)
          clear hb
          go_wp2_with fail
          go_ret
          exact ⟨rfl, HB.out⟩
      · obtain rfl : r = false := by rw [hr]; simp [k1]
        clear hr
        go_enter Try.func18, Try.ntmps18
        go_wp2_with fail
        refine (C1.out _).mono ?_
        rintro e w1 ⟨rfl, hb⟩
        have A := A.keep hb
        have B := B.keep hb
        obtain ⟨b0, b1, bf0, bf1, blt⟩ := id B
        have HB := Lib.hid (bel2 hb)
        clear hb a0 a1 af0 af1 alt
        go_wp2_with fail
        refine (C2.out _).mono ?_
        rintro e w2 ⟨rfl, hb⟩
        obtain ⟨a0, a1, af0, af1, alt⟩ := A.keep hb
        clear b0 b1 bf0 bf1 blt
        obtain ⟨b0, b1, bf0, bf1, blt⟩ := B.keep hb
        have HB := Lib.hid (bstep HB.out hb)
        clear hb
        go_wp2_with fail
        go_ret
        exact ⟨rfl, HB.out⟩

/-- the products of two intervals fit -/
theorem prod_fit {a b c d x y : Int} (h : fok a b = true) (k : fok c d = true) (h1 : a ≤ x) (h2 : x ≤ b) (h3 : c ≤ y) (h4 : y ≤ d) : -4611686018427387904 ≤ x * y ∧ x * y ≤ 4611686018427387904 := by
  have p := (fok_iff _ _).1 h
  have q := (fok_iff _ _).1 k
  have := mul_abs (a := x) (b := y) (A := 2147483648) (B := 2147483648) (by omega) (by omega) (by omega) (by omega)
  omega
set_option maxHeartbeats 1000000 in
theorem rMul (a b c d : Int) (w : World) (h : fok a b = true) (k : fok c d = true) :
    Calls Try.prog 33 #[.agg #[.int .i64 a, .int .i64 b], .agg #[.int .i64 c, .int .i64 d]] w fun e w' => e = .returned (vR (mulR a b c d)) ∧ Below w.heap.size w w' := by
  obtain ⟨A, B, R⟩ := At2.three w (.int .i64 a) (.int .i64 b) (.int .i64 c) (.int .i64 d) (.int .i64 0) (.int .i64 0) 23 23 23
  have HB := Lib.hid (below3 w (.cells #[.int .i64 a, .int .i64 b] 23) (.cells #[.int .i64 c, .int .i64 d] 23) (.cells #[.int .i64 0, .int .i64 0] 23))
  have p := (fok_iff _ _).1 h
  have q := (fok_iff _ _).1 k
  have x1 := prod_fit h k (x := a) (y := c) (by omega) (by omega) (by omega) (by omega)
  have x2 := prod_fit h k (x := a) (y := d) (by omega) (by omega) (by omega) (by omega)
  have x3 := prod_fit h k (x := b) (y := c) (by omega) (by omega) (by omega) (by omega)
  have x4 := prod_fit h k (x := b) (y := d) (by omega) (by omega) (by omega) (by omega)
  unfold mulR min4 max4
  obtain ⟨x, hx⟩ : ∃ x, a * c = x := ⟨_, rfl⟩
  obtain ⟨y, hy⟩ : ∃ y, a * d = y := ⟨_, rfl⟩
  obtain ⟨z, hz⟩ : ∃ z, b * c = z := ⟨_, rfl⟩
  obtain ⟨v, hv⟩ : ∃ v, b * d = v := ⟨_, rfl⟩
  rw [hx] at x1 ⊢
  rw [hy] at x2 ⊢
  rw [hz] at x3 ⊢
  rw [hv] at x4 ⊢
  have w1 := w64_is hx (by omega) (by omega)
  have w2 := w64_is hy (by omega) (by omega)
  have w3 := w64_is hz (by omega) (by omega)
  have w4 := w64_is hv (by omega) (by omega)
  have L1 := Lib.hid (fun wx => rLe x y wx)
  have L2 := Lib.hid (fun wx => rLe z v wx)
  have L3 := Lib.hid (fun wx => rLe (min x y) (min z v) wx)
  have M1 := Lib.hid (fun wx => rMo x y wx)
  have M2 := Lib.hid (fun wx => rMo z v wx)
  have M3 := Lib.hid (fun wx => rMo (max x y) (max z v) wx)
  have F1 := Lib.hid (fun wx => rFl (min (min x y) (min z v)) 1073741824 wx (by omega) (by omega) (by omega))
  have F2 := Lib.hid (fun wx => rCe (max (max x y) (max z v)) 1073741824 wx (by omega) (by omega) (by omega))
  clear h k p q x1 x2 x3 x4 hx hy hz hv
  generalize min (min x y) (min z v) = l at *
  generalize max (max x y) (max z v) = u at *
  generalize min x y = l1 at *
  generalize min z v = l2 at *
  generalize max x y = u1 at *
  generalize max z v = u2 at *
  generalize l / 1073741824 = f at *
  generalize cdiv u 1073741824 = g at *
  have FF := Lib.hid (fun wx => rFit f g wx)
  generalize fit f g = F at *
  unfold vR at *
  obtain ⟨a0, a1, af0, af1, alt⟩ := id A
  obtain ⟨b0, b1, bf0, bf1, blt⟩ := id B
  go_enter Try.func33, Try.ntmps33
  go_wp2_with fail
  generalize ((w.alloc (.cells #[.int .i64 a, .int .i64 b] 23)).alloc (.cells #[.int .i64 c, .int .i64 d] 23)).alloc (.cells #[.int .i64 0, .int .i64 0] 23) = W at *
  go_quiet (fail)
  go_wp2_with fail
  refine (L1.out _).mono ?_
  rintro e w1 ⟨rfl, rfl⟩
  go_wp2_with fail
  refine (L2.out _).mono ?_
  rintro e w1 ⟨rfl, rfl⟩
  go_wp2_with fail
  refine (L3.out _).mono ?_
  rintro e w1 ⟨rfl, rfl⟩
  go_wp2_with fail
  refine (M1.out _).mono ?_
  rintro e w1 ⟨rfl, rfl⟩
  go_wp2_with fail
  refine (M2.out _).mono ?_
  rintro e w1 ⟨rfl, rfl⟩
  go_wp2_with fail
  refine (M3.out _).mono ?_
  rintro e w1 ⟨rfl, rfl⟩
  go_wp2_with fail
  refine (F1.out _).mono ?_
  rintro e w1 ⟨rfl, rfl⟩
  go_wp2_with fail
  refine (F2.out _).mono ?_
  rintro e w1 ⟨rfl, rfl⟩
  go_wp2_with fail
  refine (FF.out _).mono ?_
  rintro e w1 ⟨rfl, hb⟩
  have HW := Lib.hid (HB.out.trans ((below_drewN w.heap.size W nq).trans (hb.mono (by have := HB.out.size; simpa using this))))
  obtain ⟨r0, r1, rf0, rf1, rlt⟩ := (R.keep (below_drewN _ _ nq)).keep hb
  obtain ⟨s0, s1⟩ := set2 r0 r1 (.int .i64 F.l) (.int .i64 F.h)
  clear hb
  go_wp2_with fail
  refine bodyPost_ret (v := .tuple #[.agg #[.int .i64 F.l, .int .i64 F.h], .int .i64 F.e]) (by simp [results, Try.results33, go_sem, s0, s1]) rfl ⟨rfl, ?_⟩
  exact below_set2 HW.out (by omega) _ _
end Go.Proofs.Ytdkigfcglfgpoaa
